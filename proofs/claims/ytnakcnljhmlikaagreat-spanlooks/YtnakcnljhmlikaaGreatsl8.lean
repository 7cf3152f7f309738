import Derived.Laws.AppendOwn
import Derived.Deep.AppendSrc
import Derived.Lib.AppendZeros
import Derived.Deep.MidRow
import Derived.BigQuiet
import Derived.Lib.ConvBytes
import Derived.BigRegion
import Derived.Deep.RegionLaw
import Derived.Laws.OwnMore
import Derived.Test.YtnakcnljhmlikaaGreatsl7
set_option linter.unusedVariables false
set_option linter.constructorNameAsVariable false
set_option linter.unusedSimpArgs false
set_option maxRecDepth 1000000
set_option maxHeartbeats 4000000
namespace Go.Proofs.YtnakcnljhmlikaaGreat
open _root_.And renaming intro->Tj
open _root_.Array renaming getD_eq_getD_getElem?->Sz,getElem?_eq_getElem->SS,getElem?_eq_none->VD,getElem?_eq_some_iff->SZ,length_toList->Sx,replicate->So,setIfInBounds->Vf,setIfInBounds_comm->V2,toList_replicate->Wm
open _root_.Bool renaming and_eq_true->SC,false_ne_true->TK,or_eq_true->VV
open _root_.Fin renaming ext->Vx,val->YJ
open _root_.Go.Act renaming put->Tt
open _root_.Go.Addr renaming add->Vw
open _root_.Go.Builtin renaming append_->UG
open _root_.Go.Code renaming region->TX
open _root_.Go.Instr renaming box->TF,build->VA,buildSlice->UK,indexAt->To
open _root_.Go.Lib renaming wpList_append_run->UD
open _root_.Go.Op renaming equal->Z6
open _root_.Go.Oper renaming semAt_some->XK,upon_enter->UF,wp->TZ
open _root_.Go.Region renaming binds->TR,free->Wp,noSelect->VM,ready->Ts,wanted->Vk
open _root_.Go.RowKit.Below renaming refl->SE
open _root_.Go.Sem renaming run_bind->SK
open _root_.Go.Value renaming agg->SX,oneCell'->Zg,ownBlock->XC,slice->Tk,tuple->ZD
open _root_.Go.World renaming cell?_of_block->SR,frozen?_of_block->Uf,rangeAt->WA,size_alloc->Sq
open _root_.Int renaming cast_ofNat_Int->Xo,natCast_one->XQ
open _root_.List renaming all_eq_true->S4,any_eq_true->YZ,drop->U0,drop_length->YX,getElem?_eq_getElem->SH,getElem?_eq_some_iff->SI,length_append->Su,length_cons->Tc,length_map->SO,length_nil->UE,mem_append->UT,mem_cons->TP,mem_map->Tq,mem_range->TM,not_mem_nil->SL,range->TD,setIfInBounds_toArray->Sw,set_cons_succ->SN,set_cons_zero->SQ,size_toArray->Tf,take->UY
open _root_.Nat renaming add_zero->Ur,div_eq_of_lt->VB,le_of_ble_eq_true->TY,le_refl->Se,le_succ->Vh,le_trans->SD,lt_of_lt_of_le->Si,lt_of_succ_le->UX,lt_or_ge->UC,mod_eq_of_lt->SA,mod_lt->Ug,mul_add_div->Zj,mul_comm->S9,mul_pos->ZS,ne_of_gt->TC,ne_of_lt->TJ,not_lt_zero->UI,pow_le_pow_right->TT,pow_pos->Va,pow_succ->T8,reduceAdd->TG,reducePow->Wh,zero_add->Sj,zero_le->Us,zero_mod->VG
open _root_.Ne renaming symm->Yd
open _root_.Option renaming isSome_iff_exists->SU,map_eq_some_iff->Sf,some->Td
open _root_.Or renaming inl->SY,inr->SJ
open _root_.Subtype renaming ext_iff->Z3
open _root_.UInt8 renaming toNat_inj->Xq
open Go.Proofs.Tryz (prog)
section
open Go.RowKit Go.Sort Go.Deep
variable {P:Nat}[NeZero P]{N:Nat}
structure GOk(N n c:Nat)(G H:Nat->List (Nat × Bs))(U:List (Nat × Bs)):Prop where
 n0:0<n
 c0:0<c
 cn:c*n<=64
 g:∀i,i<n->TOk N (G i)/\(G i).length=c
 h:∀i,i<n->TOk N (H i)/\(H i).length=c
 u:TOk N U
 u0:0<U.length
 u9:U.length<=16
theorem GOk.nle{n c:Nat}{G H:Nat->List (Nat × Bs)}{U:List (Nat × Bs)}(h:GOk N n c G H U):n<=64:=by
 have h1:=h.cn;have:=Nat.mul_le_mul_right n h.c0;omega
theorem GOk.cle{n c:Nat}{G H:Nat->List (Nat × Bs)}{U:List (Nat × Bs)}(h:GOk N n c G H U):c<=64:=by
 have h1:=h.cn;have:=Nat.mul_le_mul_left c h.n0;omega
theorem LR(vg vh vu:Value)(w:World):(TF 59 (.agg #[vg,vh,vu])).run prog w=.ok (.pointer (some ⟨w.heap.size,0,none⟩)) (w.alloc (.cells #[vg,vh,vu] 59)):=kR
theorem uGL:(prog.underlying 55).map (·.isRow)=some false:=kR
theorem Ir(O:Ord N){Q:Nat->Prop}(n c:Nat)(G H:Nat->List (Nat × Bs))(U:List (Nat × Bs))(hG:GOk N n c G H U)(a b:Nat->Nat)(ha:∀i,i<n->a i<N)(hb:∀i,i<n->b i<N)(v va vb:Value)(w:World)(h0:GRq Q w v n G H U)(h1:SLq Q w va n a)(h2:SLq Q w vb n b):
 Calls prog 66 #[v,va,vb] w (rZ w λe w'=>Sm w.heap.size w' e (eJ N a G n++eJ N b H n)):=by
 obtain⟨vg,vh,vu,rfl,h3,h4,-⟩:=h0.ex;have hcA:=λ(W:World) (hB:Below w.heap.size w W)=>I4 O n c hG.n0 hG.c0 (by have:=hG.nle;omega) (by have:=hG.cn;omega) a G ha (λi hi=>(hG.g i hi).1) (λi hi=>(hG.g i hi).2) va vg W (h1.keep (Kq.of_below hB)) (h3.keep (Kq.of_below hB))
 have hcB:=λ(W:World) (hB:Below w.heap.size w W)=>I4 O n c hG.n0 hG.c0 (by have:=hG.nle;omega) (by have:=hG.cn;omega) b H hb (λi hi=>(hG.h i hi).1) (λi hi=>(hG.h i hi).2) vb vh W (h2.keep (Kq.of_below hB)) (h4.keep (Kq.of_below hB))
 have l1:(eJ N a G n).length=c*n:=eS N a n λi hi=>(hG.g i hi).2
 have l2:(eJ N b H n).length=c*n:=eS N b n λi hi=>(hG.h i hi).2
 have t1:TOk N (eJ N a G n):=nC O.pos n λi hi=>(hG.g i hi).1
 have t2:TOk N (eJ N b H n):=nC O.pos n λi hi=>(hG.h i hi).1
 have hp0:=ZS hG.c0 hG.n0;have hp1:=hG.cn;generalize eJ N a G n=la at hcA l1 t1⊢;generalize eJ N b H n=lb at hcB l2 t2⊢;have hPl:=λ(W:World) (u z:Value) (hu:Sm 0 W u la) (hz:Sm 0 W z lb)=>kO 0 u z la lb (by rw[Su];omega) oM oM t1.sz t2.sz W (SJ hu) (SJ hz)
 have HX:=Hid.mk' (Tj hcA (Tj hcB hPl));obtain⟨w1,hw1⟩:=hE (w.alloc (.cells #[vg,vh,vu] 59));obtain⟨k,hk⟩:=hE (w.heap.size);have K1:Hid (Row w1 k [vg,vh,vu]/\Below w.heap.size w w1):=by rw[<-hw1.out,<-hk.out];exact⟨aD w _ _,aB w _⟩
 obtain⟨v0,hv0⟩:=hE (SX #[vg,vh,vu]);have B1:Hid ((TF 59 v0).run prog w=.ok (pZ k) w1):=by rw[<-hv0.out,<-hw1.out,<-hk.out];exact LR _ _ _ _
 rw[hv0.out];go_enter Tryz.func66,Tryz.ntmps66;go_wp2_with (first|(refine aI (u:=v0) (v:=pZ k) (w':=w1) rfl 59 (.tmp 0) rfl ?_ ?_ ?_;rfl;exact B1.out)|fail)
 refine(RG.gwL [RG.pE va,RG.pE (pZ k),RG.pE vg,RG.pM (w.heap.size<=·) la,RG.pE vb,RG.pE (.pointer (some ⟨k,1,none⟩)),RG.pE vh,RG.pM (w.heap.size<=·) lb,RG.pM (w.heap.size<=·) (la++lb),RG.pM (w.heap.size<=·) (la++lb)] (λW=>Row W k [vg,vh,vu]/\Below w.heap.size w W) (λW W' hb h=>⟨h.1.below hb,h.2.trans (hb.mono h.2.size)⟩)).draws kR kR ⟨
  RG.gO 1 va,
  RG.gO 3 (pZ k),
  RG.iU 55 1 8 k 0 vg uGL (λx W h=>h) (λW hB=>hB.1.2.1 0 _ rfl) (λ_=>rfl),
  RG.jO 0 7 2 9 112 (λx y=>#[x,y]) (λx y W hx hy hB=>by
   obtain rfl:x=va:=hx;obtain rfl:y=vg:=hy;refine(HX.1 W hB.2).mono ?_;rintro e W' ⟨u,rfl,hb,hs⟩;exact⟨_,rfl,hb,hs.q.mono λg hg=>SD hB.2.size hg⟩),
  RG.gO 2 vb,
  RG.gP 3 (pZ k) (.pointer (some ⟨k,1,none⟩)),
  RG.iU 55 5 12 k 1 vh uGL (λx W h=>h) (λW hB=>hB.1.2.1 1 _ rfl) (λ_=>rfl),
  RG.jO 4 11 6 13 112 (λx y=>#[x,y]) (λx y W hx hy hB=>by
   obtain rfl:x=vb:=hx;obtain rfl:y=vh:=hy;refine(HX.2.1 W hB.2).mono ?_;rintro e W' ⟨u,rfl,hb,hs⟩;exact⟨_,rfl,hb,hs.q.mono λg hg=>SD hB.2.size hg⟩),
  RG.jO 3 10 7 14 28 (λx y=>#[x,y]) (λx y W hx hy hB=>by
   have hx:=hx;have hy:=hy;refine(HX.2.2 W x y hx.sm hy.sm).mono ?_;rintro e W' ⟨u,rfl,hb,hs⟩;exact⟨_,rfl,hb,hs.q.mono λg hg=>SD hB.2.size hg⟩),
  RG.FH 8 15 id (λx W h=>h),trivial⟩ ⟨K1.1,K1.2.drew⟩ ?_
 intro V w2 hR hB;have HS:=mk1 (hR 9 (UX (TY kR)));have HB:=mk1 (hB.2);dsimp only[RG.dJ,TG];simp only[Tt,Sw,SN,SQ];go_wp2;go_ret;exact⟨_,rfl,HB.out,HS.out⟩
theorem Lq(O:Ord N){Q:Nat->Prop}(n c:Nat)(G H:Nat->List (Nat × Bs))(U:List (Nat × Bs))(hG:GOk N n c G H U)(a b:Nat->Nat)(ha:∀i,i<n->a i<N)(hb:∀i,i<n->b i<N)(v va vb:Value)(w:World)(h0:GRq Q w v n G H U)(h1:SLq Q w va n a)(h2:SLq Q w vb n b):
 Calls prog 32 #[v,va,vb] w (rZ w λe w'=>Sm w.heap.size w' e (IC N a b (prS N a b n) G H U n)):=by
 have hLs:=λ(W:World) (hB:Below w.heap.size w W)=>Ir O n c G H U hG a b ha hb v va vb W (h0.keep (Kq.of_below hB)) (h1.keep (Kq.of_below hB)) (h2.keep (Kq.of_below hB))
 have hPr:=λ(W:World) (hB:Below w.heap.size w W)=>OH O n (by have:=hG.nle;omega) a b ha hb va vb W (h1.keep (Kq.of_below hB)) (h2.keep (Kq.of_below hB))
 obtain⟨vg,vh,vu,rfl,-,-,h5⟩:=h0.ex;have l1:(eJ N a G n).length=c*n:=eS N a n λi hi=>(hG.g i hi).2
 have l2:(eJ N b H n).length=c*n:=eS N b n λi hi=>(hG.h i hi).2
 have t1:TOk N (eJ N a G n):=nC O.pos n λi hi=>(hG.g i hi).1
 have t2:TOk N (eJ N b H n):=nC O.pos n λi hi=>(hG.h i hi).1
 have hp0:=ZS hG.c0 hG.n0;have hp1:=hG.cn;unfold IC;have pl:=Hw O.pos a b n;have t3:=hG.u.tm O.pos (prS N a b n);have l3:(U.map (tmT N (prS N a b n))).length<=16:=by rw[SO];exact hG.u9
 generalize prS N a b n=p at hPr pl t3 l3⊢;have hTi:=λ(W:World) (hB:Below w.heap.size w W)=>iP O pl 0 vu U (by have:=hG.u9;omega) hG.u.szm hG.u.lt W (h5.sm.grow hB)
 generalize U.map (tmT N p)=lu at hTi t3 l3⊢;have t4:=t1.app t2;have l4:(eJ N a G n++eJ N b H n).length=c*n+c*n:=by rw[Su,l1,l2]
 generalize eJ N a G n++eJ N b H n=lab at hLs t4 l4⊢;have hPl:=λ(W:World) (u z:Value) (hu:Sm 0 W u lab) (hz:Sm 0 W z lu)=>kO 0 u z lab lu (by rw[Su];omega) oM oM t4.sz t3.sz W (SJ hu) (SJ hz)
 have HX:=Hid.mk' (Tj hLs (Tj hPr (Tj hTi hPl)));obtain⟨w1,hw1⟩:=hE (w.alloc (.cells #[vg,vh,vu] 59));obtain⟨k,hk⟩:=hE (w.heap.size);have K1:Hid (Row w1 k [vg,vh,vu]/\Below w.heap.size w w1):=by rw[<-hw1.out,<-hk.out];exact⟨aD w _ _,aB w _⟩
 obtain⟨v0,hv0⟩:=hE (SX #[vg,vh,vu]);have B1:Hid ((TF 59 v0).run prog w=.ok (pZ k) w1):=by rw[<-hv0.out,<-hw1.out,<-hk.out];exact LR _ _ _ _
 rw[hv0.out];go_enter Tryz.func32,Tryz.ntmps32;go_wp2_with (first|(refine aI (u:=v0) (v:=pZ k) (w':=w1) rfl 59 (.tmp 0) rfl ?_ ?_ ?_;rfl;exact B1.out)|fail)
 refine(RG.gwL [RG.pE (.agg #[vg,vh,vu]),RG.pE va,RG.pE vb,RG.pM (w.heap.size<=·) lab,RG.pE (.pointer (some ⟨k,2,none⟩)),RG.pE vu,RG.pE va,RG.pE vb,RG.pE (nv p),RG.pM (w.heap.size<=·) lu,RG.pM (w.heap.size<=·) (lab++lu),RG.pM (w.heap.size<=·) (lab++lu)] (λW=>Row W k [vg,vh,vu]/\Below w.heap.size w W) (λW W' hb h=>⟨h.1.below hb,h.2.trans (hb.mono h.2.size)⟩)).draws kR kR ⟨
  RG.lN 59 3 k 0 [vg,vh,vu] uGr iGr rfl (λW hB=>hB.1.2.1) (λ_=>rfl),
  RG.gO 1 va,
  RG.gO 2 vb,
  RG.Er 0 7 1 8 2 9 66 (λx y z=>#[x,y,z]) (λx y z W hx hy hz hB=>by
   obtain rfl:x=.agg #[vg,vh,vu]:=hx;obtain rfl:y=va:=hy;obtain rfl:z=vb:=hz;refine(HX.1 W hB.2).mono ?_;rintro e W' ⟨u,rfl,hb,hs⟩;exact⟨_,rfl,hb,hs.q.mono λg hg=>SD hB.2.size hg⟩),
  RG.gP 3 (pZ k) (.pointer (some ⟨k,2,none⟩)),
  RG.iU 57 4 11 k 2 vu Gx (λx W h=>h) (λW hB=>hB.1.2.1 2 _ rfl) (λ_=>rfl),
  RG.gO 1 va,
  RG.gO 2 vb,
  RG.jO 6 13 7 14 68 (λx y=>#[x,y]) (λx y W hx hy hB=>by
   obtain rfl:x=va:=hx;obtain rfl:y=vb:=hy;refine(HX.2.1 W hB.2).mono ?_;rintro e W' ⟨u,rfl,hb,rfl⟩;exact⟨_,rfl,hb,rfl⟩),
  RG.jO 5 12 8 15 67 (λx y=>#[x,y]) (λx y W hx hy hB=>by
   obtain rfl:x=vu:=hx;obtain rfl:y=nv p:=hy;refine(HX.2.2.1 W hB.2).mono ?_;rintro e W' ⟨u,rfl,hb,hs⟩;exact⟨_,rfl,hb,hs.q.mono λg hg=>SD hB.2.size hg⟩),
  RG.jO 3 10 9 16 28 (λx y=>#[x,y]) (λx y W hx hy hB=>by
   have hx:=hx;have hy:=hy;refine(HX.2.2.2 W x y hx.sm hy.sm).mono ?_;rintro e W' ⟨u,rfl,hb,hs⟩;exact⟨_,rfl,hb,hs.q.mono λg hg=>SD hB.2.size hg⟩),
  RG.FH 10 17 id (λx W h=>h),trivial⟩ ⟨K1.1,K1.2.drew⟩ ?_
 intro V w2 hR hB;have HS:=mk1 (hR 11 (UX (TY kR)));have HB:=mk1 (hB.2);dsimp only[RG.dJ,TG];simp only[Tt,Sw,SN,SQ];go_wp2;go_ret;exact⟨_,rfl,HB.out,HS.out⟩
section
variable {P:Program}{ops:Array Oper}{rest:List Oper}{op:Oper}{a:Act}{w w':World}{v:Value}{Q:Exit->Act->World->Prop}
theorem bB(hgd:op.guard=none)(T:TypeId)(t:Tmp)(_:op.op=.alloc T)(_:op.dst=some t)(hr:(execOp a.eval op).run P w=.ok (.value v) w')(h:wpList P ops Q rest (a.put op.dst v) w'):wpList P ops Q (op :: rest) a w:=
 wpList_plain hgd λK hK=>by
  unfold TZ;rw[hr];exact hK _ _ h
end
theorem QC(g o j:Nat):(⟨g,o,none⟩:Addr).add j=⟨g,o+j,none⟩:=by
 unfold Vw;by_cases h0:j=0
 ·subst h0;rw[if_pos rfl];rfl
 ·rw[if_neg h0]
theorem GRq.ar{Q:Nat->Prop}{W:World}{v:Value}{n:Nat}{G H:Nat->List (Nat × Bs)}{U:List (Nat × Bs)}(h:GRq Q W v n G H U):∃e:Array Value,v=.agg e/\e.size=3/\e.all (·.oneCell')=true:=by
 obtain⟨vg,vh,vu,rfl,⟨g1,o1,c1,rfl,-⟩,⟨g2,o2,c2,rfl,-⟩,⟨g3,c3,rfl,-⟩⟩:=h.ex;exact⟨_,rfl,rfl,kR⟩
structure FgI(w W:World)(k x xi:Nat)(vg vh vu:Value):Prop where
 bl:Below w.heap.size w W
 r2:Row W k [vg,vh,vu]
 r3:Row W (k+1) (wn x)
 r4:Row W (k+2) [.slice none 0 0,.slice none 0 0,.slice none 0 0]
theorem FgI.grow{w W W':World}{k x xi:Nat}{vg vh vu:Value}(h:FgI w W k x xi vg vh vu)(hb:Below W.heap.size W W'):FgI w W' k x xi vg vh vu:=⟨h.bl.trans (hb.mono h.bl.size),h.r2.below hb,h.r3.below hb,h.r4.below hb⟩
theorem FgI.drew{w W:World}{k x xi:Nat}{vg vh vu:Value}(h:FgI w W k x xi vg vh vu):FgI w W.drew k x xi vg vh vu:=h.grow ⟨rfl,rfl,rfl,Se _,λ_ _=>rfl⟩
theorem Lz(O:Ord N){Q:Nat->Prop}(n c:Nat)(hn0:0<n)(G H:Nat->List (Nat × Bs))(U:List (Nat × Bs))(hG:GOk N (n+n) c G H U)(x:Nat)(hx:x<N)(v:Value)(w:World)(hQ:∀g,w.heap.size<=g->Q g)(h0:GRq Q w v (n+n) G H U):
 Calls prog 31 #[v,nv x] w (rZ w λe w'=>GRq Q w' e n (qE N (sIn N x) x n G) (qE N x (sIn N x) n H) U):=by
 obtain⟨vg,vh,vu,rfl,h3,h4,h5⟩:=h0.ex;have hxi:sIn N x<N:=Ug _ O.pos;have hIn:=λW=>DV O x hx W
 have hF1:=λ(W:World) (hB:Below w.heap.size w W)=>IL O n (by have:=hG.nle;omega) c (by have:=hG.cle;omega) hG.c0 G (sIn N x) x hxi hx hG.g vg W (h3.keep (Kq.of_below hB))
 have hF2:=λ(W:World) (hB:Below w.heap.size w W)=>IL O n (by have:=hG.nle;omega) c (by have:=hG.cle;omega) hG.c0 H x (sIn N x) hx hxi hG.h vh W (h4.keep (Kq.of_below hB))
 generalize qE N (sIn N x) x n G=G' at hF1⊢;generalize qE N x (sIn N x) n H=H' at hF2⊢;generalize sIn N x=xi at hIn hF1 hF2;have HX:=mk3 hIn hF1 hF2;have HU:=mk2 h5 hQ;obtain⟨k,hk⟩:=hE (w.heap.size);obtain⟨w1,hw1⟩:=hE (w.alloc (.cells #[vg,vh,vu] 59));obtain⟨w2,hw2⟩:=hE (w1.alloc (.cells (wn x).toArray 43));obtain⟨w3,hw3⟩:=hE (w2.alloc (.cells #[.slice none 0 0,.slice none 0 0,.slice none 0 0] 59));have hz1:w1.heap.size=k+1:=by rw[<-hw1.out,Sq,hk.out]
 have hz2:w2.heap.size=k+2:=by rw[<-hw2.out,Sq,hz1]
 have K3:Hid (FgI w w3 k x xi vg vh vu):=by
  have b1:Below w.heap.size w w1:=by rw[<-hw1.out];exact aB _ _
  have b2:Below w1.heap.size w1 w2:=by rw[<-hw2.out];exact aB _ _
  have b3:Below w2.heap.size w2 w3:=by rw[<-hw3.out];exact aB _ _
  have r1:Row w1 k [vg,vh,vu]:=by rw[<-hw1.out,<-hk.out];exact aD w _ _
  have r2:Row w2 (k+1) (wn x):=by rw[<-hw2.out,<-hz1];exact aD w1 _ _
  have r3:Row w3 (k+2) [.slice none 0 0,.slice none 0 0,.slice none 0 0]:=by rw[<-hw3.out,<-hz2];exact aD w2 _ _
  exact⟨(b1.trans (b2.mono b1.size)).trans (b3.mono (SD b1.size b2.size)),(r1.below b2).below b3,r2.below b3,r3⟩
 obtain⟨v0,hv0⟩:=hE (SX #[vg,vh,vu]);obtain⟨vx,hvx⟩:=hE (nv x);have B1:Hid ((TF 59 v0).run prog w=.ok (pZ k) w1):=by rw[<-hv0.out,<-hw1.out,<-hk.out];exact LR _ _ _ _
 have B2:Hid ((TF 43 vx).run prog w1=.ok (.pointer (some ⟨k+1,0,none⟩)) w2):=by rw[<-hvx.out,<-hw2.out,<-hz1];exact boxS x w1
 have HZ:=mk1 (hz2);obtain⟨d,hd1,hd2⟩:=Sf.1 u40;have HD:=mk2 hd1 hd2;rw[hv0.out,hvx.out];go_enter Tryz.func31,Tryz.ntmps31;go_wp2_with (first|(refine aI (u:=v0) (v:=pZ k) (w':=w1) rfl 59 (.tmp 0) rfl ?_ ?_ ?_;rfl;exact B1.out)|(refine aI (u:=vx) (v:=.pointer (some ⟨k+1,0,none⟩)) (w':=w2) rfl 43 (.tmp 1) rfl ?_ ?_ ?_;rfl;exact B2.out)|(refine bB (v:=.pointer (some ⟨k+2,0,none⟩)) (w':=w3) rfl 59 4 rfl rfl ?_ ?_;(rw[<-hw3.out,<-HZ.out];kernel_rfl))|(refine ldR 3 K3.r3.2.1 hvx u40 nSc ?_)|fail)
 rw[<-hvx.out];refine(HX.1 w3).mono ?_;rintro e w4 ⟨u,rfl,hb4,rfl⟩;obtain⟨k5,hk5⟩:=hE (w4.heap.size);obtain⟨w5,hw5⟩:=hE (w4.alloc (.cells #[uZ 0,uZ 0,uZ 0,uZ 0] 43));obtain⟨w6,hw6⟩:=hE (w5.setCells k5 0 (wn xi));have F5:Hid (Row w5 k5 [uZ 0,uZ 0,uZ 0,uZ 0]/\Below w4.heap.size w4 w5):=by rw[<-hw5.out,<-hk5.out];exact⟨aD w4 _ _,aB _ _⟩
 have K6:Hid (FgI w w6 k x xi vg vh vu/\Row w6 k5 (wn xi)):=by
  rw[<-hw6.out];exact⟨(K3.grow hb4).grow (RG.below_setCells (by rw[hk5.out];exact Se _) _ _ _ F5.2),F5.1.put rfl⟩
 obtain⟨vi,hvi⟩:=hE (nv xi);rw[hvi.out];go_wp2_with (first|(refine alR 5 hk5 hw5 ?_)|(refine stR 5 hw6 hvi F5.1.2.2 nSc (dE xi) ?_)|fail)
 refine(RG.gwL [RG.pE (pZ k),RG.pE vg,RG.pE (nv xi),RG.pE (nv x),RG.pG (λg=>w.heap.size<=g/\g≠k+2) n G',RG.pE (.pointer (some ⟨k,1,none⟩)),RG.pE vh,RG.pE (nv x),RG.pE (nv xi),RG.pG (λg=>w.heap.size<=g/\g≠k+2) n H',RG.pE (.pointer (some ⟨k,2,none⟩)),RG.pE vu,⟨λv W=>∃x y,v=.agg #[x,y,vu]/\GLq (λg=>w.heap.size<=g/\g≠k+2) W x n G'/\GLq (λg=>w.heap.size<=g/\g≠k+2) W y n H',λ_ _ _ hb ⟨x,y,h1,h2,h3⟩=>⟨x,y,h1,h2.keep (Kq.of_below hb),h3.keep (Kq.of_below hb)⟩⟩] (λW=>FgI w W k x xi vg vh vu/\Row W k5 (wn xi)) (λW W' hb h=>⟨h.1.grow hb,h.2.below hb⟩)).last 13 kR kR kR ⟨
  RG.gO 2 (pZ k),
  RG.iU 55 0 8 k 0 vg uGL (λx W h=>h) (λW hB=>hB.1.r2.2.1 0 _ rfl) (λ_=>rfl),
  RG.lN 43 5 k5 0 (wn xi) rSc nSc rfl (λW hB=>hB.2.2.1) (λ_=>rfl),
  RG.lN 43 3 (k+1) 0 (wn x) rSc nSc rfl (λW hB=>hB.1.r3.2.1) (λ_=>rfl),
  RG.Er 1 9 2 10 3 11 65 (λx y z=>#[x,y,z]) (λa b c W ha hb hc hB=>by
   obtain rfl:a=vg:=ha;obtain rfl:b=nv xi:=hb;obtain rfl:c=nv x:=hc;refine(HX.2.1 W hB.1.bl).mono ?_;rintro e W' ⟨u,rfl,hb,hs⟩;exact⟨_,rfl,hb,hs.mono λg hg=>⟨SD hB.1.bl.size hg,by have:=hB.1.r4.1;omega⟩⟩),
  RG.gP 2 (pZ k) (.pointer (some ⟨k,1,none⟩)),
  RG.iU 55 5 13 k 1 vh uGL (λx W h=>h) (λW hB=>hB.1.r2.2.1 1 _ rfl) (λ_=>rfl),
  RG.lN 43 3 (k+1) 0 (wn x) rSc nSc rfl (λW hB=>hB.1.r3.2.1) (λ_=>rfl),
  RG.lN 43 5 k5 0 (wn xi) rSc nSc rfl (λW hB=>hB.2.2.1) (λ_=>rfl),
  RG.Er 6 14 7 15 8 16 65 (λx y z=>#[x,y,z]) (λa b c W ha hb hc hB=>by
   obtain rfl:a=vh:=ha;obtain rfl:b=nv x:=hb;obtain rfl:c=nv xi:=hc;refine(HX.2.2 W hB.1.bl).mono ?_;rintro e W' ⟨u,rfl,hb,hs⟩;exact⟨_,rfl,hb,hs.mono λg hg=>⟨SD hB.1.bl.size hg,by have:=hB.1.r4.1;omega⟩⟩),
  RG.gP 2 (pZ k) (.pointer (some ⟨k,2,none⟩)),
  RG.iU 57 10 18 k 2 vu Gx (λx W h=>h) (λW hB=>hB.1.r2.2.1 2 _ rfl) (λ_=>rfl),
  RG.cE (λa W hp=>by
   have h1:=hp.n 4 12 kR kR;have h2:=hp.n 9 17 kR kR;have h3:=hp.n 11 19 kR kR;obtain⟨g1,o1,c1,e1,-⟩:=id h1;obtain⟨g2,o2,c2,e2,-⟩:=id h2;obtain⟨g3,c3,e3,-⟩:=HU.1;rw[e1]at h1;rw[e2]at h2;refine⟨[(12,.slice (some ⟨g1,o1,none⟩) n c1),(17,.slice (some ⟨g2,o2,none⟩) n c2),(19,vu)],.agg #[.slice (some ⟨g1,o1,none⟩) n c1,.slice (some ⟨g2,o2,none⟩) n c2,vu],W,⟨e1,e2,h3,trivial⟩,?_,SE _ _,⟨_,_,rfl,h1,h2⟩⟩;rw[e3];kernel_rfl),trivial⟩ ⟨K6.1.drew,K6.2⟩ ?_
 intro V w7 hR hB;obtain⟨x1,y1,hV,hG1,hH1⟩:∃x y,V 12=.agg #[x,y,vu]/\GLq (λg=>w.heap.size<=g/\g≠k+2) w7 x n G'/\GLq (λg=>w.heap.size<=g/\g≠k+2) w7 y n H':=hR 12 dC;have hU7:=HU.1.keep (Kq.of_below hB.1.bl);have hqq:∀g,w.heap.size<=g/\g≠k+2->Q g:=λg hg=>HU.2 g hg.1
 have gr:GRq Q w7 (.agg #[x1,y1,vu]) n G' H' U:=⟨_,_,_,rfl,hG1.mono hqq,hH1.mono hqq,hU7⟩
 obtain⟨e,he,hes,hea⟩:=gr.ar;obtain rfl:#[x1,y1,vu]=e:=by injection he
 obtain⟨w8,hw8⟩:=hE (w7.setCells (k+2) 0 [x1,y1,vu]);have K8:Hid (Below w.heap.size w w8/\Row w8 (k+2) [x1,y1,vu]/\GRq Q w8 (.agg #[x1,y1,vu]) n G' H' U):=by
  rw[<-hw8.out];have kq:Kq (λg=>w.heap.size<=g/\g≠k+2) w7 (w7.setCells (k+2) 0 [x1,y1,vu]):=Kq.set λg hg=>hg.2
  have hb8:Below w.heap.size w (w7.setCells (k+2) 0 [x1,y1,vu]):=RG.below_setCells (by rw[hk.out];omega) _ _ _ hB.1.bl;exact⟨hb8,hB.1.r4.put rfl,_,_,_,rfl,(hG1.keep kq).mono hqq,(hH1.keep kq).mono hqq,HU.1.keep (Kq.of_below hb8)⟩
 have HT:=mk2 hB.1.r4.2.2 hea;dsimp only[RG.dJ,TG,UY,U0];simp only[Tt,Sw,SN,SQ];obtain⟨ve,hve⟩:=hE (SX #[x1,y1,vu]);rw[hV,hve.out];go_wp2_with (first|(refine wpList_store_mid rfl 59 (.tmp 4) _ rfl (k+2) 0 #[x1,y1,vu] ?_ ?_ ?_ ?_ ?_ ?_;rfl;exact hve.symm;exact HT.1;exact iGr;exact HT.2;rw[show(#[x1,y1,vu]:Array Value).toList=[x1,y1,vu] from rfl,hw8.out])|fail)
 refine bodyPost_ret (aP 4 59 rfl K8.2.1 rfl uGr iGr) rfl ?_;exact⟨_,rfl,K8.1,K8.2.2⟩
def lgV(r:Nat):Value:=.agg #[pZ r]
theorem uLg:(prog.underlying 53).map (·.isRow)=some true:=kR
theorem iLg:(prog.info? 53).map (·.size)=some 1:=kR
theorem uLp:(prog.underlying 49).map (·.isRow)=some false:=kR
theorem Qt(r:Nat)(w:World):(TF 53 (lgV r)).run prog w=.ok (.pointer (some ⟨w.heap.size,0,none⟩)) (w.alloc (.cells #[pZ r] 53)):=kR
theorem iM{W:World}{r K o:Nat}{vs:List Value}{L:Bs}(h:Holds encB W r 0 L)(hne:r≠K):Holds encB (W.setCells K o vs) r 0 L:=λj hj=>by
 have e:=RG.aS K vs o W r hne;rw[SR (a:=⟨r,0+j,none⟩) e,Uf (a:=⟨r,0+j,none⟩) e];exact h j hj
theorem Fu(label:ByteArray)(w:World)(hlab:label.size<=1048576):Calls prog 35 #[.string label] w (rZ w λe w'=>∃r,e=lgV r/\w.heap.size<=r/\r<w'.heap.size/\Holds encB w' r 0 (SP.newL label.data.toList)):=by
 obtain⟨L,hL⟩:=hE (SP.newL label.data.toList);rw[hL.out];obtain⟨w1,hw1⟩:=hE (w.alloc (.cells #[.pointer none] 53));have K1:Hid (Row w1 w.heap.size [.pointer none]/\Below w.heap.size w w1):=by rw[<-hw1.out];exact⟨aD w _ _,aB w _⟩
 go_enter Tryz.func35,Tryz.ntmps35;go_wp2_with fail
 rw[hw1.out];refine(E9 label w1 hlab).mono ?_;rintro e w2 ⟨vv,rfl,hb2,r,rfl,hr1,hr2,hH2⟩;rw[hL.out]at hH2;have hle:=Si K1.1.1 hr1;have K2:=mk4 (K1.1.below hb2) (K1.2.trans (hb2.mono K1.2.size)) hH2 hr2;obtain⟨w5,hw5⟩:=hE (w2.setCells w.heap.size 0 [pZ r]);have K5:Hid (Row w5 w.heap.size [pZ r]/\Below w.heap.size w w5/\Holds encB w5 r 0 L/\r<w5.heap.size):=by
  rw[<-hw5.out];exact⟨K2.1.put rfl,RG.below_setCells (Se _) _ _ _ K2.2.1,iM K2.2.2.1 oM,by rw[RG.setCells_size];exact K2.2.2.2⟩
 go_wp2_with (refine bG (v:=.agg #[pZ r]) (w':=w2) rfl (.build 53 _) rfl ?_ ?_;kernel_rfl;refine Hid.out ?_)
 show wpList _ _ _ _ _ _;refine wpList_store_mid rfl 53 _ _ rfl w.heap.size 0 #[pZ r] ?_ ?_ ?_ ?_ ?_ ?_
 ·kernel_rfl
 ·kernel_rfl
 ·exact K2.1.2.2
 ·exact iLg
 ·kernel_rfl
 rw[show(#[pZ r]).toList=[pZ r] from rfl,hw5.out];go_wp2;refine bodyPost_ret (aP 2 53 rfl K5.1 rfl uLg iLg) rfl ?_;exact⟨_,rfl,K5.2.1,r,rfl,oM,K5.2.2.2,K5.2.2.1⟩
theorem wX(O:Ord N)(r:Nat)(L:Bs)(w:World)(hL:Holds encB w r 0 L)(hl:L.size=32):
 Calls prog 105 #[.agg #[pZ r]] w (Ret λe w'=>SP.Only r 0 32 w w'/\Holds encB w' r 0 (gZ L)/\e=nv (cha N L)):=by
 have hr:=Holds.lt hL oM;obtain⟨w1,hw1⟩:∃w1,Hid ((w.alloc (.cells #[pZ r] 51)).alloc (.cells #[uZ 0,uZ 0,uZ 0,uZ 0] 43)=w1):=⟨_,rfl⟩
 have K1:Hid (Row w1 (w.heap.size+1) [uZ 0,uZ 0,uZ 0,uZ 0]/\Below w.heap.size w w1/\Holds encB w1 r 0 L/\w1.rangeAt w.heap.size 0 [pZ r]):=by
  rw[<-hw1.out];have hb:Below w.heap.size w ((w.alloc (.cells #[pZ r] 51)).alloc (.cells #[uZ 0,uZ 0,uZ 0,uZ 0] 43)):=(aB w _).alloc (by rw[Sq];omega) _;have hR:=aD (w.alloc (.cells #[pZ r] 51)) [uZ 0,uZ 0,uZ 0,uZ 0] 43;rw[Sq]at hR;exact⟨hR,hb,Holds.below hL hb hr,((aD w [pZ r] 51).alloc _).2.1⟩
 clear hL;obtain⟨d,hd1,hd2⟩:=Sf.1 u124;have HD:Hid (prog.underlying 51=some d/\d.isRow=true):=⟨hd1,hd2⟩
 clear hd1 hd2;have hS:=Cg O r L ⟨#[99,104,97,108,108,101,110,103,101]⟩ w1 dC K1.2.2.1 hl;have hcha:oZ N (SP.tC L (⟨#[99,104,97,108,108,101,110,103,101]⟩:ByteArray).data.toList 64)=cha N L:=rfl;have hwen:SP.lJ L (⟨#[99,104,97,108,108,101,110,103,101]⟩:ByteArray).data.toList=gZ L:=rfl;rw[hcha,hwen]at hS;have hws:(gZ L).size=32:=SP.fH _ _;have HS:=Hid.mk' hS;obtain⟨m,hm⟩:=hE (cha N L);obtain⟨L',hL'⟩:=hE (gZ L);rw[hm.out,hL'.out]at HS;rw[hL'.out]at hws;rw[hm.out,hL'.out];go_enter Tryz.func105,Tryz.ntmps105;go_wp2_with (refine wpList_load_mid rfl 51 _ rfl w.heap.size 0 ?_ [pZ r] d ?_ ?_ ?_ ?_ ?_;kernel_rfl;(rw[hw1.out];exact K1.2.2.2);exact HD.1;exact HD.2;exact i124;rw[hw1.out])
 refine HS.mono ?_;rintro e w4 ⟨v,rfl,hO,hH,rfl⟩;have hr4:=Holds.lt hH oM;have K4:=mk3 (K1.1.only hO oM) ((SP.Only.of_below K1.2.1 rfl hr).trans hO) hH;obtain⟨w5,hw5⟩:=hE (w4.setCells (w.heap.size+1) 0 (wn m));have K5:Hid (Row w5 (w.heap.size+1) (wn m)/\SP.Only r 0 32 w w5/\Holds encB w5 r 0 L'):=by rw[<-hw5.out];exact⟨K4.1.put rfl,bR K4.2.1 hr oM _,iM K4.2.2 oM⟩
 obtain⟨vm,hvm⟩:=hE (nv m);rw[hvm.out];go_wp2_with (refine wpList_store_mid rfl 43 _ _ rfl (w.heap.size+1) 0 (wn m).toArray ?_ ?_ ?_ ?_ ?_ ?_;rfl;exact hvm.symm;exact K4.1.2.2;exact i40;exact dE m;rw[show(wn m).toArray.toList=wn m from rfl,hw5.out])
 refine bodyPost_ret (aP 2 43 rfl K5.1 rfl u40 i40) rfl ?_;exact⟨_,rfl,K5.2.1,K5.2.2,rfl⟩
def chS(N:Nat)(L:Bs):Nat:=jM (cha N L)
theorem EG[NeZero N](h1:1<N)(L:Bs)(hc:cha N L<N):chS N L=(Ak N L).val:=by
 unfold chS Ak KW jM;generalize cha N L=c at hc;have hv:(ofF N c).val=c:=SA hc;by_cases h0:c=0
 ·subst h0;rw[if_pos rfl,if_pos Ib];exact(SA h1).symm
 ·rw[if_neg h0,if_neg (λe=>h0 (by rw[<-hv,e];exact VG N)),hv]
theorem I5(O:Ord N)(r:Nat)(L:Bs)(w:World)(hL:Holds encB w r 0 L)(hl:L.size=32):
 Calls prog 61 #[lgV r] w (Ret λe w'=>SP.Only r 0 32 w w'/\Holds encB w' r 0 (gZ L)/\e=nv (chS N L)):=by
 have hr:=Holds.lt hL oM;obtain⟨w1,hw1⟩:∃w1,Hid ((w.alloc (.cells #[pZ r] 53)).alloc (.cells #[uZ 0,uZ 0,uZ 0,uZ 0] 43)=w1):=⟨_,rfl⟩
 have K1:Hid (Row w1 (w.heap.size+1) [uZ 0,uZ 0,uZ 0,uZ 0]/\Below w.heap.size w w1/\Holds encB w1 r 0 L/\w1.rangeAt w.heap.size 0 [pZ r]):=by
  rw[<-hw1.out];have hb:Below w.heap.size w ((w.alloc (.cells #[pZ r] 53)).alloc (.cells #[uZ 0,uZ 0,uZ 0,uZ 0] 43)):=(aB w _).alloc (by rw[Sq];omega) _;have hR:=aD (w.alloc (.cells #[pZ r] 53)) [uZ 0,uZ 0,uZ 0,uZ 0] 43;rw[Sq]at hR;exact⟨hR,hb,Holds.below hL hb hr,((aD w [pZ r] 53).alloc _).2.1⟩
 clear hL;obtain⟨d,hd1,hd2⟩:=Sf.1 u124;have HD:Hid (prog.underlying 51=some d/\d.isRow=true):=⟨hd1,hd2⟩
 clear hd1 hd2;have hS:=wX O r L w1 K1.2.2.1 hl;have hcl:cha N L<N:=tK O _;have hOr:=λW=>KT O hcl W
 have hcs:jM (cha N L)=chS N L:=rfl;rw[hcs]at hOr;have hws:(gZ L).size=32:=SP.fH _ _;obtain⟨m,hm⟩:=hE (cha N L);obtain⟨q,hq⟩:=hE (chS N L);obtain⟨L',hL'⟩:=hE (gZ L);have HS:=Hid.mk' hS;have HO:=Hid.mk' hOr;rw[hm.out,hL'.out]at HS;rw[hm.out,hq.out]at HO;rw[hL'.out]at hws;rw[hq.out,hL'.out];unfold lgV;go_enter Tryz.func61,Tryz.ntmps61;go_wp2_with (refine wpList_load_mid rfl 51 _ rfl w.heap.size 0 ?_ [pZ r] d ?_ ?_ ?_ ?_ ?_;kernel_rfl;(rw[hw1.out];exact K1.2.2.2);exact HD.1;exact HD.2;exact i124;rw[hw1.out])
 refine HS.mono ?_;rintro e w4 ⟨v,rfl,hO,hH,rfl⟩;have hr4:=Holds.lt hH oM;have K4:=mk3 (K1.1.only hO oM) ((SP.Only.of_below K1.2.1 rfl hr).trans hO) hH;go_wp2_with fail
 refine(HO w4).mono ?_;rintro e w6 ⟨v6,rfl,hb6,rfl⟩;have K6:=mk3 (K4.1.below hb6) (K4.2.1.trans (SP.Only.of_below hb6 rfl hr4)) (Holds.below K4.2.2 hb6 hr4);obtain⟨w5,hw5⟩:=hE (w6.setCells (w.heap.size+1) 0 (wn q));have K5:Hid (Row w5 (w.heap.size+1) (wn q)/\SP.Only r 0 32 w w5/\Holds encB w5 r 0 L'):=by rw[<-hw5.out];exact⟨K6.1.put rfl,bR K6.2.1 hr oM _,iM K6.2.2 oM⟩
 obtain⟨vm,hvm⟩:=hE (nv q);rw[hvm.out];go_wp2_with (refine wpList_store_mid rfl 43 _ _ rfl (w.heap.size+1) 0 (wn q).toArray ?_ ?_ ?_ ?_ ?_ ?_;rfl;exact hvm.symm;exact K6.1.2.2;exact i40;exact dE q;rw[show(wn q).toArray.toList=wn q from rfl,hw5.out])
 refine bodyPost_ret (aP 2 43 rfl K5.1 rfl u40 i40) rfl ?_;exact⟨_,rfl,K5.2.1,K5.2.2,rfl⟩
end
namespace RG
open Go Go.RowKit
variable {P:Program}{ops:Array Oper}{Q:Exit->Act->World->Prop}{w:World}{a0:Act}{F:Flow}
def qX(ops:Array Oper):Nat->Nat->Nat->Bool
 | 0,i,j=>depOn ops i j
 | f+1,i,j=>depOn ops i j || (TD i).any (λx=>depOn ops i x && qX ops f x j)
def rQ(ops:Array Oper)(n:Nat):Bool:=(TD n).all (λj=>qX ops 5 n j) && (TD ops.size).all (λi=>decide (i<=n) || depOn ops i (i-1))
theorem wG{n i:Nat}(h:rQ ops n=true)(hi:n<i)(his:i<ops.size):depOn ops i (i-1)=true:=by
 unfold rQ at h;rw[SC]at h;have h1:=S4.1 h.2 i (TM.2 his);rw[VV,decide_eq_true_eq]at h1;rcases h1 with h1|h1
 ·omega
 ·exact h1
theorem AS{L:Array Bool}{a:Act}(hI:InvF F ops a0 L a w):∀(f i j:Nat),i<ops.size->on L i=true->qX ops f i j=true->on L j=true
 | 0,i,j,his,hi,h=>by
  have hox:=SS his;unfold qX depOn at h;rw[hox]at h;exact Ab (ho:=hox) hI h hi
 | f+1,i,j,his,hi,h=>by
  have hox:=SS his;unfold qX at h;rw[VV]at h;have hd:∀x,depOn ops i x=true->on L x=true:=λx hx=>by
   unfold depOn at hx;rw[hox]at hx;exact Ab (ho:=hox) hI hx hi
  rcases h with h|h
  ·exact hd j h
  ·obtain⟨x,hx,h3⟩:=YZ.1 h;rw[SC]at h3;exact AS hI f x j (by have:=TM.1 hx;omega) (hd x h3.1) h3.2
theorem E6{n:Nat}(hc:rQ ops n=true)(hlt:∀(i:Nat) (o:Oper),ops[i]? = some o->∀e∈o.after,TR .any e=true->e.on<i):∀(fuel:Nat) (L:Array Bool) (a:Act) (w:World) (m:Nat),n<=m->m<=ops.size->L.size=ops.size->(∀j,on L j=true↔j<m)->unl L=fuel->wpList P ops Q (ops.toList.drop m) a w->wpAny P .any ops Q fuel L a w:=by
 intro fuel;induction fuel with
 | zero =>
  intro L a w m hnm hms hL hall hu h;have hm:m=ops.size:=by
   rcases UC m ops.size with h1|h1
   ·have:=lQ hu m oM;rw[hall]at this;omega
   ·omega
  rw[hm,<-Sx,YX]at h;refine⟨?_,h⟩;apply List.eq_nil_iff_forall_not_mem.2;intro i hi;obtain⟨h1,o,ho,-⟩:=mem_ready.1 hi;have h2:=(hall i).2 (by rw[hm];exact(SZ.1 ho).1);unfold on at h2;rw[Sz]at h1 h2;cases hh:L[i]? with
  | none=>rw[hh]at h1;cases h1
  | some b=>rw[hh]at h1 h2;rw[show b=false from h1]at h2;cases h2
 | succ fuel ih =>
  intro L a w m hnm hms hL hall hu h;have hrdy:∀i,i∈Ts .any ops L->i=m:=λi hi=>by
   obtain⟨h1,o,ho,hdep⟩:=mem_ready.1 hi;have hoi:on L i=false:=by
    unfold on;rw[Sz]at h1⊢;cases hh:L[i]? with
    | none=>rfl
    | some b=>rw[hh]at h1;exact h1
   have his:=(SZ.1 ho).1;rcases Nat.lt_trichotomy i m with h2|h2|h2
   ·rw[(hall i).2 h2]at hoi;cases hoi
   ·exact h2
   ·have:=(hall (i-1)).1 (m9 ho hdep (wG hc oM his));omega
  refine⟨λhr=>?_,λi hi=>?_⟩
  ·rcases UC m ops.size with h1|h1
   ·exfalso;have ho:ops[m]? = some ops[m]:=SS _;have hoff:on L m=false:=by
     cases hb:on L m with
     | false=>rfl
     | true=>have:=(hall m).1 hb;omega
    have:m∈Ts .any ops L:=mem_ready.2 ⟨?_,_,ho,λe he hb=>(hall e.on).2 (hlt m _ ho e he hb)⟩
    ·rw[hr]at this;cases this
    ·unfold on at hoff;rw[Sz,SS (by rw[hL];exact h1)]at hoff⊢;exact hoff
   ·have hm:m=ops.size:=oM;rw[hm,<-Sx,YX]at h;exact h
  ·obtain rfl:=hrdy i hi;obtain⟨h1,o,ho,hdep⟩:=mem_ready.1 hi;have his:=(SZ.1 ho).1;have hdrop:ops.toList.drop i=o :: ops.toList.drop (i+1):=by
    rw[List.drop_eq_getElem_cons (by rw[Sx];exact his)];have:ops.toList[i]? = some o:=by rw[Array.getElem?_toList];exact ho
    rw[SH (by rw[Sx];exact his)]at this;rw[Td.inj this]
   rw[hdrop]at h;have hop:wpOp P ops Q i (λa' w'=>wpList P ops Q (ops.toList.drop (i+1)) a' w') a w:=by
    unfold wpOp;rw[ho];exact h
   refine wpOp_mono (λa' w' hq=>ih _ a' w' (i+1) oM oM (by rw[Array.size_setIfInBounds];exact hL) (λj=>?_) (by have:=oI h1;omega) hq) hop;rw[eV (by rw[hL];omega)];constructor
   ·intro hj;rw[VV]at hj;rcases hj with hj|hj
    ·have:=(hall j).1 hj;omega
    ·have:i=j:=by simpa using hj
     omega
   ·intro hj;by_cases h2:j<i
    ·rw[(hall j).2 h2,Bool.true_or]
    ·rw[show j=i by omega];simp
theorem C7{id:Nat}(F:Flow)(n:Nat)(hn:n<ops.size)(hc:rQ ops n=true)(hm:P.follows .mixedOrders=true)(R:RegF P Q F ops a0 n)(hB:∀b,F.B b w.drew)
 (hp:∀(V:Nat->Value) (w':World),(∀i,i<n->F.kill i=[]->F.R i (V i) w')->(∀b,F.killB b=[]->F.B b w')->wpList P ops Q (ops.toList.drop n) (dJ V (ops.toList.take n) 0 a0) w'):(TX id ops true).wp P Q a0 w:=by
 have hlt:∀(i:Nat) (o:Oper),ops[i]? = some o->∀e∈o.after,TR .any e=true->e.on<i:=λi o ho=>(R.of ho).1
 have key:∀(fuel:Nat) (L:Array Bool) (a:Act) (w:World),unl L=fuel->(∀j,n<=j->on L j=false)->InvF F ops a0 L a w->wpAny P .any ops Q fuel L a w:=by
  intro fuel;induction fuel with
  | zero =>
   intro L a w hu hoff hI;have:=lQ hu n (by rw[hI.size];omega);rw[hoff n (Se _)]at this;cases this
  | succ fuel ih =>
   intro L a w hu hoff hI;by_cases hall:∀j,j<n->on L j=true
   ·have hall':∀j,on L j=true↔j<n:=λj=>⟨λhj=>(by
     rcases UC j n with h|h
     ·exact h
     ·rw[hoff j h]at hj;cases hj),hall j⟩
    obtain⟨V,hV1,hV2⟩:=hI.all;have ha:=hI.act R oM hall' hV1;have hkl:∀l:List Nat,l=[]->∀x∈l,on L x=false:=λl hl x hx=>by rw[hl]at hx;cases hx
    have hfin:=hp V w (λj hj hk=>hV2 j (hall j hj) (hkl _ hk)) (λb hb=>hI.base b (hkl _ hb));rw[<-ha]at hfin;exact E6 hc hlt _ L a w n (Se _) oM hI.size hall' hu hfin
   ·refine⟨λhr=>?_,λi hi=>?_⟩
    ·exact absurd (λj hj=>hI.full R hr j oM) hall
    ·obtain⟨h1,o,ho,hdep⟩:=mem_ready.1 hi;have his:=(SZ.1 ho).1;have hoi:on L i=false:=by
      unfold on;rw[Sz]at h1⊢;cases hh:L[i]? with
      | none=>rfl
      | some b=>rw[hh]at h1;exact h1
     have hin:i<n:=by
      rcases UC i n with h|h
      ·exact h
      ·exfalso;rcases UC n i with h2|h2
       ·have:=m9 ho hdep (wG hc h2 his);rw[hoff (i-1) oM]at this;cases this
       ·obtain rfl:i=n:=oM;refine hall λj hj=>?_
        unfold rQ at hc;rw[SC]at hc;have h3:=S4.1 hc.1 j (TM.2 hj);unfold qX at h3;rw[VV]at h3;rcases h3 with h3|h3
        ·exact m9 ho hdep h3
        ·obtain⟨x,hx,h4⟩:=YZ.1 h3;rw[SC]at h4;exact AS hI 4 x j (by have:=TM.1 hx;omega) (m9 ho hdep h4.1) h4.2
     refine wpOp_mono (λa' w' hI'=>ih _ a' w' (by have:=oI h1;omega) (λj hj=>?_) hI') (DO R hin (λj hj=>?_) ho hoi hdep hI)
     ·rw[eV (by rw[hI.size];exact his),hoff j hj];simp only[Bool.false_or,beq_eq_false_iff_ne];omega
     ·rcases UC j n with h|h
      ·exact h
      ·rw[hoff j h]at hj;cases hj
 have hoff:∀i,on (So ops.size false) i=false:=λi=>by
  unfold on;rw[Sz,Array.getElem?_replicate];by_cases h:i<ops.size
  ·rw[if_pos h];rfl
  ·rw[if_neg h];rfl
 refine wp_region_any hm (key _ _ a0 _ ?_ (λj _=>hoff j) ⟨Array.size_replicate,(λi o _ h=>by rw[hoff]at h;cases h),rfl,rfl,λ_ _=>rfl,⟨λ_=>undef,λi d h=>(by rw[hoff]at h;cases h),λi h=>(by rw[hoff]at h;cases h)⟩,λb _=>hB b⟩);unfold unl;rw[Wm,List.countP_replicate];simp
theorem Gw.tail2{id:Nat}(G:Gw)(n:Nat)(hn:(decide (n<ops.size) && rQ ops n)=true)(hm:P.follows .mixedOrders=true)(hc:FT ops a0.tmps.size=true)(h:lL P Q G.flow ops a0 0 (ops.toList.take n))(hB:G.B w.drew)
 (hp:∀(V:Nat->Value) (w':World),(∀i,i<n->G.R i (V i) w')->G.B w'->wpList P ops Q (ops.toList.drop n) (dJ V (ops.toList.take n) 0 a0) w'):(TX id ops true).wp P Q a0 w:=by
 rw[SC,decide_eq_true_eq]at hn;exact C7 G.flow n hn.1 hn.2 hm (Gw.reg hc h) (λ_=>hB) λV w' h1 h2=>hp V w' (λi hi=>h1 i hi rfl) (h2 0 rfl)
end RG
section
open Go.RowKit Go.Sort Go.Deep
variable {P:Nat}[NeZero P]{N:Nat}
structure CaI(w W:World)(k r:Nat)(X Y L:Bs):Prop where
 on:SP.Only r 0 32 w W
 r0:Row W k [pZ r]
 r1:Row W (k+1) (aA X)
 r2:Row W (k+2) (aA Y)
 r3:Row W (k+3) [uZ 0,uZ 0,uZ 0,uZ 0]
 lg:Holds encB W r 0 L
theorem CaI.grow{w W W':World}{k r:Nat}{X Y L:Bs}(h:CaI w W k r X Y L)(hl:L.size=32)(hb:Below W.heap.size W W'):CaI w W' k r X Y L:=
 have hr:=Holds.lt h.lg oM
 ⟨h.on.trans (SP.Only.of_below hb rfl hr),h.r0.below hb,h.r1.below hb,h.r2.below hb,h.r3.below hb,Holds.below h.lg hb hr⟩
theorem CaI.say{w W W':World}{k r:Nat}{X Y L L':Bs}(h:CaI w W k r X Y L)(hr:r<k)(hO:SP.Only r 0 32 W W')(hL:Holds encB W' r 0 L'):CaI w W' k r X Y L':=
 ⟨h.on.trans hO,h.r0.only hO oM,h.r1.only hO oM,h.r2.only hO oM,h.r3.only hO oM,hL⟩
theorem FU(O:Ord N)(r:Nat)(L X Y:Bs)(l1 l2:ByteArray)(h1:l1.size<=1048576)(h2:l2.size<=1048576)(hX:X.size=33)(hY:Y.size=33)(w:World)(hL:Holds encB w r 0 L)(hl:L.size=32):
 Calls prog 26 #[lgV r,.string l1,pvl X,.string l2,pvl Y] w (Ret λe w'=>SP.Only r 0 32 w w'/\Holds encB w' r 0 (gZ (lY l1.data.toList l2.data.toList L X Y))/\e=nv (chS N (lY l1.data.toList l2.data.toList L X Y))):=by
 have hr:=Holds.lt hL oM;obtain⟨L1,hL1⟩:∃L1,Hid (SP.jY L l1.data.toList X.toList=L1):=⟨_,rfl⟩
 have s1:L1.size=32:=by rw[<-hL1.out];exact SP.fD _ _ _
 obtain⟨L2,hL2⟩:∃L2,Hid (SP.jY L1 l2.data.toList Y.toList=L2):=⟨_,rfl⟩
 have s2:L2.size=32:=by rw[<-hL2.out];exact SP.fD _ _ _
 have e2:lY l1.data.toList l2.data.toList L X Y=L2:=by unfold lY;rw[hL1.out,hL2.out]
 rw[e2];obtain⟨k,hk⟩:∃k,Hid (w.heap.size=k):=⟨_,rfl⟩
 obtain⟨w1,hw1⟩:∃w1,Hid (w.alloc (.cells #[pZ r] 53)=w1):=⟨_,rfl⟩
 obtain⟨w2,hw2⟩:∃w2,Hid (w1.alloc (.cells (aA X).toArray 35)=w2):=⟨_,rfl⟩
 obtain⟨w3,hw3⟩:∃w3,Hid (w2.alloc (.cells (aA Y).toArray 35)=w3):=⟨_,rfl⟩
 obtain⟨w4,hw4⟩:∃w4,Hid (w3.alloc (.cells #[uZ 0,uZ 0,uZ 0,uZ 0] 43)=w4):=⟨_,rfl⟩
 have z1:w1.heap.size=k+1:=by rw[<-hw1.out,Sq,hk.out]
 have z2:w2.heap.size=k+2:=by rw[<-hw2.out,Sq,z1]
 have z3:w3.heap.size=k+3:=by rw[<-hw3.out,Sq,z2]
 have hrk:r<k:=by rw[<-hk.out];exact hr
 have HK:Hid (w.heap.size<=k):=by show _<=_;rw[hk.out];exact Se _
 have K4:Hid (CaI w w4 k r X Y L):=by
  have b1:Below w.heap.size w w1:=by rw[<-hw1.out];exact aB _ _
  have b2:Below w1.heap.size w1 w2:=by rw[<-hw2.out];exact aB _ _
  have b3:Below w2.heap.size w2 w3:=by rw[<-hw3.out];exact aB _ _
  have b4:Below w3.heap.size w3 w4:=by rw[<-hw4.out];exact aB _ _
  have r1:Row w1 k [pZ r]:=by rw[<-hw1.out,<-hk.out];exact aD w _ _
  have r2:Row w2 (k+1) (aA X):=by rw[<-hw2.out,<-z1];exact aD w1 _ _
  have r3:Row w3 (k+2) (aA Y):=by rw[<-hw3.out,<-z2];exact aD w2 _ _
  have r4:Row w4 (k+3) [uZ 0,uZ 0,uZ 0,uZ 0]:=by rw[<-hw4.out,<-z3];exact aD w3 _ _
  have bb:Below w.heap.size w w4:=((b1.trans (b2.mono b1.size)).trans (b3.mono (SD b1.size b2.size))).trans (b4.mono (SD b1.size (SD b2.size b3.size)));exact⟨SP.Only.of_below bb rfl hr,((r1.below b2).below b3).below b4,(r2.below b3).below b4,r3.below b4,r4,Holds.below hL bb hr⟩
 obtain⟨vl,hvl⟩:∃v,Hid (lgV r=v):=⟨_,rfl⟩
 obtain⟨vX,hvX⟩:∃v,Hid (pvl X=v):=⟨_,rfl⟩
 obtain⟨vY,hvY⟩:∃v,Hid (pvl Y=v):=⟨_,rfl⟩
 have B1:Hid ((TF 53 vl).run prog w=.ok (pZ k) w1):=by rw[<-hvl.out,<-hw1.out,<-hk.out];exact Qt r w
 have B2:Hid ((TF 35 vX).run prog w1=.ok (.pointer (some ⟨k+1,0,none⟩)) w2):=by rw[<-hvX.out,<-hw2.out,<-z1];exact yH hX w1
 have B3:Hid ((TF 35 vY).run prog w2=.ok (.pointer (some ⟨k+2,0,none⟩)) w3):=by rw[<-hvY.out,<-hw3.out,<-z2];exact yH hY w2
 have HZ:Hid (w3.heap.size=k+3):=z3;rw[hvl.out,hvX.out,hvY.out];have HC:Hid (Ord N/\l1.size<=1048576/\l2.size<=1048576/\X.size=33/\Y.size=33):=⟨O,h1,h2,hX,hY⟩
 clear hL z1 z2 z3 hw1 hw2 hw3 hk e2 O h1 h2 hX hY;go_enter Tryz.func26,Tryz.ntmps26;go_wp2_with (first|(refine aI (u:=vl) (v:=pZ k) (w':=w1) rfl 53 (.tmp 0) rfl ?_ ?_ ?_;rfl;exact B1.out)|(refine aI (u:=vX) (v:=.pointer (some ⟨k+1,0,none⟩)) (w':=w2) rfl 35 (.tmp 2) rfl ?_ ?_ ?_;rfl;exact B2.out)|(refine aI (u:=vY) (v:=.pointer (some ⟨k+2,0,none⟩)) (w':=w3) rfl 35 (.tmp 4) rfl ?_ ?_ ?_;rfl;exact B3.out)|(refine bB (v:=.pointer (some ⟨k+3,0,none⟩)) (w':=w4) rfl 43 10 rfl rfl ?_ ?_;(rw[<-hw4.out,<-HZ.out];kernel_rfl))|fail)
 refine(RG.gwL [RG.pE (pZ k),RG.pE (pZ k),RG.pE (pZ r),RG.pE (.string l1),RG.pE (.slice (some ⟨k+1,0,none⟩) 33 33)] (λW=>CaI w W k r X Y L) (λW W' hb h=>h.grow hl hb)).tail2 5 kR kR kR ⟨
  RG.gO 5 (pZ k),
  RG.vO 0 11 (pZ k) (pZ k) (λx W h=>h) (λ_=>rfl),
  RG.iU 49 1 12 k 0 (pZ r) uLp (λx W h=>h) (λW hB=>hB.r0.2.1 0 _ rfl) (λ_=>rfl),
  RG.gO 1 (.string l1),
  RG.gP 7 (.pointer (some ⟨k+1,0,none⟩)) (.slice (some ⟨k+1,0,none⟩) 33 33),trivial⟩ (K4.grow hl ⟨rfl,rfl,rfl,Se _,λ_ _=>rfl⟩) ?_
 intro V w5 hR hB;have hV2:V 2=pZ r:=hR 2 dC;have hV3:V 3=.string l1:=hR 3 dC;have hV4:V 4=.slice (some ⟨k+1,0,none⟩) 33 33:=hR 4 dC;dsimp only[RG.dJ,TG,UY,U0];simp only[Tt,Sw,SN,SQ];rw[hV2,hV3,hV4];have KB:=Hid.mk' hB;clear hR hB hV2 hV3 hV4 K4;generalize V 0=s0;generalize V 1=s1';go_wp2_with fail
 refine(SP.tW r L l1 (some ⟨k+1,0,none⟩) 33 33 X.toList w5 HC.2.1 (J2 KB.lg) hl (uG HC.2.2.2.1 KB.r1)).mono ?_;rintro e w6 ⟨rfl,hO,hH⟩;rw[hL1.out]at hH;have K6:Hid (CaI w w6 k r X Y L1):=KB.say hrk hO (J1 hH);clear hO hH KB;go_wp2_with fail
 refine(RG.gwL [RG.pE (pZ k),RG.pE (pZ k),RG.pE (pZ r),RG.pE (.string l2),RG.pE (.slice (some ⟨k+2,0,none⟩) 33 33)] (λW=>CaI w W k r X Y L1) (λW W' hb h=>h.grow s1 hb)).tail2 5 kR kR kR ⟨
  RG.gO 5 (pZ k),
  RG.vO 0 17 (pZ k) (pZ k) (λx W h=>h) (λ_=>rfl),
  RG.iU 49 1 18 k 0 (pZ r) uLp (λx W h=>h) (λW hB=>hB.r0.2.1 0 _ rfl) (λ_=>rfl),
  RG.gO 3 (.string l2),
  RG.gP 9 (.pointer (some ⟨k+2,0,none⟩)) (.slice (some ⟨k+2,0,none⟩) 33 33),trivial⟩ (K6.grow s1 ⟨rfl,rfl,rfl,Se _,λ_ _=>rfl⟩) ?_
 intro V w7 hR hB;have hV2:V 2=pZ r:=hR 2 dC;have hV3:V 3=.string l2:=hR 3 dC;have hV4:V 4=.slice (some ⟨k+2,0,none⟩) 33 33:=hR 4 dC;dsimp only[RG.dJ,TG,UY,U0];simp only[Tt,Sw,SN,SQ];rw[hV2,hV3,hV4];have KB:=Hid.mk' hB;clear hR hB hV2 hV3 hV4 K6;generalize V 0=s2';generalize V 1=s3;go_wp2_with fail
 refine(SP.tW r L1 l2 (some ⟨k+2,0,none⟩) 33 33 Y.toList w7 HC.2.2.1 (J2 KB.lg) s1 (uG HC.2.2.2.2 KB.r2)).mono ?_;rintro e w8 ⟨rfl,hO,hH⟩;rw[hL2.out]at hH;have K8:Hid (CaI w w8 k r X Y L2):=KB.say hrk hO (J1 hH);clear hO hH KB;have HS:=Hid.mk' (I5 HC.1 r L2 w8 K8.lg s2);have hws:(gZ L2).size=32:=SP.fH _ _;obtain⟨q,hq⟩:∃m,Hid (chS N L2=m):=⟨_,rfl⟩
 obtain⟨L3,hL3⟩:∃m,Hid (gZ L2=m):=⟨_,rfl⟩
 rw[hq.out,hL3.out]at HS;rw[hL3.out]at hws;obtain⟨d,hd1,hd2⟩:=Sf.1 uLg;have HD:Hid (prog.underlying 53=some d/\d.isRow=true):=⟨hd1,hd2⟩
 clear hd1 hd2;go_wp2_with (first|(refine wpList_load_mid rfl 53 (.tmp 5) rfl k 0 ?_ [pZ r] d ?_ ?_ ?_ ?_ ?_;rfl;exact K8.r0.2.1;exact HD.1;exact HD.2;exact iLg;skip)|fail)
 refine HS.mono ?_;rintro e w9 ⟨v,rfl,hO,hH,rfl⟩;have K9:Hid (CaI w w9 k r X Y L3):=K8.say hrk hO hH;clear hO hH K8 HS;obtain⟨wa,hwa⟩:∃wa,Hid (w9.setCells (k+3) 0 (wn q)=wa):=⟨_,rfl⟩
 have KA:Hid (Row wa (k+3) (wn q)/\SP.Only r 0 32 w wa/\Holds encB wa r 0 L3):=by
  have hsz:=HZ.out;rw[<-hwa.out];exact⟨K9.r3.put rfl,bR K9.on hr (by have:=HK.out;omega) _,iM K9.lg oM⟩
 obtain⟨vm,hvm⟩:∃vm,Hid (nv q=vm):=⟨_,rfl⟩
 rw[hvm.out];go_wp2_with (refine wpList_store_mid rfl 43 _ _ rfl (k+3) 0 (wn q).toArray ?_ ?_ ?_ ?_ ?_ ?_;rfl;exact hvm.symm;exact K9.r3.2.2;exact nSc;exact dE q;rw[show(wn q).toArray.toList=wn q from rfl,hwa.out])
 refine bodyPost_ret (aP 10 43 rfl KA.1 rfl rSc nSc) rfl ?_;exact⟨_,rfl,KA.2.1,by rw[hL3.out];exact KA.2.2,by rw[hq.out];rfl⟩
def tA(label:List UInt8)(X:Bs):Bs:=SP.jY (SP.jY (SP.newL [112,114,111,100,117,99,116]) [108,97,98,101,108] label) [112,111,105,110,116] X.toList
theorem rH(label:List UInt8)(X:Bs):(tA label X).size=32:=SP.fD _ _ _
structure PlI(w W:World)(k k5 r:Nat)(X L:Bs):Prop where
 bl:Below w.heap.size w W
 r3:Row W k (aA X)
 r4:Row W (k+1) [.pointer none]
 r5:Row W k5 [pZ r]
 lg:Holds encB W r 0 L
structure PlN(w:World)(k k5 r:Nat):Prop where
 lr:w.heap.size<=r
 n3:k≠r
 n4:k+1≠r
 n5:k5≠r
theorem PlI.grow{w W W':World}{k k5 r:Nat}{X L:Bs}(h:PlI w W k k5 r X L)(hl:L.size=32)(hb:Below W.heap.size W W'):PlI w W' k k5 r X L:=
 ⟨h.bl.trans (hb.mono h.bl.size),h.r3.below hb,h.r4.below hb,h.r5.below hb,Holds.below h.lg hb (Holds.lt h.lg oM)⟩
theorem PlI.say{w W W':World}{k k5 r:Nat}{X L L':Bs}(h:PlI w W k k5 r X L)(n:PlN w k k5 r)(hO:SP.Only r 0 32 W W')(hL:Holds encB W' r 0 L'):PlI w W' k k5 r X L':=
 ⟨h.bl.trans (hO.below h.bl.size n.lr),h.r3.only hO n.n3,h.r4.only hO n.n4,h.r5.only hO n.n5,hL⟩
def RG.pP(x:List UInt8):RG.S1:=⟨λv W=>∃q l c,v=.slice q l c/\SP.PartOk W v x,λ_ _ _ hb ⟨q,l,c,h1,h2⟩=>⟨q,l,c,h1,h2.below hb⟩⟩
theorem NR(label:ByteArray)(hlab:label.size<=1000000)(X:Bs)(hX:X.size=33)(w:World):
 Calls prog 12 #[.string label,pvl X] w (rZ w λe w'=>∃r,e=lgV r/\w.heap.size<=r/\r<w'.heap.size/\Holds encB w' r 0 (tA label.data.toList X)):=by
 have hNL:=λW=>Fu ⟨#[112,114,111,100,117,99,116]⟩ W dC
 obtain⟨L0,hL0⟩:∃L,L=SP.newL (⟨#[112,114,111,100,117,99,116]⟩:ByteArray).data.toList:=⟨_,rfl⟩
 have s0:L0.size=32:=by rw[hL0];exact SP.rM _
 rw[<-hL0]at hNL;have HN:=Hid.mk' hNL;have hS1:=λ(r:Nat) (W:World) (ta:Option Addr) (tl tc:Nat) (hL:Holds SP.encB W r 0 L0) (hT:SP.PartOk W (.slice ta tl tc) label.data.toList)=>SP.tW r L0 ⟨#[108,97,98,101,108]⟩ ta tl tc label.data.toList W dC hL s0 hT
 obtain⟨L1,hL1⟩:∃L,L=SP.jY L0 (⟨#[108,97,98,101,108]⟩:ByteArray).data.toList label.data.toList:=⟨_,rfl⟩
 have s1:L1.size=32:=by rw[hL1];exact SP.fD _ _ _
 rw[<-hL1]at hS1;have hS2:=λ(r:Nat) (W:World) (ta:Option Addr) (tl tc:Nat) (hL:Holds SP.encB W r 0 L1) (hT:SP.PartOk W (.slice ta tl tc) X.toList)=>SP.tW r L1 ⟨#[112,111,105,110,116]⟩ ta tl tc X.toList W dC hL s1 hT
 obtain⟨L2,hL2⟩:∃L,L=SP.jY L1 (⟨#[112,111,105,110,116]⟩:ByteArray).data.toList X.toList:=⟨_,rfl⟩
 have s2:L2.size=32:=by rw[hL2];exact SP.fD _ _ _
 rw[<-hL2]at hS2;have e2:tA label.data.toList X=L2:=by
  have e0:SP.newL [112,114,111,100,117,99,116]=L0:=hL0.symm;have e1:SP.jY L0 [108,97,98,101,108] label.data.toList=L1:=hL1.symm;unfold tA;rw[e0,e1];exact hL2.symm
 rw[e2];have HS:=Hid.mk' (Tj hS1 hS2);clear e2 hL0 hL1 hL2 hS1 hS2;obtain⟨k,hk⟩:∃k,Hid (w.heap.size=k):=⟨_,rfl⟩
 obtain⟨w1,hw1⟩:∃w1,Hid (w.alloc (.cells (aA X).toArray 35)=w1):=⟨_,rfl⟩
 obtain⟨w2,hw2⟩:∃w2,Hid (w1.alloc (.cells #[.pointer none] 53)=w2):=⟨_,rfl⟩
 have z1:w1.heap.size=k+1:=by rw[<-hw1.out,Sq,hk.out]
 have z2:w2.heap.size=k+2:=by rw[<-hw2.out,Sq,z1]
 have K2:Hid (Below w.heap.size w w2/\Row w2 k (aA X)/\Row w2 (k+1) [.pointer none]):=by
  have b1:Below w.heap.size w w1:=by rw[<-hw1.out];exact aB _ _
  have b2:Below w1.heap.size w1 w2:=by rw[<-hw2.out];exact aB _ _
  have r1:Row w1 k (aA X):=by rw[<-hw1.out,<-hk.out];exact aD w _ _
  have r2:Row w2 (k+1) [.pointer none]:=by rw[<-hw2.out,<-z1];exact aD w1 _ _
  exact⟨b1.trans (b2.mono b1.size),r1.below b2,r2⟩
 obtain⟨vX,hvX⟩:∃v,Hid (pvl X=v):=⟨_,rfl⟩
 have B1:Hid ((TF 35 vX).run prog w=.ok (pZ k) w1):=by rw[<-hvX.out,<-hw1.out,<-hk.out];exact yH hX w
 have HZ:Hid (w1.heap.size=k+1/\w2.heap.size=k+2/\w.heap.size=k):=⟨z1,z2,hk.out⟩
 have HC:Hid (label.size<=1000000/\X.size=33):=⟨hlab,hX⟩
 rw[hvX.out];clear z1 z2 hw1 hk hlab hX;go_enter Tryz.func12,Tryz.ntmps12;go_wp2_with (first|(refine aI (u:=vX) (v:=pZ k) (w':=w1) rfl 35 (.tmp 1) rfl ?_ ?_ ?_;rfl;exact B1.out)|(refine bB (v:=.pointer (some ⟨k+1,0,none⟩)) (w':=w2) rfl 53 4 rfl rfl ?_ ?_;(rw[<-hw2.out,<-HZ.1];kernel_rfl))|fail)
 refine(HN w2).mono ?_;rintro e w3 ⟨v3,rfl,hb3,r,rfl,hr1,hr2,hH3⟩;clear HN;obtain⟨k5,hk5⟩:∃k,Hid (w3.heap.size=k):=⟨_,rfl⟩
 obtain⟨w4,hw4⟩:∃w4,Hid (w3.alloc (.cells #[.pointer none] 53)=w4):=⟨_,rfl⟩
 obtain⟨w5,hw5⟩:∃w5,Hid (w4.setCells k5 0 [pZ r]=w5):=⟨_,rfl⟩
 have F4:Hid (Row w4 k5 [.pointer none]/\Below w3.heap.size w3 w4):=by rw[<-hw4.out,<-hk5.out];exact⟨aD w3 _ _,aB _ _⟩
 have PN:Hid (PlN w k k5 r):=⟨by have:=HZ.out;omega,by have:=HZ.out;omega,by have:=HZ.out;omega,by rw[<-hk5.out];omega⟩
 have K5:Hid (PlI w w5 k k5 r X L0):=by
  have b5:Below w3.heap.size w3 w5:=by rw[<-hw5.out];exact RG.below_setCells (by rw[hk5.out];exact Se _) _ _ _ F4.2
  have b3:=K2.1.trans (hb3.mono K2.1.size);exact⟨b3.trans (b5.mono b3.size),(K2.2.1.below hb3).below b5,(K2.2.2.below hb3).below b5,by rw[<-hw5.out];exact F4.1.put rfl,Holds.below hH3 b5 hr2⟩
 obtain⟨vl,hvl⟩:∃v,Hid (lgV r=v):=⟨_,rfl⟩
 rw[hvl.out];clear hb3 hH3 K2 hr1 hr2
 go_upto_region 2 with(first|(refine alR 5 hk5 hw4 ?_)|(refine wpList_store_mid rfl 53 (.tmp 5) _ rfl k5 0 #[pZ r] ?_ ?_ ?_ ?_ ?_ ?_;rfl;exact hvl.symm;exact F4.1.2.2;exact iLg;kernel_rfl;rw[show(#[pZ r]:Array Value).toList=[pZ r] from rfl,hw5.out])|fail)
 clear F4 hw4 hw5 hk5;simp only[Tt,Sw,SN,SQ];refine(RG.gwL [RG.pE (pZ k5),RG.pE (pZ k5),RG.pE (pZ r),RG.pE (.string label),RG.pP label.data.toList] (λW=>PlI w W k k5 r X L0) (λW W' hb h=>h.grow s0 hb)).plain 5 kR ⟨
  RG.gO 5 (pZ k5),
  RG.vO 0 7 (pZ k5) (pZ k5) (λx W h=>h) (λ_=>rfl),
  RG.iU 49 1 8 k5 0 (pZ r) uLp (λx W h=>h) (λW hB=>hB.r5.2.1 0 _ rfl) (λ_=>rfl),
  RG.gO 0 (.string label),
  RG.rS (λa W hp'=>by
   have hp:=RG.nV hp';have h1:a.eval (.tmp 10)=.string label:=hp.n 3 10 kR kR;obtain⟨c,W1,hcv,hc,hH1,hP1,hb1,hlt1⟩:=SP.kG label W (by have:=HC.1;omega);refine⟨_,W1,?_,hb1,_,_,_,rfl,hP1⟩;unfold execOp;dsimp only;rw[h1,SK,hcv];rfl),trivial⟩ K5.out ?_
 intro V w6 hR hB;have hV2:V 2=pZ r:=hR 2 dC;obtain⟨q4,l4,c4,hV4,hP4⟩:∃q l c,V 4=.slice q l c/\SP.PartOk w6 (V 4) label.data.toList:=hR 4 dC;rw[hV4]at hP4;dsimp only[RG.dJ,TG,UY,U0];simp only[Tt,Sw,SN,SQ];rw[hV2,hV4];have KB:Hid (PlI w w6 k k5 r X L0/\SP.PartOk w6 (.slice q4 l4 c4) label.data.toList):=⟨hB,hP4⟩
 clear hR hB hV2 hV4 hP4 K5;generalize V 0=s0';generalize V 1=s1';generalize V 3=s3';go_wp2_with fail
 refine(HS.1 r w6 q4 l4 c4 (J2 KB.1.lg) KB.2).mono ?_;rintro e w7 ⟨rfl,hO,hH⟩;have K7:Hid (PlI w w7 k k5 r X L1):=KB.1.say PN.out hO (J1 hH);clear hO hH KB;go_wp2_with fail
 refine(RG.gwL [RG.pE (pZ k5),RG.pE (pZ k5),RG.pE (pZ r),RG.pE (.slice (some (aZ k)) 33 33)] (λW=>PlI w W k k5 r X L1) (λW W' hb h=>h.grow s1 hb)).tail2 4 kR kR kR ⟨
  RG.gO 5 (pZ k5),
  RG.vO 0 13 (pZ k5) (pZ k5) (λx W h=>h) (λ_=>rfl),
  RG.iU 49 1 14 k5 0 (pZ r) uLp (λx W h=>h) (λW hB=>hB.r5.2.1 0 _ rfl) (λ_=>rfl),
  RG.gP 3 (pZ k) (.slice (some (aZ k)) 33 33),trivial⟩ (K7.grow s1 ⟨rfl,rfl,rfl,Se _,λ_ _=>rfl⟩) ?_
 intro V w8 hR hB;have hV2:V 2=pZ r:=hR 2 dC;have hV3:V 3=.slice (some (aZ k)) 33 33:=hR 3 dC;dsimp only[RG.dJ,TG,UY,U0];simp only[Tt,Sw,SN,SQ];rw[hV2,hV3];have KB:=Hid.mk' hB;clear hR hB hV2 hV3 K7;generalize V 0=s4';generalize V 1=s5';go_wp2_with fail
 refine(HS.2 r w8 (some (aZ k)) 33 33 (J2 KB.lg) (uG HC.2 KB.r3)).mono ?_;rintro e w9 ⟨rfl,hO,hH⟩;have K9:Hid (PlI w w9 k k5 r X L2):=KB.say PN.out hO (J1 hH);clear hO hH KB;obtain⟨d,hd1,hd2⟩:=Sf.1 uLg;have HD:Hid (prog.underlying 53=some d/\d.isRow=true):=⟨hd1,hd2⟩
 clear hd1 hd2;obtain⟨wa,hwa⟩:∃wa,Hid (w9.setCells (k+1) 0 [pZ r]=wa):=⟨_,rfl⟩
 have KA:Hid (Below w.heap.size w wa/\Row wa (k+1) [pZ r]/\r<wa.heap.size/\Holds encB wa r 0 L2):=by
  rw[<-hwa.out];exact⟨RG.below_setCells (by have:=HZ.out;omega) _ _ _ K9.bl,K9.r4.put rfl,by rw[RG.setCells_size];exact Holds.lt K9.lg oM,iM K9.lg (by have:=PN.n4;omega)⟩
 have R9:=mk2 K9.r5.2.1 K9.r4.2.2;go_wp2_with (first|(refine wpList_load_mid rfl 53 (.tmp 5) rfl k5 0 ?_ [pZ r] d ?_ ?_ ?_ ?_ ?_;rfl;exact R9.1;exact HD.1;exact HD.2;exact iLg;rw[show SX [pZ r].toArray=vl from hvl.out])|(refine wpList_store_mid rfl 53 (.tmp 4) _ rfl (k+1) 0 #[pZ r] ?_ ?_ ?_ ?_ ?_ ?_;rfl;exact hvl.symm;exact R9.2;exact iLg;kernel_rfl;rw[show(#[pZ r]:Array Value).toList=[pZ r] from rfl,hwa.out])|fail)
 refine bodyPost_ret (aP 4 53 rfl KA.2.1 rfl uLg iLg) rfl ?_;exact⟨_,rfl,KA.1,r,rfl,PN.lr,KA.2.2.1,KA.2.2.2⟩
theorem Gs:prog.underlying 22=some (.slice 23):=kR
theorem Oe:(prog.info? 23).map (λi=>(i.size,i.bytes,i.zero.map λz=>z.cells.size))=some (1,24,some 1):=kR
theorem Jp(g o j:Nat):(⟨g,o,none⟩:Addr).add j=⟨g,o+j,none⟩:=by
 unfold Vw;by_cases h0:j=0
 ·subst h0;rw[if_pos rfl];rfl
 ·rw[if_neg h0]
structure VL(w:World)(q:Option Addr)(m:Nat)(ys:List Value):Prop where
 len:ys.length=m
 nil:q=none->m=0
 cells:ys=[]\/∃b o,q=some ⟨b,o,none⟩/\b<w.heap.size/\∀(j:Nat) u,ys[j]? = some u->w.cell? ⟨b,o+j,none⟩=some u
 one:∀u∈ys,u.oneCell'=true
theorem VL.below{w w':World}{q:Option Addr}{m:Nat}{ys:List Value}(h:VL w q m ys)(hb:Below w.heap.size w w'):VL w' q m ys:=
 ⟨h.len,h.nil,by
  rcases h.cells with h0|⟨b,o,h1,h2,h3⟩
  ·exact SY h0
  ·exact SJ ⟨b,o,h1,Si h2 hb.size,λj u hj=>by rw[hb.cell (p:=⟨b,o+j,none⟩) h2];exact h3 j u hj⟩,h.one⟩
structure GLs(w W:World)(v:Value)(xs:List Value):Prop where
 bl:Below w.heap.size w W
 ow:W.ownsRow w.heap.size 23 1 v xs.length xs
 nn:v.ownBlock≠none
theorem GLs.lt{w W:World}{v:Value}{xs:List Value}(h:GLs w W v xs):∃g cap,v=.slice (some (aZ g)) xs.length cap/\w.heap.size<=g/\g<W.heap.size:=by
 rcases id h.ow with⟨-,⟨rfl,h0⟩|⟨g,cap,cur,rfl,h1,h2,-⟩⟩
 ·exact absurd rfl h.nn
 ·refine⟨g,cap,rfl,h1,?_⟩;by_cases hg:g<W.heap.size
  ·exact hg
  ·rw[VD oM]at h2;cases h2
theorem GLs.below{w W W':World}{v:Value}{xs:List Value}(h:GLs w W v xs)(hb:Below W.heap.size W W'):GLs w W' v xs:=by
 refine⟨h.bl.trans (hb.mono h.bl.size),?_,h.nn⟩;rcases h.ow with⟨h0,h1|⟨g,cap,cur,h1,h2,h3,h4⟩⟩
 ·exact⟨h0,SY h1⟩
 ·refine⟨h0,SJ ⟨g,cap,cur,h1,h2,?_,h4⟩⟩;rw[hb.block g (by
   by_cases hg:g<W.heap.size
   ·exact hg
   ·rw[VD oM]at h3;cases h3)]
  exact h3
theorem GLs.app2{w W:World}{v:Value}{xs ys:List Value}{q:Option Addr}{m c:Nat}(h:GLs w W v xs)(hx:VL W q m ys)(hn:xs.length+m<=1000000):
 ∃v' W',(UG #[22,22] 22 #[v,.slice q m c]).run prog W=.ok v' W'/\GLs w W' v' (xs++ys)/\W.heap.size<=W'.heap.size:=by
 obtain⟨i,hi,he⟩:=Sf.1 Oe;simp only[Prod.mk.injEq]at he;obtain⟨h1,h2,h3⟩:=he;obtain⟨z,hz,hz2⟩:=Sf.1 h3;obtain⟨g,cap,rfl,hg1,hg2⟩:=h.lt;cases q with
 | none =>
  have hm:=hx.nil rfl;subst hm;obtain rfl:ys=[]:=List.length_eq_zero_iff.1 hx.len;rcases id h.ow with⟨-,⟨h0,-⟩|⟨g',cap',cur,h0,g1,g2,g3,g4⟩⟩
  ·cases h0
  ·injection h0 with h0 _ h0'
   injection h0 with h0
   injection h0 with h0
   subst h0 h0';have hap:=run_append_room_src (P:=prog) W 22 22 22 23 i Gs hi g 0 xs.length cap (.slice none 0 c) 0 [] (Src.ofNil (e':=23) _ Gs c) g3 (λj hj=>by cases hj) (λj hj=>by cases hj);refine⟨_,_,hap,?_,Se _⟩;rw[List.append_nil];exact h
 | some a =>
  obtain⟨v',W',r1,r2,r3,r4⟩:=run_append_own (P:=prog) W w.heap.size 22 22 23 i z 1 24 Gs hi hz h1 h2 hz2 dC _ xs.length xs h.ow a m c ys (by rw[hx.len];omega)
   (λj u hj=>by
    rcases hx.cells with rfl|⟨b,o,hq,-,hc⟩
    ·cases hj
    ·obtain rfl:=Td.inj hq;rw[Jp];exact hc j u hj) hx.one (by unfold maxLen;omega) oM h.bl.size
  refine⟨v',W',r1,⟨⟨by rw[r3.os,h.bl.os],by rw[r3.tape,h.bl.tape],by rw[r3.output,h.bl.output],SD h.bl.size r3.size,λk hk=>?_⟩,?_,?_⟩,r3.size⟩
  ·rw[r3.block k (Si hk h.bl.size) (by simp[XC];omega)];exact h.bl.block k hk
  ·rw[Su,hx.len];exact r2
  ·rcases r2.2 with⟨h5,-⟩|⟨g',cap',cur,rfl,-⟩
   ·have:=(r4.1 h5).1;exact absurd this (by simp)
   ·simp[XC]
theorem GLs.app{w W:World}{v:Value}{xs ys:List Value}{q:Option Addr}{m c:Nat}(h:GLs w W v xs)(hx:VL W q m ys)(hn:xs.length+m<=1000000):
 ∃v' W',(UG #[22,22] 22 #[v,.slice q m c]).run prog W=.ok v' W'/\GLs w W' v' (xs++ys):=by
 obtain⟨v',W',h1,h2,-⟩:=h.app2 (c:=c) hx hn;exact⟨v',W',h1,h2⟩
end
section
open Go.RowKit Go.Sort Go.Deep
theorem Hid.mkP{p:Prop}(h:p):Hid p:=h
section
variable {P:Program}{ops:Array Oper}{rest:List Oper}{op:Oper}{a:Act}{w w':World}{v:Value}{Q:Exit->Act->World->Prop}
theorem d5(hgd:op.guard=none)(X:Op)(_:op.op=X)(hr:(execOp a.eval op).run P w=.ok (.value v) w')(h:wpList P ops Q rest (a.put op.dst v) w'):wpList P ops Q (op :: rest) a w:=
 wpList_plain hgd λK hK=>by
  unfold TZ;rw[hr];exact hK _ _ h
end
theorem eE(w:World)(o:Obj):Below w.heap.size w (w.alloc o):=(SE _ _).alloc (Se _) _
theorem lK(w:World)(cs:Array Value)(T:TypeId)(j:Nat)(v:Value)(h:cs[j]? = some v):(w.alloc (.cells cs T)).cell? ⟨w.heap.size,j,none⟩=some v:=by
 unfold World.alloc World.cell?;simp[h]
theorem Lt(w:World):GLs w (w.alloc (.cells #[] 23)) (.slice (some ⟨w.heap.size,0,none⟩) 0 0) []:=
 ⟨eE w _,⟨rfl,.inr ⟨w.heap.size,0,#[],rfl,Se _,Array.getElem?_push_size,Se _,Us _,rfl,rfl⟩⟩,by simp[XC]⟩
theorem Gp(w:World)(ys:List Value)(T:TypeId)(h1:∀u∈ys,u.oneCell'=true):VL (w.alloc (.cells ys.toArray T)) (some ⟨w.heap.size,0,none⟩) ys.length ys:=
 ⟨rfl,λh=>by(cases h),SJ ⟨w.heap.size,0,rfl,by rw[Sq];omega,λj u hj=>by rw[Sj];exact lK w _ T j u (by simpa using hj)⟩,h1⟩
theorem Lj{q1 q2 qA qB:Option Addr}{n1 c1 n2 c2 nA cA nB cB:Nat}{ys1 ys2:List Value}(w:World)(hL:VL w q1 n1 ys1)(hR:VL w q2 n2 ys2)(h1:n1<=1000)(h2:n2<=1000):
 Calls prog 21 #[.agg #[.slice q1 n1 c1,.slice q2 n2 c2,.slice qA nA cA,.slice qB nB cB]] w λe w'=>∃v,e=.returned v/\GLs w w' v (ys1++ys2++[.slice qA nA cA,.slice qB nB cB]):=by
 obtain⟨w1,hw1⟩:=hE (w.alloc (.cells #[.slice q1 n1 c1,.slice q2 n2 c2,.slice qA nA cA,.slice qB nB cB] 25));obtain⟨w2,hw2⟩:=hE (w1.alloc (.cells #[] 23));have e1:w1.heap.size=w.heap.size+1:=by rw[<-hw1.out,Sq]
 have b1:Below w.heap.size w w1:=by rw[<-hw1.out];exact eE _ _
 have g2:GLs w1 w2 (.slice (some ⟨w1.heap.size,0,none⟩) 0 0) []:=by rw[<-hw2.out];exact Lt w1
 have l1:=hL.len;have l2:=hR.len;obtain⟨v3,w3,hap1,g3⟩:=g2.app (c:=c1) ((hL.below b1).below (by rw[<-hw2.out];exact eE _ _)) (by rw[UE];omega);rw[List.nil_append]at g3;obtain⟨v4,w4,hap2,g4⟩:=g3.app (c:=c2) ((hR.below b1).below g3.bl) oM;obtain⟨w5,hw5⟩:=hE (w4.alloc (.cells #[.slice qA nA cA,.slice qB nB cB] 23));have b5:Below w4.heap.size w4 w5:=by rw[<-hw5.out];exact eE _ _
 obtain⟨v6,w6,hap3,g6⟩:=(g4.below b5).app (c:=2) (q:=some ⟨w4.heap.size,0,none⟩) (m:=2) (ys:=[.slice qA nA cA,.slice qB nB cB]) (by
  rw[<-hw5.out];exact Gp w4 [.slice qA nA cA,.slice qB nB cB] 23 (by simp[Zg])) (by rw[Su];omega)
 have cell:∀(W:World) (j:Nat) v,Below w1.heap.size w1 W->(#[.slice q1 n1 c1,.slice q2 n2 c2,.slice qA nA cA,.slice qB nB cB]:Array Value)[j]? = some v->W.cell? ⟨w.heap.size,j,none⟩=some v:=λW j v hb hj=>by
  rw[hb.cell (p:=⟨w.heap.size,j,none⟩) (by show w.heap.size<_;omega),<-hw1.out];exact lK w _ _ j v hj
 have k0:=cell w2 0 _ g2.bl rfl;have k1:=cell w3 1 _ g3.bl rfl;have k2:=cell w4 2 _ g4.bl rfl;have k3:=cell w4 3 _ g4.bl rfl;obtain⟨a3,p3,rfl,-⟩:=g3.lt;obtain⟨a4,p4,rfl,-⟩:=g4.lt;obtain⟨a6,p6,rfl,-⟩:=g6.lt;have K6:Hid (GLs w w6 (.slice (some (aZ a6)) (ys1++ys2++[Tk qA nA cA,Tk qB nB cB]).length p6) (ys1++ys2++[.slice qA nA cA,.slice qB nB cB])):=by
  refine⟨b1.trans (g6.bl.mono b1.size),?_,g6.nn⟩;rcases g6.ow with⟨x0,x1|⟨g,cap,cur,x1,x2,x3⟩⟩
  ·exact⟨x0,SY x1⟩
  ·exact⟨x0,SJ ⟨g,cap,cur,x1,oM,x3⟩⟩
 generalize hN6:(ys1++ys2++[Tk qA nA cA,Tk qB nB cB]).length=N6 at hap3 K6;generalize hN4:(ys1++ys2).length=N4 at hap2 hap3;generalize hN3:ys1.length=N3 at hap1 hap2;have H1:=Hid.mkP hap1;have H2:=Hid.mkP hap2;have H3:=Hid.mkP hap3;clear hap1 hap2 hap3 cell g2 g3 g4 g6 b1 b5 hL hR e1;go_enter Tryz.func21,Tryz.ntmps21;go_wp2_with (first|(refine d5 (v:=.pointer (some ⟨w.heap.size,0,none⟩)) (w':=w1) rfl (.box 25 (.tmp 0)) rfl ?_ ?_;(rw[<-hw1.out];kernel_rfl))|(refine d5 (v:=.slice (some ⟨w1.heap.size,0,none⟩) 0 0) (w':=w2) rfl (.buildSlice 22 0 #[]) rfl ?_ ?_;(rw[<-hw2.out];kernel_rfl))|(refine d5 (v:=.slice (some ⟨w4.heap.size,0,none⟩) 2 2) (w':=w5) rfl (.buildSlice 22 2 #[(0,.tmp 14),(1,.tmp 16)]) rfl ?_ ?_;(rw[<-hw5.out];kernel_rfl))|(at_builtin;refine UD w2 rfl _ _ _ _ rfl _ _ rfl rfl _ _ H1.out ?_)|(at_builtin;refine UD w3 rfl _ _ _ _ rfl _ _ rfl rfl _ _ H2.out ?_)|(at_builtin;refine UD w5 rfl _ _ _ _ rfl _ _ rfl rfl _ _ H3.out ?_)|fail)
 go_ret;exact⟨_,rfl,K6.out⟩
end
section
open Go.RowKit Go.Sort Go.Deep
variable {P:Nat}[NeZero P]{N:Nat}
structure Sv where
 q:Option Addr
 n:Nat
 c:Nat
def Sv.v(s:Sv):Value:=.slice s.q s.n s.c
def rgC(a b c d e f g l r x y:Sv):List Value:=[a.v,b.v,c.v,d.v,e.v,f.v,g.v,l.v,r.v,x.v,y.v]
theorem uIn:(prog.underlying 25).map (·.isRow)=some true:=kR
theorem iIn:(prog.info? 25).map (·.size)=some 4:=kR
theorem Qz(a b c d e f g l r x y:Sv){ys1 ys2:List Value}(w:World)(hL:VL w l.q l.n ys1)(hR:VL w r.q r.n ys2)(h1:l.n<=1000)(h2:r.n<=1000):
 Calls prog 7 #[.agg (rgC a b c d e f g l r x y).toArray] w λe' w'=>∃v,e'=.returned v/\GLs w w' v (ys1++ys2++[x.v,y.v]++[a.v,b.v,c.v,d.v,e.v,f.v,g.v]):=by
 obtain⟨qa,na,ca⟩:=a;obtain⟨qb,nb,cb⟩:=b;obtain⟨qc,nc,cc⟩:=c;obtain⟨qd,nd,cd⟩:=d;obtain⟨qe,ne,ce⟩:=e;obtain⟨qf,nf,cf⟩:=f;obtain⟨qg,ng,cg⟩:=g
 obtain⟨ql,nl,cl⟩:=l;obtain⟨qr,nr,cr⟩:=r;obtain⟨qx,nx,cx⟩:=x;obtain⟨qy,ny,cy⟩:=y
 dsimp only[Sv.v,rgC]at *;obtain⟨cs,hcs⟩:=hE ([.slice qa na ca,.slice qb nb cb,.slice qc nc cc,.slice qd nd cd,.slice qe ne ce,.slice qf nf cf,.slice qg ng cg,.slice ql nl cl,.slice qr nr cr,.slice qx nx cx,.slice qy ny cy]:List Value);rw[hcs.out];obtain⟨w1,hw1⟩:=hE (w.alloc (.cells cs.toArray 28));have e1:w1.heap.size=w.heap.size+1:=by rw[<-hw1.out,Sq]
 have b1:Below w.heap.size w w1:=by rw[<-hw1.out];exact eE _ _
 have l1:=hL.len;have l2:=hR.len;have hc:=Lj (c1:=cl) (c2:=cr) (qA:=qx) (nA:=nx) (cA:=cx) (qB:=qy) (nB:=ny) (cB:=cy) w1 (hL.below b1) (hR.below b1) h1 h2;have cell:Hid (∀(W:World) (j:Nat) v,Below w1.heap.size w1 W->cs[j]? = some v->W.cell? ⟨w.heap.size,j,none⟩=some v):=λW j v hb hj=>by
  rw[hb.cell (p:=⟨w.heap.size,j,none⟩) (by show w.heap.size<_;omega),<-hw1.out];exact lK w _ _ j v (by simpa using hj)
 have hIn:Hid (w1.rangeAt w.heap.size 7 [.slice ql nl cl,.slice qr nr cr,.slice qx nx cx,.slice qy ny cy]):=λj u hj=>by
  refine cell.out w1 (7+j) u (SE _ _) ?_;rw[<-hcs.out];match j,hj with
  | 0,h=>exact h
  | 1,h=>exact h
  | 2,h=>exact h
  | 3,h=>exact h
 obtain⟨dI,huI,hrI⟩:=Sf.1 uIn;have HB1:=Hid.mkP b1;have HL:Hid (ys1.length+ys2.length<=2000):=by show _<=_;omega
 go_enter Tryz.func7,Tryz.ntmps7;go_wp2_with (first|(refine d5 (v:=.pointer (some ⟨w.heap.size,0,none⟩)) (w':=w1) rfl (.box 28 (.tmp 0)) rfl ?_ ?_;(rw[<-hw1.out,<-hcs.out];kernel_rfl))|(refine wpList_load_mid rfl 25 _ rfl w.heap.size 7 ?_ [.slice ql nl cl,.slice qr nr cr,.slice qx nx cx,.slice qy ny cy] dI ?_ ?_ ?_ ?_ ?_;rfl;exact hIn.out;exact huI;exact hrI;exact iIn;skip)|fail)
 refine hc.mono ?_;rintro e' w2 ⟨v2,rfl,g2⟩;have k0:=cell.out w2 0 (.slice qa na ca) g2.bl (by rw[<-hcs.out];rfl);have k1:=cell.out w2 1 (.slice qb nb cb) g2.bl (by rw[<-hcs.out];rfl);have k2:=cell.out w2 2 (.slice qc nc cc) g2.bl (by rw[<-hcs.out];rfl);have k3:=cell.out w2 3 (.slice qd nd cd) g2.bl (by rw[<-hcs.out];rfl);have k4:=cell.out w2 4 (.slice qe ne ce) g2.bl (by rw[<-hcs.out];rfl);have k5:=cell.out w2 5 (.slice qf nf cf) g2.bl (by rw[<-hcs.out];rfl);have k6:=cell.out w2 6 (.slice qg ng cg) g2.bl (by rw[<-hcs.out];rfl);obtain⟨w3,hw3⟩:=hE (w2.alloc (.cells #[.slice qa na ca,.slice qb nb cb,.slice qc nc cc,.slice qd nd cd,.slice qe ne ce,.slice qf nf cf,.slice qg ng cg] 23));have b3:Below w2.heap.size w2 w3:=by rw[<-hw3.out];exact eE _ _
 obtain⟨v4,w4,hap,g4⟩:=(g2.below b3).app (c:=7) (q:=some ⟨w2.heap.size,0,none⟩) (m:=7) (ys:=[.slice qa na ca,.slice qb nb cb,.slice qc nc cc,.slice qd nd cd,.slice qe ne ce,.slice qf nf cf,.slice qg ng cg]) (by
  rw[<-hw3.out];exact Gp w2 [.slice qa na ca,.slice qb nb cb,.slice qc nc cc,.slice qd nd cd,.slice qe ne ce,.slice qf nf cf,.slice qg ng cg] 23 (by simp[Zg])) (by have:=HL.out;rw[Su,Su];simp only[Tc,UE];omega)
 obtain⟨a2,p2,rfl,-⟩:=g2.lt;obtain⟨a4,p4,rfl,-⟩:=g4.lt;have K4:Hid (GLs w w4 (.slice (some (aZ a4)) (ys1++ys2++[Tk qx nx cx,Tk qy ny cy]++[Tk qa na ca,Tk qb nb cb,Tk qc nc cc,Tk qd nd cd,Tk qe ne ce,Tk qf nf cf,Tk qg ng cg]).length p4) (ys1++ys2++[Tk qx nx cx,Tk qy ny cy]++[Tk qa na ca,Tk qb nb cb,Tk qc nc cc,Tk qd nd cd,Tk qe ne ce,Tk qf nf cf,Tk qg ng cg])):=by
  refine⟨HB1.trans (g4.bl.mono HB1.size),?_,g4.nn⟩;have:=HB1.size;rcases g4.ow with⟨x0,x1|⟨g,cap,cur,x1,x2,x3⟩⟩
  ·exact⟨x0,SY x1⟩
  ·exact⟨x0,SJ ⟨g,cap,cur,x1,oM,x3⟩⟩
 generalize hN4:(ys1++ys2++[Tk qx nx cx,Tk qy ny cy]++[Tk qa na ca,Tk qb nb cb,Tk qc nc cc,Tk qd nd cd,Tk qe ne ce,Tk qf nf cf,Tk qg ng cg]).length=N4 at hap K4;generalize hN2:(ys1++ys2++[Tk qx nx cx,Tk qy ny cy]).length=N2 at hap⊢;have H1:=Hid.mkP hap;go_wp2_with (first|(refine d5 (v:=.slice (some ⟨w2.heap.size,0,none⟩) 7 7) (w':=w3) rfl (.buildSlice 22 7 #[(0,.tmp 9),(1,.tmp 11),(2,.tmp 13),(3,.tmp 15),(4,.tmp 17),(5,.tmp 19),(6,.tmp 21)]) rfl ?_ ?_;(rw[<-hw3.out];kernel_rfl))|(at_builtin;refine UD w3 rfl _ _ _ _ rfl _ _ rfl rfl _ _ H1.out ?_)|fail)
 go_ret;exact⟨_,rfl,K4.out⟩
theorem uRg:(prog.underlying 28).map (·.isRow)=some true:=kR
theorem iRg:(prog.info? 28).map (·.size)=some 11:=kR
theorem GLs.cell{w W:World}{g n c:Nat}{xs:List Value}(h:GLs w W (.slice (some (aZ g)) n c) xs)(j:Nat)(u:Value)(hj:xs[j]? = some u):W.cell? ⟨g,j,none⟩=some u:=by
 have:=h.ow.cells (g:=g) rfl j u hj;rw[Jp,Sj]at this;exact this
theorem Rs(g n c i:Nat)(hi:i<n)(w:World):(To 22 (.slice (some (aZ g)) n c) (iZ i)).run prog w=.ok (.pointer (some ⟨g,i,none⟩)) w:=by
 go_simp
def ClR(w:World)(n m:Nat)(XS:List Value)(e:Ending)(w':World):Prop:=Below w.heap.size w w'/\∃t,e=.returned (.bool t)/\(t=true->n<=10/\m<=10/\∀s:Sv,s.v∈XS->s.n<=100)
theorem FS(a b c d e f g l r x y:Sv){ys1 ys2:List Value}(w:World)(hL:VL w l.q l.n ys1)(hR:VL w r.q r.n ys2)(hs:∀u∈ys1++ys2,∃s:Sv,u=s.v):
 Calls prog 4 #[.agg (rgC a b c d e f g l r x y).toArray] w (ClR w l.n r.n (ys1++ys2++[x.v,y.v]++[a.v,b.v,c.v,d.v,e.v,f.v,g.v])):=by
 obtain⟨cs,hcs⟩:=hE (rgC a b c d e f g l r x y:List Value);obtain⟨w1,hw1⟩:=hE (w.alloc (.cells cs.toArray 28));have e1:w1.heap.size=w.heap.size+1:=by rw[<-hw1.out,Sq]
 have b1:Below w.heap.size w w1:=by rw[<-hw1.out];exact eE _ _
 have cell:∀(j:Nat) v,cs[j]? = some v->w1.cell? ⟨w.heap.size,j,none⟩=some v:=λj v hj=>by
  rw[<-hw1.out];exact lK w _ _ j v (by simpa using hj)
 have k7:=cell 7 l.v (by rw[<-hcs.out];rfl);have k8:=cell 8 r.v (by rw[<-hcs.out];rfl);have hXS:Hid (∀u∈ys1++ys2++[x.v,y.v]++[a.v,b.v,c.v,d.v,e.v,f.v,g.v],∃s:Sv,u=s.v):=λu hu=>by
  rcases UT.1 hu with hu|hu
  ·rcases UT.1 hu with hu|hu
   ·exact hs u hu
   ·simp only[TP,SL,or_false]at hu;rcases hu with rfl|rfl<;>exact⟨_,rfl⟩
  ·simp only[TP,SL,or_false]at hu;rcases hu with rfl|rfl|rfl|rfl|rfl|rfl|rfl<;>exact⟨_,rfl⟩
 have hA:Hid (l.n<=10->r.n<=10->Calls prog 7 #[.agg cs.toArray] w1 λe' w'=>∃v,e'=.returned v/\GLs w1 w' v (ys1++ys2++[x.v,y.v]++[a.v,b.v,c.v,d.v,e.v,f.v,g.v])):=λh1 h2=>by
  rw[<-hcs.out];exact Qz a b c d e f g l r x y w1 (hL.below b1) (hR.below b1) oM oM
 have hIn:Hid (w1.rangeAt w.heap.size 0 cs):=λj u hj=>by rw[Sj];exact cell j u hj
 have hlen:Hid (cs.length=11):=by rw[<-hcs.out];rfl
 have hXL:Hid (l.n<=10->r.n<=10->(ys1++ys2++[x.v,y.v]++[a.v,b.v,c.v,d.v,e.v,f.v,g.v]).length<=100):=λh1 h2=>by
  have l1:=hL.len;have l2:=hR.len;rw[Su,Su,Su];simp only[Tc,UE];omega
 generalize ys1++ys2++[x.v,y.v]++[a.v,b.v,c.v,d.v,e.v,f.v,g.v]=XS at hXS hA hXL⊢;rw[hcs.out];obtain⟨ql,nl,cl⟩:=l;obtain⟨qr,nr,cr⟩:=r;dsimp only[Sv.v]at k7 k8 hA hXL⊢;obtain⟨dI,huI,hrI⟩:=Sf.1 uRg;have HB1:=Hid.mkP b1;clear e1 b1 hL hR hs cell;go_enter Tryz.func4,Tryz.ntmps4;by_cases h1:nl<=10
 ·have i1:¬(10:Int)<(nl:Int):=oM;by_cases h2:nr<=10
  ·have i2:¬(10:Int)<(nr:Int):=oM;go_wp2_with (first|(refine d5 (v:=.pointer (some ⟨w.heap.size,0,none⟩)) (w':=w1) rfl (.box 28 (.tmp 0)) rfl ?_ ?_;(rw[<-hw1.out,<-hcs.out];kernel_rfl))|(refine wpList_load_mid rfl 28 _ rfl w.heap.size 0 ?_ cs dI ?_ ?_ ?_ ?_ ?_;rfl;exact hIn.out;exact huI;exact hrI;(rw[hlen.out];exact iRg);skip)|fail)
   refine(hA h1 h2).mono ?_;rintro e' w2 ⟨v2,rfl,g2⟩;obtain⟨a2,p2,rfl,-⟩:=g2.lt;have K2:=Hid.mkP g2;obtain⟨M,hM⟩:∃M,Hid (XS.length=M):=⟨_,rfl⟩
   have hMb:M<=100:=by
    have:=hXL.out h1 h2;have:=hM.out;omega
   rw[hM.out]at K2⊢;go_wp2;go_loopg [4] M (λgk s4 wr=>∃i:Nat,i+gk=M/\s4=iZ i/\w2=wr/\Hid (∀(k:Nat) (s:Sv),k<i->XS[k]? = some s.v->s.n<=100))
   case atStart=>exact⟨0,oM,rfl,rfl,λk s hk=>absurd hk (UI _)⟩
   case round =>
    obtain⟨i,hi,rfl,rfl,KM⟩:=hrel;by_cases him:i<M
    ·have him':(i:Int)<(M:Int):=oM;obtain⟨u,hu⟩:∃u,XS[i]? = some u:=⟨_,SH (by have:=hM.out;omega)⟩
     obtain⟨⟨qu,nu,cu⟩,rfl⟩:=hXS.out u (List.mem_of_getElem? hu);have hcu:w2.cell? ⟨a2,i,none⟩=some (.slice qu nu cu):=K2.cell i _ hu;have hix:=Rs a2 M p2 i him;have HU:=Hid.mkP hu;clear hu;by_cases hn:nu<=100
     ·have hn':¬(100:Int)<(nu:Int):=oM;go_wp2;go_roundg (gk-1)
      case measure=>omega
      case rel =>
       refine⟨i+1,oM,rfl,rfl,λk s hk hks=>?_⟩;by_cases hki:k=i
       ·subst hki;rw[HU.out]at hks;have:=Td.inj hks;unfold Sv.v at this;injection this with _ h5 _
        have h6:nu=s.n:=h5;omega
       ·exact KM.out k s oM hks
     ·have hn':(100:Int)<(nu:Int):=oM;go_wp2;go_ret;exact⟨HB1.trans (K2.bl.mono HB1.size),_,rfl,λh=>by cases h⟩
    ·have him':¬(i:Int)<(M:Int):=oM;go_wp2;go_ret;refine⟨HB1.trans (K2.bl.mono HB1.size),_,rfl,λ_=>⟨h1,h2,λs hs=>?_⟩⟩;obtain⟨k,hk,hks⟩:=List.getElem_of_mem hs;exact KM.out k s (by have:=hM.out;omega) (by rw[SH hk,hks])
  ·have i2:(10:Int)<(nr:Int):=oM;go_wp2_with (first|(refine d5 (v:=.pointer (some ⟨w.heap.size,0,none⟩)) (w':=w1) rfl (.box 28 (.tmp 0)) rfl ?_ ?_;(rw[<-hw1.out,<-hcs.out];kernel_rfl))|fail)
   go_ret;exact⟨HB1.out,_,rfl,λh=>by cases h⟩
 ·have i1:(10:Int)<(nl:Int):=oM;go_wp2_with (first|(refine d5 (v:=.pointer (some ⟨w.heap.size,0,none⟩)) (w':=w1) rfl (.box 28 (.tmp 0)) rfl ?_ ?_;(rw[<-hw1.out,<-hcs.out];kernel_rfl))|fail)
  go_ret;exact⟨HB1.out,_,rfl,λh=>by cases h⟩
def Pt(W:World)(u:Value)(b:SP.Bs):Prop:=∃q c,u=.slice q (Array.size b) c/\(b.size=0\/∃g o,q=some ⟨g,o,none⟩/\g<W.heap.size/\Holds SP.encB W g o b)
theorem Pt.below{W W':World}{u:Value}{b:SP.Bs}(h:Pt W u b)(hb:Below W.heap.size W W'):Pt W' u b:=by
 obtain⟨q,c,h1,h2|⟨g,o,h3,h4,h5⟩⟩:=h
 ·exact⟨q,c,h1,SY h2⟩
 ·exact⟨q,c,h1,SJ ⟨g,o,h3,Si h4 hb.size,SP.Holds.below h5 hb h4⟩⟩
theorem Pt.conv{W:World}{u:Value}{b:SP.Bs}(h:Pt W u b):(convert 23 9 u).run prog W=.ok (.string ⟨b⟩) W:=by
 obtain⟨q,c,rfl,h2|⟨g,o,rfl,h4,h5⟩⟩:=h
 ·obtain rfl:b=#[]:=Array.eq_empty_of_size_eq_zero h2;cases q with
  | none=>exact run_convert_bytes_nil (P:=prog) (w:=W) 23 5 SP.slice22 SP.int5 0 c 9 SP.str9
  | some a=>exact run_convert_bytes_back (P:=prog) W 23 9 5 a c [] SP.slice22 SP.int5 SP.str9 (λj hj=>by cases hj)
 ·exact SP.conv_str prog 23 9 5 SP.slice22 SP.int5 SP.str9 W g o _ c b h5 rfl
theorem range_below{w w':World}{b o:Nat}{cs:List Value}(h:w.rangeAt b o cs)(hb:Below w.heap.size w w')(hlt:b<w.heap.size):w'.rangeAt b o cs:=λj u hj=>by rw[hb.cell (p:=⟨b,o+j,none⟩) hlt];exact h j u hj
section
variable {Q Q':Nat->Prop}{W:World}{v:Value}{n:Nat}
theorem SmQ.mono2{l:List (Nat × Bs)}(h:SmQ Q W v l)(hQ:∀g,g<W.heap.size->Q g->Q' g):SmQ Q' W v l:=by
 obtain⟨g,c,h1,h2,h3,h4,h5⟩:=h;exact⟨g,c,h1,h2,hQ g h4 h3,h4,h5⟩
theorem GLq.mono2{T:Nat->List (Nat × Bs)}(h:GLq Q W v n T)(hQ:∀g,g<W.heap.size->Q g->Q' g):GLq Q' W v n T:=by
 obtain⟨g,o,c,h1,h2,h3,h4,h5⟩:=h;refine⟨g,o,c,h1,h2,hQ g h4 h3,h4,λj hj=>?_⟩;obtain⟨x,h6,h7⟩:=h5 j hj;exact⟨x,h6,h7.mono2 hQ⟩
theorem GRq.mono2{G H:Nat->List (Nat × Bs)}{U:List (Nat × Bs)}(h:GRq Q W v n G H U)(hQ:∀g,g<W.heap.size->Q g->Q' g):GRq Q' W v n G H U:=by
 obtain⟨vg,vh,vu,h1,h2,h3,h4⟩:=h.ex;exact⟨vg,vh,vu,h1,h2.mono2 hQ,h3.mono2 hQ,h4.mono2 hQ⟩
end
section
variable {w W W':World}{r k iL iR n:Nat}{cL cR vL vR v va vb:Value}{Lb Rb:Nat->Bs}{L:Bs}{a b:Nat->Nat}{G H:Nat->List (Nat × Bs)}{U:List (Nat × Bs)}
theorem IB{W W':World}{r:Nat}{L:Bs}(h:Holds encB W r 0 L)(e:W'.heap[r]? = W.heap[r]?):Holds encB W' r 0 L:=λj hj=>by
 rw[SR (a:=⟨r,0+j,none⟩) e,Uf (a:=⟨r,0+j,none⟩) e];exact h j hj
theorem GR{k K o:Nat}{vs:List Value}(h:SP.Only r 0 32 w W)(hk:w.heap.size=k)(hr:r<k)(hK:k<=K):SP.Only r 0 32 w (W.setCells K o vs):=bR h oM oM _
end
end
section
open Go.RowKit Go.Sort Go.Deep SPA
variable {P:Nat}[NeZero P]{N:Nat}[NeZero N]
abbrev wP{P:Nat}[NeZero P](X:OnP P):Bs:=wr X.1
theorem Ea(a b:Nat->Fin N):∀n,prS N (λi=>(a i).val) (λi=>(b i).val) n=(Md.pr a b n).val
 | 0=>(VG N).symm
 | n+1=>by
  show sPl N (prS N _ _ n) (sTi N (b n).val (a n).val)=(Md.pr a b n+a n*b n).val;rw[Ea a b n,NM,Ng];unfold sTi;rw[S9]
omit [NeZero N] in
theorem IF{n c:Nat}{G H:Nat->List (Nat × Bs)}{U:List (Nat × Bs)}{g h:Nat->OnP P}{u:OnP P}(hn:0<n)(hc:0<c)(hcn:c*n<=64)(hG:Gd N n c G g)(hH:Gd N n c H h)(hU:Tl N U u)(h0:0<U.length)(h9:U.length<=16):GOk N n c G H U:=
 ⟨hn,hc,hcn,λi hi=>⟨(hG.tl i hi).ok,hG.len i hi⟩,λi hi=>⟨(hH.tl i hi).ok,hH.len i hi⟩,hU.ok,h0,h9⟩
omit [NeZero N] in
theorem Tl.point(C:Fld P)(O:Ord N)(hord:∀r:EC.Pt P,EC.On r->EC.mul N r=none){l:List (Nat × Bs)}{X:OnP P}(hT:Tl N l X)(h0:0<l.length)(h5:l.length<=512){w:World}{v:Value}(h:Sm 0 w v l):
 Calls prog 34 #[v] w (rZ w λe w'=>e=pvl (wr X.1)):=by
 have:=h.point C O hord h0 h5 hT.lt hT.pts;rw[hT.sum]at this;exact this
theorem iCP:(prog.info? 35).map (·.size)=some 33:=kR
end
section
open Go Go.RowKit
section
variable {P:Program}{ops:Array Oper}{Q:Exit->Act->World->Prop}{S:Array Bool->World->Prop}
theorem dX{o:Oper}(hg:o.guard=none)(t:Array Value):Vk o (yielded ops t)=true:=by
 unfold Vk;rw[hg]
def anyS(P:Program)(ops:Array Oper)(Q:Exit->Act->World->Prop)(S:Array Bool->World->Prop):Nat->Array Bool->Act->World->Prop
 | 0,listed,a,w=>Ts .any ops listed=[]/\Q .normal a w
 | fuel+1,listed,a,w=>(Ts .any ops listed=[]->Q .normal a w) /\
  ∀i∈Ts .any ops listed,wpOp P ops Q i (λa' w'=>S (listed.setIfInBounds i true) w'/\anyS P ops Q S fuel (listed.setIfInBounds i true) a' w') a w
theorem anyS.any:∀(fuel:Nat) (listed:Array Bool) (a:Act) (w:World),anyS P ops Q S fuel listed a w->wpAny P .any ops Q fuel listed a w
 | 0,_,_,_,h=>h
 | fuel+1,_,_,_,h=>⟨h.1,λi hi=>wpOp_mono (λa' w' h'=>anyS.any fuel _ a' w' h'.2) (h.2 i hi)⟩
def Bef(S:Array Bool->World->Prop)(p:Nat)(w:World):Prop:=∃l:Array Bool,l.getD p false=false/\S l w
theorem anyS.first{p i:Nat}{oi op:Oper}{v:Value}(hi:ops[i]? = some oi)(hp:ops[p]? = some op)(hpi:∃e∈op.after,TR .any e=true/\e.on=i)(hne:p≠i)(hSi:∀l w,S (Vf l i true) w->S l w)
 (hsel:∀(j:Nat) (o:Oper) cs b,ops[j]? = some o->o.op≠.select cs b) (hQ:∀c a w,Q (.panic c) (a.put oi.dst v) w->Q (.panic c) a w) :
 ∀(fuel:Nat) (listed:Array Bool) (a:Act) (w:World),listed.getD p false=false ->
  (∀j oj,ops[j]? = some oj->j≠i->listed.getD j true=false->(∀e∈oj.after,TR .any e=true->e.on≠i)->oi.apart ops oj=true) ->
  i∈Ts .any ops listed->YieldsIf P ops (Bef S p) oi v a->Bef S p w->S (listed.setIfInBounds i true) w ->
  anyS P ops Q S fuel (listed.setIfInBounds i true) (a.put oi.dst v) w->anyS P ops Q S (fuel+1) listed a w:=by
 intro fuel;induction fuel with
 | zero =>
  intro listed a w _ _ hr hy hS hS2 H;refine⟨λh=>absurd hr (by rw[h];exact SL),λj hj=>?_⟩;by_cases hji:j=i
  ·subst hji;exact hy.wpOp hi hS ⟨hS2,H⟩
  ·exact absurd (ready_mono hj hji) (by rw[H.1];exact SL)
 | succ fuel ih =>
  intro listed a w hl hfree hr hy hS hS2 H;refine⟨λh=>absurd hr (by rw[h];exact SL),λj hj=>?_⟩;by_cases hji:j=i
  ·subst hji;exact hy.wpOp hi hS ⟨hS2,H⟩
  ·obtain⟨hjun,oj,hoj,hall⟩:=mem_ready.1 hj;have hnot:∀e∈oj.after,TR .any e=true->e.on≠i:=λe he hb heq=>by
    have h1:=hall e he hb;have h0:=(mem_ready.1 hr).1;rw[heq]at h1;rcases UC i listed.size with h'|h'
    ·simp[h']at h0 h1;rw[h0]at h1;cases h1
    ·simp[VD h']at h1
   have hjp:j≠p:=by
    intro h;subst h;rw[hp]at hoj;obtain⟨e,he,hb,hon⟩:=hpi;injection hoj with hoj
    subst hoj;exact hnot e he hb hon
   have h2:=wpOp_putIf hoj (hfree j oj hoj hji hjun hnot) (λcs b=>hsel i oi cs b hi) (λcs b=>hsel j oj cs b hoj) hQ hy (H.2 j (ready_mono hj hji));have hl':(listed.setIfInBounds j true).getD p false=false:=by rw[getD_set_ne false hjp];exact hl
   refine wpOp_mono (λa' w' h3=>?_) h2;have e2:(listed.setIfInBounds i true).setIfInBounds j true=(listed.setIfInBounds j true).setIfInBounds i true:=(V2 _ _ (Yd hji))
   have hS3:=h3.2.1;rw[e2]at hS3;have hS':Bef S p w':=⟨_,by rw[getD_set_ne false hjp,getD_set_ne false (Yd hne)];exact hl,h3.2.1⟩
   refine⟨hSi _ _ hS3,ih (listed.setIfInBounds j true) a' w' hl' (λk ok hk hki hun hno=>?_) (ready_mono hr (Yd hji)) h3.1 hS' hS3 ?_⟩
   ·refine hfree k ok hk hki ?_ hno;by_cases hjk:j=k
    ·subst hjk;exact hjun
    ·rw[getD_set_ne true hjk]at hun;exact hun
   ·rw[<-e2];exact h3.2.2
theorem anyS.take{p i:Nat}{oi:Oper}{v:Value}{fuel:Nat}{listed:Array Bool}{a:Act}{w:World}(hi:ops[i]? = some oi)(hSi:∀l w,S (Vf l i true) w->S l w)(hy:YieldsIf P ops (Bef S p) oi v a)(hS:Bef S p w)(hS2:S (listed.setIfInBounds i true) w)
 (h:anyS P ops Q S fuel (listed.setIfInBounds i true) (a.put oi.dst v) w) (hp:waits ops p i=true:=by kernel_rfl) (hs:VM ops=true:=by kernel_rfl)
 (hl:(listed.getD p false || p == i)=false:=by kernel_rfl) (hf:Wp .any ops listed i=true:=by kernel_rfl) (hr:(Ts .any ops listed).contains i=true:=by kernel_rfl)
 (hQ:∀c a w,Q (.panic c) (a.put oi.dst v) w->Q (.panic c) a w:=by exact λ_ _ _ h=>h):anyS P ops Q S (fuel+1) listed a w:=by
 rw[Bool.or_eq_false_iff]at hl;unfold waits at hp;cases ho:ops[p]? with
 | none=>rw[ho]at hp;cases hp
 | some op =>
  rw[ho]at hp;obtain⟨e,he,hb⟩:=Array.any_eq_true'.1 hp;simp only[SC,beq_iff_eq]at hb;exact anyS.first hi ho ⟨e,he,hb.1,hb.2⟩ (by simpa using hl.2) hSi (Region.noSelect_spec hs) hQ fuel listed a w hl.1 (Region.free_spec hi hf) (by simpa using hr) hy hS hS2 h
theorem anyS.step{i:Nat}{o:Oper}{fuel:Nat}{listed:Array Bool}{a:Act}{w:World}(ho:ops[i]? = some o)(hr:Ts .any ops listed=[i])
 (h:∀K':Act->World->Prop,Shut (∀a w,S (listed.setIfInBounds i true) w->anyS P ops Q S fuel (listed.setIfInBounds i true) a w->K' a w) ->
  if Vk o (yielded ops a.tmps)=true then TZ P o a w K' Q else K' (a.put o.dst undef) w):anyS P ops Q S (fuel+1) listed a w:=by
 refine⟨λh0=>(by rw[hr]at h0;cases h0),λj hj=>?_⟩;rw[hr,List.mem_singleton]at hj;subst hj;exact wpOp_step ho (λK' hK=>h K' (λa w hS hW=>hK a w ⟨hS,hW⟩))
theorem anyS.done{listed:Array Bool}{a:Act}{w:World}(hr:Ts .any ops listed=[])(h:Q .normal a w):∀fuel,anyS P ops Q S fuel listed a w
 | 0=>⟨hr,h⟩
 | _+1=>⟨λ_=>h,by rw[hr];intro i hi;cases hi⟩
theorem anyS.begin{id:Nat}{a:Act}{w:World}(S:Array Bool->World->Prop)(hm:P.follows .mixedOrders=true)(h:anyS P ops Q S ops.size (So ops.size false) a w.drew):(TX id ops true).wp P Q a w:=
 wp_region_any hm (anyS.any _ _ _ _ h)
section
variable {i p fuel:Nat}{o:Oper}{listed:Array Bool}{a:Act}{w w':World}{v:Value}
theorem anyS.cal{d:Option Tmp}{f:FuncId}{args:Array Value}{R:Value->World->Prop}(ho:ops[i]? = some o)(hc:Calls P f args w (Ret R))(h:∀v w',R v w'->S (listed.setIfInBounds i true) w'/\anyS P ops Q S fuel (listed.setIfInBounds i true) (a.put d v) w')
 (hr:Ts .any ops listed=[i]:=by kernel_rfl) (hg:o.guard=none:=by rfl) (hx:(execOp a.eval o).run P w=.ok (.enter f args) w:=by kernel_rfl) (hd:o.dst=d:=by kernel_rfl):anyS P ops Q S (fuel+1) listed a w:=by
 subst hd;exact anyS.step ho hr λK hK=>by
  rw[if_pos (dX hg _)];unfold TZ;rw[hx,UF];refine hc.mono ?_;rintro e w' ⟨v,rfl,hR⟩;exact hK.out _ _ (h v w' hR).1 (h v w' hR).2
theorem anyS.cel{d:Option Tmp}{x:Value}(ho:ops[i]? = some o)(p:Nat)(hSi:∀l w,S (Vf l i true) w->S l w)(T:TypeId)(t:Tmp)(b off:Nat)(hop:o.op=.load T (.tmp t))(hu:(P.underlying T).map (·.isRow)=some false)(hc:∀w,Bef S p w->w.cell? ⟨b,off,none⟩=some x)(hS:Bef S p w)(hS2:S (listed.setIfInBounds i true) w)
 (h:anyS P ops Q S fuel (listed.setIfInBounds i true) (a.put d x) w) (hx:a.eval (.tmp t)=.pointer (some ⟨b,off,none⟩):=by kernel_rfl) (hg:o.guard=none:=by rfl) (hp:waits ops p i=true:=by kernel_rfl) (hs:VM ops=true:=by kernel_rfl)
 (hl:(listed.getD p false || p == i)=false:=by kernel_rfl) (hf:Wp .any ops listed i=true:=by kernel_rfl) (hr:(Ts .any ops listed).contains i=true:=by kernel_rfl)
 (hQ:∀c a w,Q (.panic c) (a.put o.dst x) w->Q (.panic c) a w:=by exact λ_ _ _ h=>h) (hd:o.dst=d:=by kernel_rfl):anyS P ops Q S (fuel+1) listed a w:=by
 subst hd;exact anyS.take (p:=p) ho hSi (SY ⟨dX hg _,λw hSw=>by
  unfold execOp;rw[hop];dsimp only;rw[hx,SK,RG.jZ (hc w hSw) hu];rfl⟩) hS hS2 h hp hs hl hf hr hQ
theorem anyS.row{d:Option Tmp}{cs:List Value}(ho:ops[i]? = some o)(p:Nat)(hSi:∀l w,S (Vf l i true) w->S l w)(T:TypeId)(t:Tmp)(b off:Nat)(dd:TypeDesc)(hop:o.op=.load T (.tmp t))(hu:P.underlying T=some dd)(hdd:dd.isRow=true)(hi:(P.info? T).map (·.size)=some cs.length)(hc:∀w,Bef S p w->w.rangeAt b off cs)(hS:Bef S p w)(hS2:S (listed.setIfInBounds i true) w)
 (h:anyS P ops Q S fuel (listed.setIfInBounds i true) (a.put d (.agg cs.toArray)) w) (hx:a.eval (.tmp t)=.pointer (some ⟨b,off,none⟩):=by kernel_rfl) (hg:o.guard=none:=by rfl) (hp:waits ops p i=true:=by kernel_rfl) (hs:VM ops=true:=by kernel_rfl)
 (hl:(listed.getD p false || p == i)=false:=by kernel_rfl) (hf:Wp .any ops listed i=true:=by kernel_rfl) (hr:(Ts .any ops listed).contains i=true:=by kernel_rfl)
 (hQ:∀c a w,Q (.panic c) (a.put o.dst (.agg cs.toArray)) w->Q (.panic c) a w:=by exact λ_ _ _ h=>h) (hd:o.dst=d:=by kernel_rfl):anyS P ops Q S (fuel+1) listed a w:=by
 subst hd;exact anyS.take (p:=p) ho hSi (yieldsIf_load_mid (dX hg _) T (.tmp t) hop b off hx cs dd hc hu hdd hi) hS hS2 h hp hs hl hf hr hQ
theorem anyS.val{d:Option Tmp}{x:Value}(ho:ops[i]? = some o)(p:Nat)(hSi:∀l w,S (Vf l i true) w->S l w)(hS:Bef S p w)(hS2:S (listed.setIfInBounds i true) w)(h:anyS P ops Q S fuel (listed.setIfInBounds i true) (a.put d x) w)(hv:∀w,(execOp a.eval o).run P w=.ok (.value x) w:=by intro _;kernel_rfl)(hg:o.guard=none:=by rfl)(hp:waits ops p i=true:=by kernel_rfl)(hs:VM ops=true:=by kernel_rfl)
 (hl:(listed.getD p false || p == i)=false:=by kernel_rfl) (hf:Wp .any ops listed i=true:=by kernel_rfl) (hr:(Ts .any ops listed).contains i=true:=by kernel_rfl)
 (hQ:∀c a w,Q (.panic c) (a.put o.dst x) w->Q (.panic c) a w:=by exact λ_ _ _ h=>h) (hd:o.dst=d:=by kernel_rfl):anyS P ops Q S (fuel+1) listed a w:=by
 subst hd;exact anyS.take (p:=p) ho hSi (SY ⟨dX hg _,λw _=>hv w⟩) hS hS2 h hp hs hl hf hr hQ
theorem anyS.nxt{d:Option Tmp}{x:Value}(ho:ops[i]? = some o)(hS:S (listed.setIfInBounds i true) w)(h:anyS P ops Q S fuel (listed.setIfInBounds i true) (a.put d x) w)(hv:(execOp a.eval o).run P w=.ok (.value x) w:=by kernel_rfl)(hr:Ts .any ops listed=[i]:=by kernel_rfl)(hg:o.guard=none:=by rfl)(hd:o.dst=d:=by kernel_rfl):anyS P ops Q S (fuel+1) listed a w:=by
 subst hd;exact anyS.step ho hr λK hK=>by
  rw[if_pos (dX hg _)];unfold TZ;rw[hv];exact hK.out _ _ hS h
end
end
end
section
open Go.RowKit Go.Sort Go.Deep SPA
variable {P:Nat}[NeZero P]{N:Nat}[NeZero N]
theorem Nc:(prog.underlying 25).map (·.isRow)=some true:=kR
theorem Iw:(prog.info? 25).map (·.size)=some 4:=kR
theorem anyS.fin{P:Program}{ops:Array Oper}{Q:Exit->Act->World->Prop}{S:Array Bool->World->Prop}{listed:Array Bool}{a:Act}{w:World}(hr:Ts .any ops listed=[])(h:∀W,W=w->Q .normal a W)(fuel:Nat):anyS P ops Q S fuel listed a w:=anyS.done hr (h w rfl) fuel
theorem OI(O:Ord N)(hP:NT.IsP N)(r:Nat)(L:Bs)(A B:OnP P)(X Y:Bs)(hX:X=wP A)(hY:Y=wP B):∃(s:Bs) (c:Fin N),Hid (chF N L A B=(s,c)/\s.size=32)/\Hid (∀W:World,Holds encB W r 0 L->L.size=32->Calls prog 26 #[lgV r,.string ⟨#[108,101,102,116]⟩,pvl X,.string ⟨#[114,105,103,104,116]⟩,pvl Y] W (Ret λe w'=>SP.Only r 0 32 W w'/\Holds encB w' r 0 s/\e=nv c.val)):=by
 subst hX hY;have e:chF N L A B=(gZ (lY [108,101,102,116] [114,105,103,104,116] L (wP A) (wP B)),Ak N (lY [108,101,102,116] [114,105,103,104,116] L (wP A) (wP B))):=by unfold chF;dsimp only
 have sA:=dB A.1;have sB:=dB B.1;refine⟨_,_,⟨e,SP.fH _ _⟩,λW h1 h2=>?_⟩;have hc:=FU O r L (wP A) (wP B) ⟨#[108,101,102,116]⟩ ⟨#[114,105,103,104,116]⟩ dC dC sA sB W h1 h2;have e2:lY (⟨#[108,101,102,116]⟩:ByteArray).data.toList (⟨#[114,105,103,104,116]⟩:ByteArray).data.toList L (wP A) (wP B)=lY [108,101,102,116] [114,105,103,104,116] L (wP A) (wP B):=rfl;rw[e2]at hc;have hlt:∀M,cha N M<N:=λM=>tK O _
 generalize lY [108,101,102,116] [114,105,103,104,116] L (wP A) (wP B)=M at hc;rw[EG hP.1 M (hlt M)]at hc;exact hc
theorem PD(m:Nat):((m+m:Nat):Int).tdiv 2=(m:Int):=by rw[Int.tdiv_eq_ediv_of_nonneg oM];omega
noncomputable def gPt (C:Fld P) (lb:ByteArray) (i:Nat):OnP P:=⟨.some (hpt P lb (mF i).toList),CX C lb _⟩
noncomputable def lPt (C:Fld P) (lb:ByteArray) (x:List UInt8):OnP P:=⟨.some (hpt P lb x),CX C lb x⟩
noncomputable def uPt (C:Fld P):OnP P:=lPt C ⟨#[105,110,110,101,114]⟩ []
omit [NeZero N] in
theorem Mk(C:Fld P)(h1:1<N)(lb:ByteArray)(i:Nat):Tl N [(1,hpN P lb i)] (gPt C lb i):=Tl.one C h1 (gPt C lb i)
omit [NeZero N] in
theorem Pj(C:Fld P)(h1:1<N)(lb:ByteArray)(x:List UInt8):Tl N [(1,wr (.some (hpt P lb x):EC.Pt P))] (lPt C lb x):=Tl.one C h1 (lPt C lb x)
omit [NeZero N] in
theorem Lu(C:Fld P)(h1:1<N)(n:Nat):Gd N n 1 (gGT P) (gPt C ⟨#[108,101,102,116]⟩):=⟨λi _=>Mk C h1 _ i,λ_ _=>rfl⟩
omit [NeZero N] in
theorem IH(C:Fld P)(h1:1<N)(n:Nat):Gd N n 1 (hGT P) (gPt C ⟨#[114,105,103,104,116]⟩):=⟨λi _=>Mk C h1 _ i,λ_ _=>rfl⟩
omit [NeZero N] in
theorem Gz(C:Fld P)(h1:1<N):Tl N (uGT P) (uPt C):=Pj C h1 _ _
theorem anyS.sta{P:Program}{ops:Array Oper}{Q:Exit->Act->World->Prop}{S:Array Bool->World->Prop}{i fuel:Nat}{o:Oper}{listed:Array Bool}{a:Act}{w:World}{d:Option Tmp}(ho:ops[i]? = some o)(ty:TypeId)(x y:Operand)(hop:o.op=.store ty x y)(b off:Nat)(us:Array Value)(h1:us.all (·.oneCell')=true)(ht:w.there b off us.size)(hi:(P.info? ty).map (·.size)=some us.size)
 (hS:S (listed.setIfInBounds i true) (w.setCells b off us.toList)) (h:anyS P ops Q S fuel (listed.setIfInBounds i true) (a.put d undef) (w.setCells b off us.toList)) (hx:a.eval x=.pointer (some ⟨b,off,none⟩):=by kernel_rfl) (hy:a.eval y=.agg us:=by kernel_rfl)
 (hr:Ts .any ops listed=[i]:=by kernel_rfl) (hg:o.guard=none:=by rfl) (hd:o.dst=d:=by kernel_rfl):anyS P ops Q S (fuel+1) listed a w:=by
 subst hd;exact anyS.step ho hr λK hK=>by
  rw[if_pos (dX hg _)];have hr:=run_storeVar_mid (P:=P) w b off ty us ht hi h1;unfold TZ execOp;simp only[hop,hx,hy,Instr.storeAt,Instr.sureAddr,SK,Sem.run_pure,Result.andThen_ok,hr];exact hK.out _ _ hS h
theorem pO{w W:World}{r o m B:Nat}(h:SP.Only r o m w W)(hB:B<=w.heap.size)(hr:B<=r):Below B w W:=⟨h.os,h.tape,h.output,h.size,λg hg=>h.block g oM oM⟩
end
section
open Go.RowKit Go.Sort Go.Deep Go.Shelf
attribute [local go_sem] XK
end
section
open Go.RowKit Go.Sort Go.Deep Go.Shelf
attribute [local go_sem] XK
end
section
open Go.RowKit Go.Sort Go.Deep
variable {P:Nat}[NeZero P]{N:Nat}
def zz(n:Nat):List Value:=(List.replicate n (Value.int .u8 0))
def o33:Bs:=So 33 0
theorem Eg:(.agg z33.toArray:Value)=pvl o33:=by
 unfold pvl z33 o33 aA;rw[Wm,List.map_replicate];rfl
noncomputable def rdB (P:Nat) [NeZero P] (b:Bs):Bs:=if (rd P b).isSome then b else o33
theorem Hb(b:Bs):(rdB P b).size=33:=by
 unfold rdB;split
 ·rename_i h
  obtain⟨p,hp⟩:=SU.1 h;exact AU hp
 ·rfl
theorem LQ(C:Fld P)(v:Value)(b:Bs)(w:World)(hv:Arg33 w v b):Calls prog 9 #[v] w (rZ w λe w'=>e=.tuple #[pvl (rdB P b),.bool (rd P b).isSome]):=by
 unfold rdB;cases hr:rd P b with
 | none =>
  have:=EL C v b w hv hr;rw[Eg]at this;exact this
 | some p=>exact EK C v b p w hv hr
theorem Sm.mono{B B':Nat}{W:World}{v:Value}{l:List (Nat × Bs)}(h:Sm B W v l)(hb:B'<=B):Sm B' W v l:=by
 obtain⟨g,c,h1,h2,h3,h4⟩:=h;exact⟨g,c,h1,h2,SD hb h3,h4⟩
section
variable (w:World) (k6 k8 n:Nat) (Y A T:Bs)
def Rb:Nat->Value->World->Prop
 | 0,v,_=>v=pvl Y
 | 1,v,W=>Sm w.heap.size W v [(1,Y)]
 | 2,v,_=>v=pvl A
 | 3,v,_=>v=nv n
 | 4,v,W=>Sm w.heap.size W v [(n,A)]
 | 5,v,W=>Sm w.heap.size W v [(1,Y),(n,A)]
 | 6,v,_=>v=pvl T
 | 7,v,W=>El 33 W v T
 | 8,v,W=>El 33 W v T
 | 9,v,_=>v=iZ 0
 | _,_,_=>True
end
theorem BM(x:UInt8)(r:List UInt8):beV (x :: r)=x.toNat*256^r.length+beV r:=by
 have h:=fA [x] r;rw[show [x]++r=x :: r from rfl]at h;rw[h];simp[beV]
end
section
open Go.RowKit Go.Sort Go.Deep
theorem ER:∀(l r:List UInt8),l.length=r.length->beV l=beV r->l=r
 | [],[],_,_=>rfl
 | x :: l,y :: r,hl,h=>by
  have h1:l.length=r.length:=Nat.succ.inj hl;rw[BM,BM,h1]at h;have b1:=Jd l;have b2:=Jd r;rw[h1]at b1;have hp:0<256^r.length:=Va dC;have e1:(x.toNat*256^r.length+beV l)/256^r.length=x.toNat:=by
   rw[S9,Zj hp,VB b1,Ur]
  have e2:(y.toNat*256^r.length+beV r)/256^r.length=y.toNat:=by
   rw[S9,Zj hp,VB b2,Ur]
  have e3:x.toNat=y.toNat:=by rw[<-e1,<-e2,h]
  have e4:=Xq.1 e3;subst e4;rw[ER l r h1 oM]
theorem Qq{b:Bs}(hs:b.size=32){n:Nat}(hn:n<top)(h:beV b.toList=n):bx n=b:=by
 have:=ER (bx n).toList b.toList (by rw[Sx,Sx,jR,hs]) (by rw[Dn hn,h]);exact Array.toList_inj.1 this
variable {P:Nat}[NeZero P]
theorem Ns(C:Fld P){m y:Fin P}(h:rt m=some y):y.val%2=0:=by
 have h2:=G1 C (AG h);rw[h]at h2;have e:=Td.inj h2;by_cases ho:y.val%2=1
 ·rw[if_pos ho]at e;have e3:=congrArg YJ e;have h0:(0-y:Fin P).val=(P-y.val)%P:=by rw[<-kP,EC.val_zero,Sj]
  rw[h0]at e3;have h3:=C.p3;have hy:=y.isLt;rw[SA oM]at e3;omega
 ·omega
theorem MC{b:Bs}(hs:b.size=33):b=#[b[0]!]++f8 b:=by
 unfold f8;apply Array.ext
 ·rw[Array.size_append,Array.size_extract,hs];rfl
 ·intro i h1 h2;by_cases hi:i=0
  ·subst hi;rw[Array.getElem_append_left (by simp),getElem!_pos b 0 oM];rfl
  ·rw[Array.getElem_append_right (by simp;omega),Array.getElem_extract]
   congr 1
   simp;omega
theorem Nb{x:UInt8}(h:ub x=2):x=2:=by
 apply Xq.1;have:(x.toNat:Int)=2:=h;show x.toNat=2;omega
theorem Gv{x:UInt8}(h:ub x=3):x=3:=by
 apply Xq.1;have:(x.toNat:Int)=3:=h;show x.toNat=3;omega
theorem Pb(C:Fld P){b:Bs}{p:Fin P × Fin P}(h:rd P b=some p):wr (pt p)=b:=by
 have hon:=D2 C h;unfold rd at h;split at h
 ·rename_i hs
  split at h
  ·rename_i hz
   obtain rfl:=Td.inj h;unfold pt;rw[if_pos ⟨rfl,rfl⟩];exact((kL hs).1 hz).symm
  ·split at h
   ·rename_i hm
    split at h
    ·rename_i hx
     obtain⟨y,hr,rfl⟩:=Sf.1 h;have hsq:=AG hr;have hpar:=Ns C hr;have hy0:=C.cur.y_ne (yA hsq);have hyv:y.val≠0:=λe=>hy0 (Vx (by rw[EC.val_zero];exact e))
     have hxv:(rdx P b).val=beV (f8 b).toList:=SA hx;have hbx:bx (rdx P b).val=f8 b:=Qq (gA hs) (C.top _) hxv.symm;have h3:=C.p3;have hyl:=y.isLt;have h0:(0-y:Fin P).val=P-y.val:=by rw[<-kP,EC.val_zero,Sj,SA oM]
     by_cases h3':ub b[0]! = 3
     ·rw[if_pos h3'];unfold pt;rw[if_neg (λe=>by
       have:=congrArg YJ e.2;rw[EC.val_zero,h0]at this;omega)]
      show #[mark (0-y:Fin P).val]++bx (rdx P b).val=b;rw[hbx,h0];unfold mark;rw[if_pos oM,<-Gv h3'];exact(MC hs).symm
     ·rw[if_neg h3'];have h2':=hm.resolve_right h3';unfold pt;rw[if_neg (λe=>hy0 e.2)];show #[mark y.val]++bx (rdx P b).val=b;rw[hbx];unfold mark;rw[if_neg oM,<-Nb h2'];exact(MC hs).symm
    ·cases h
   ·cases h
 ·cases h
end
section
open Go.RowKit Go.Sort Go.Deep
variable {P:Nat}[NeZero P]{N:Nat}
theorem Cc(O:Ord N)(B:Nat)(s t:Value)(l m:List (Nat × Bs))(hl0:0<l.length)(hl:l.length<=500)(hm:m.length<=500)(hl3:∀x∈l,x.2.size=33)(hm3:∀x∈m,x.2.size=33)(hmN:∀x∈m,x.1<N)(w:World)(hB:B<=w.heap.size)(h1:Sm B w s l)(h2:Sm B w t m):
 Calls prog 33 #[s,t] w (rZ w λe w'=>Sm w.heap.size w' e (l++m.map (tmT N (sMi N 0 1)))):=by
 have h1N:1<N:=by have:2<=N:=SD O.n2 (Nat.mod_le _ _);omega
 have HOp:=Hid.mk' (NW O h1N);have hoN:sMi N 0 1<N:=Ug _ O.pos;generalize sMi N 0 1=o at HOp hoN⊢;have HT:Hid (∀W,Below w.heap.size w W->Calls prog 67 #[t,nv o] W (rZ W λe w'=>Sm W.heap.size w' e (m.map (tmT N o)))):=λW hb=>by
  have h33:∀x∈m.map (·.2),x.size=33:=λx hx=>by obtain⟨y,hy,rfl⟩:=Tq.1 hx;exact hm3 y hy
  exact iP O hoN B t m oM h33 hmN W (h2.grow hb)
 have HP:Hid (∀W v,Below w.heap.size w W->Sm w.heap.size W v (m.map (tmT N o))->Calls prog 28 #[s,v] W (rZ W λe w'=>Sm W.heap.size w' e (l++m.map (tmT N o)))):=λW v hb hv=>by
  refine qV B s v l (m.map (tmT N o)) hl0 hl (by rw[SO];exact hm) hl3 (λx hx=>?_) W (h1.grow hb) (hv.mono hB);obtain⟨y,hy,rfl⟩:=Tq.1 hx;exact hm3 y hy
 obtain⟨gs,cs,es,-⟩:=id h1;obtain⟨gt,ct,et,-⟩:=id h2;subst es;subst et;obtain⟨v1,hv1⟩:=hE (nv 1);obtain⟨vo,hvo⟩:=hE (nv o);rw[hv1.out,hvo.out]at HOp;rw[hvo.out]at HT;have H1:=Hid.mk' (Mo);rw[hv1.out]at H1;go_enter Tryz.func33,Tryz.ntmps33;go_wp2_with fail
 refine(H1 w).mono ?_;rintro e w1 ⟨vv,rfl,hb1,rfl⟩;go_wp2_with fail
 refine(HOp w1).mono ?_;rintro e w2 ⟨vv,rfl,hb2,rfl⟩;have B2:=mk1 (hb1.trans (hb2.mono hb1.size));go_wp2_with fail
 refine(HT w2 B2.out).mono ?_;rintro e w3 ⟨v3,rfl,hb3,hS3⟩;have B3:=mk2 (B2.trans (hb3.mono B2.size)) (hS3.mono B2.size);go_wp2_with fail
 refine(HP w3 v3 B3.1 B3.2).mono ?_;rintro e w4 ⟨v4,rfl,hb4,hS4⟩;have B4:=mk2 (B3.1.trans (hb4.mono B3.1.size)) (hS4.mono B3.1.size);go_wp2;go_ret;exact⟨_,rfl,B4.1,B4.2⟩
def encV(v:Value):Value:=v
def rdT(P:Nat)[NeZero P](bs:Bs):T3 P:=
 if bs.size=33 then if mS bs then(0,1,0) else if ub bs[0]! = 2\/ub bs[0]! = 3 then if beV (f8 bs).toList<P then
  (rdx P bs,if ub bs[0]! = 3 then 0-(rt (rdx P bs*rdx P bs*rdx P bs+7)).getD 0 else(rt (rdx P bs*rdx P bs*rdx P bs+7)).getD 0,1) else(0,0,0) else(0,0,0) else(0,0,0)
theorem zI(C:Fl3 P)(bs:Bs):Gives 16 #[.string ⟨bs⟩] (.tuple #[tv (rdT P bs),.bool (rd P bs).isSome]):=by
 intro w;unfold rdT rd;by_cases hs:bs.size=33
 ·rw[if_pos hs,if_pos hs];by_cases hz:mS bs
  ·rw[if_pos hz,if_pos hz];obtain rfl:=(kL hs).1 hz;exact Ke C w
  ·rw[if_neg hz,if_neg hz];have hz':¬bs=qQ:=λh=>hz ((kL hs).2 h)
   by_cases hm:ub bs[0]! = 2\/ub bs[0]! = 3
   ·rw[if_pos hm,if_pos hm];by_cases hx:beV (f8 bs).toList<P
    ·rw[if_pos hx,if_pos hx];have hx':=(SA hx).symm;cases hr:rt (rdx P bs*rdx P bs*rdx P bs+7) with
     | none=>exact DW C bs (rdx P bs) 0 false w hs hz' hm hx' (D3 C _ hr)
     | some y =>
      rw[Option.map_some];exact DW C bs (rdx P bs) y true w hs hz' hm hx' (zH C _ _ hr)
    ·rw[if_neg hx,if_neg hx];exact Nt C _ bs w hs hz' hm (xX C (f8 bs) (gA hs) hx)
   ·rw[if_neg hm,if_neg hm];exact Kf C bs hs hz' _ rfl (λh=>hm (SY h)) (λh=>hm (SJ h)) w
 ·rw[if_neg hs,if_neg hs];exact Nu C bs hs w
def Cu(P:Nat)[NeZero P](bs:Bs):EC.Pt P:=match rd P bs with|some p=>pt p|none=>none
theorem D9{bs:Bs}{p:Fin P × Fin P}(h:rd P bs=some p):Cu P bs=pt p:=by unfold Cu;rw[h]
theorem uI(C:Fl3 P){bs:Bs}(h:(rd P bs).isSome=true):FracT (rdT P bs) (Cu P bs):=by
 obtain⟨p,hp⟩:=SU.1 h;rw[D9 hp];have hp0:=hp;unfold rdT;unfold rd at hp;split at hp
 ·rename_i hs
  rw[if_pos hs];split at hp
  ·rename_i hz
   rw[if_pos hz];obtain rfl:=Td.inj hp;unfold pt;rw[if_pos ⟨rfl,rfl⟩];exact FracT.none
  ·rename_i hz
   rw[if_neg hz];split at hp
   ·rename_i hm
    rw[if_pos hm];split at hp
    ·rename_i hx
     rw[if_pos hx];obtain⟨y,hr,hpe⟩:=Sf.1 hp;have hsq:=AG hr;have hon:=D2 C.toFld hp0;rw[hr];show FracT (rdx P bs,(if ub bs[0]! = 3 then 0-y else y),1) (pt p);have hb:=hpe.symm;have hpt:pt p=some p:=by
      unfold pt;rw[if_neg];rintro⟨-,h2⟩;rw[hb]at h2;dsimp only at h2;split at h2
      ·exact C.toFld.cur.y_ne (CJ hsq) h2
      ·exact C.toFld.cur.y_ne (yA hsq) h2
     rw[hpt,hb];split
     ·exact⟨qD C.toFld _ _,CJ hsq⟩
     ·exact⟨qD C.toFld _ _,yA hsq⟩
    ·cases hp
   ·cases hp
 ·cases hp
omit [NeZero P] in
theorem JG:(wr (none:EC.Pt P))=o33:=by
 show qQ=o33;decide +kernel
theorem Jn(q:Option Addr)(c:Nat)(w:World):Calls prog 23 #[.func (.func 9) #[] #[],.slice q 0 c] w (rZ w λe w'=>∃K,e=.tuple #[.slice (some (aZ K)) 0 0,.bool true]):=by
 obtain⟨C0,hC0,hmk⟩:=PV 0 dC;have hmk':(Instr.makeSlice 38 (iZ 0) (iZ 0)).run prog w=.ok (.slice (some ⟨w.heap.size,0,none⟩) 0 0) (w.alloc (.cells C0.toArray 35)):=hmk w;obtain⟨w1,hw1⟩:∃w1,Hid (w.alloc (.cells C0.toArray 35)=w1):=⟨_,rfl⟩
 rw[hw1.out]at hmk';have K1:Hid (Below w.heap.size w w1):=by rw[<-hw1.out];exact aB _ _
 clear hmk hC0 hw1;go_enter Tryz.func23,Tryz.ntmps23;go_wp2;clear hmk';go_loopg [16] 0 (λm s16 W=>s16=iZ 0/\Hid (Below w.heap.size w W))
 case atStart=>exact⟨rfl,K1.out⟩
 case round =>
  obtain⟨rfl,KM⟩:=hrel;go_wp2
  go_ret2
  exact⟨_,rfl,KM.out,_,rfl⟩
end
section
open Go.RowKit Go.Sort Go.Deep SPA
variable {P:Nat}[NeZero P]{N:Nat}[NeZero N]
theorem QD(g j:Nat):(⟨g,0,none⟩:Addr).add j=⟨g,j,none⟩:=by
 simp[Vw];exact λh=>h.symm
def PtL(Q:Nat->Prop)(W:World)(K t:Nat)(B:Nat->Bs):Prop:=∀j,j<t->Q K/\K<W.heap.size/\W.rangeAt K (33*j) (aA (B j))
theorem PtL.keep{Q:Nat->Prop}{W W':World}{K t:Nat}{B:Nat->Bs}(h:PtL Q W K t B)(hk:Kq Q W W'):PtL Q W' K t B:=λj hj=>by
 obtain⟨h1,h2,h3⟩:=h j hj;refine⟨h1,Si h2 hk.size,λi u hu=>?_⟩;rw[SR (a:=⟨K,33*j+i,none⟩) (hk.block K h1 h2)];exact h3 i u hu
theorem PtL.mono2{Q Q':Nat->Prop}{W:World}{K t:Nat}{B:Nat->Bs}(h:PtL Q W K t B)(hQ:∀g,g<W.heap.size->Q g->Q' g):PtL Q' W K t B:=λj hj=>by
 obtain⟨h1,h2,h3⟩:=h j hj;exact⟨hQ K h2 h1,h2,h3⟩
def two{α:Type}(x y:α)(j:Nat):α:=if j=0 then x else y
theorem uIr:(prog.underlying 45).map (·.isRow)=some true:=kR
theorem iIr:(prog.info? 45).map (·.size)=some 10:=kR
def inL(kl kr t a b:Nat):List Value:=.slice (some (aZ kl)) t t :: .slice (some (aZ kr)) t t :: (wn a++wn b)
def inZ:List Value:=[.slice none 0 0,.slice none 0 0,uZ 0,uZ 0,uZ 0,uZ 0,uZ 0,uZ 0,uZ 0,uZ 0]
theorem zQ(kl kr t a b:Nat):(inL kl kr t a b).toArray.all (·.oneCell')=true:=kR
def PArg(w:World)(q:Option Addr)(n:Nat)(L:Nat->Bs):Prop:=0<n->∃gg o,q=some ⟨gg,o,none⟩/\gg<w.heap.size/\∀j,j<n->∃v,w.cell? ⟨gg,o+j,none⟩=some v/\Arg33 w v (L j)
theorem PArg.below{w W:World}{q:Option Addr}{n:Nat}{L:Nat->Bs}(h:PArg w q n L)(hb:Below w.heap.size w W):PArg W q n L:=λhn=>by
 obtain⟨g,o,h1,h2,h3⟩:=h hn;refine⟨g,o,h1,Si h2 hb.size,λj hj=>?_⟩;obtain⟨v,h4,h5⟩:=h3 j hj;exact⟨v,by rw[hb.cell (p:=⟨g,o+j,none⟩) h2];exact h4,h5.below hb⟩
def okP(P:Nat)[NeZero P](n:Nat)(L:Nat->Bs):Prop:=∀j,j<n->∃p,rd P (L j)=some p
omit [NeZero N] in
theorem Jm(C:Fld P){q:Option Addr}{n c:Nat}{L:Nat->Bs}(hn:n<=512)(W:World)(h:PArg W q n L):Calls prog 23 #[.func (.func 9) #[] #[],.slice q n c] W (rZ W λe w'=>∃s ok,e=.tuple #[s,.bool ok]/\(ok=true↔okP P n L)/\(ok=true->∃K,s=.slice (some (aZ K)) n n/\PtL (W.heap.size<=·) w' K n L)):=by
 rcases Nat.eq_zero_or_pos n with h0|h0
 ·subst h0;refine(Jn q c W).mono ?_;rintro e w' ⟨v,rfl,hb,K,rfl⟩;exact⟨_,rfl,hb,_,true,rfl,iff_of_true rfl λj hj=>absurd hj (UI _),λ_=>⟨K,rfl,λj hj=>absurd hj (UI _)⟩⟩
 ·obtain⟨g,o,rfl,h1,h2⟩:=h h0;refine(OV C g o n c hn L W h1 h2).mono ?_;rintro e w' ⟨v,rfl,hb,h⟩;rcases h with⟨k0,K,rfl,k1,k2,-,k3⟩|⟨⟨j,hj,hn⟩,rfl⟩
  ·exact⟨_,rfl,hb,_,true,rfl,iff_of_true rfl k0,λ_=>⟨K,rfl,λj hj=>⟨k1,k2,k3 j hj⟩⟩⟩
  ·refine⟨_,rfl,hb,_,false,rfl,iff_of_false TK λh=>?_,λh=>absurd h TK⟩;obtain⟨p,hp⟩:=h j hj;rw[hp]at hn;cases hn
theorem RR(q q':Option Addr)(n c n' c':Nat)(w:World):(UK 22 2 #[(0,.slice q n c),(1,.slice q' n' c')]).run prog w=.ok (.slice (some ⟨w.heap.size,0,none⟩) 2 2) (w.alloc (.cells #[.slice q n c,.slice q' n' c'] 23)):=kR
theorem boxJ(q1 q2 q3 q4:Option Addr)(n1 c1 n2 c2 n3 c3 n4 c4:Nat)(w:World):(TF 25 (.agg #[.slice q1 n1 c1,.slice q2 n2 c2,.slice q3 n3 c3,.slice q4 n4 c4])).run prog w=.ok (.pointer (some ⟨w.heap.size,0,none⟩)) (w.alloc (.cells #[.slice q1 n1 c1,.slice q2 n2 c2,.slice q3 n3 c3,.slice q4 n4 c4] 25)):=kR
omit [NeZero N] in
theorem OW(O:Ord N){x y:Value}{b b':Bs}(W:World)(hx:Arg W x b)(hy:Arg W y b'):Calls prog 24 #[(.func (.func 25) #[] #[]),.slice (some ⟨W.heap.size,0,none⟩) 2 2] (W.alloc (.cells #[x,y] 23)) (Ret λe w'=>Below (W.alloc (.cells #[x,y] 23)).heap.size (W.alloc (.cells #[x,y] 23)) w'/\∃s ok,e=.tuple #[s,.bool ok]/\(ok=true↔(rq N b).isSome=true/\(rq N b').isSome=true)/\(ok=true->∃k,s=.slice (some (aZ k)) 2 2/\W.heap.size<k/\w'.rangeAt k 0 (wn ((rq N b).getD 0))/\w'.rangeAt k 4 (wn ((rq N b').getD 0)))):=by
 have bb:=aB W (.cells #[x,y] 23);have hr:=aD W [x,y] 23;have hz:(W.alloc (.cells #[x,y] 23)).heap.size=W.heap.size+1:=Sq _ _;refine(Ma O 2 2 dC (some ⟨W.heap.size,0,none⟩) (two b b') _ λ_=>⟨_,rfl,hr.1,λj hj=>?_⟩).mono ?_
 ·match j,hj with
  | 0,_=>exact⟨x,hr.2.1 0 _ rfl,hx.below bb⟩
  | 1,_=>exact⟨y,hr.2.1 1 _ rfl,hy.below bb⟩
  | j+2,h=>omega
 ·rintro e w' ⟨v,rfl,h⟩;rcases h with⟨⟨j,h1,h2⟩,hb,rfl⟩|⟨h,k,Cs,hM,hR,rfl⟩
  ·refine⟨_,rfl,hb,_,false,rfl,iff_of_false TK λh=>?_,λh=>absurd h TK⟩;match j,h1,h2 with
   | 0,_,h2=>rw[show rq N b=none from h2]at h;exact TK h.1
   | 1,_,h2=>rw[show rq N b'=none from h2]at h;exact TK h.2
   | j+2,h,_=>omega
  ·have hm:=hM.le;have rg:∀j,j<2->w'.rangeAt k (4*j) (wn ((rq N (two b b' j)).getD 0)):=λj hj t u hu=>by
    have ht:t<4:=(SI.1 hu).1;have:=hM.range (4*j+t) u (by rw[hR.row j t hj ht];exact hu);rw[Sj]at this;exact this
   exact⟨_,rfl,hM.bel,_,true,rfl,iff_of_true rfl ⟨h 0 dC,h 1 dC⟩,λ_=>⟨k,rfl,oM,rg 0 dC,rg 1 dC⟩⟩
def okI(P:Nat)[NeZero P](N T nL nR:Nat)(Lb Rb:Nat->Bs)(A B:Bs):Prop:=nL=T/\nR=T/\okP P T Lb/\okP P T Rb/\(rq N A).isSome=true/\(rq N B).isSome=true
def RdA(P:Nat)[NeZero P](N T nL nR:Nat)(Lb Rb:Nat->Bs)(A B:Bs)(z a b:Nat)(e:Value)(w':World):Prop:=∃vs ok,e=.tuple #[.agg (vs:List Value).toArray,.bool ok]/\vs.length=10/\vs.toArray.all (·.oneCell')=true/\(ok=true↔okI P N T nL nR Lb Rb A B)/\(ok=true->∃kl kr,vs=inL kl kr T a b/\PtL (z<=·) w' kl T Lb/\PtL (z<=·) w' kr T Rb)
omit [NeZero N] in
theorem Kl(C:Fld P)(O:Ord N){nL nR T:Nat}(hT:T<=6){Lb Rb:Nat->Bs}{A B:Bs}{q1 q2:Option Addr}{x1 x2:Nat}{vA vB:Value}(w:World)(hL:PArg w q1 nL Lb)(hR:PArg w q2 nR Rb)(hA:Arg w vA A)(hB:Arg w vB B):
 Calls prog 10 #[.agg #[.slice q1 nL x1,.slice q2 nR x2,vA,vB],iZ T] w (rZ w λe w'=>RdA P N T nL nR Lb Rb A B w.heap.size ((rq N A).getD 0) ((rq N B).getD 0) e w'):=by
 obtain⟨k,hk⟩:=hE (w.heap.size);obtain⟨w1,hw1⟩:=hE (w.alloc (.cells #[.slice q1 nL x1,.slice q2 nR x2,vA,vB] 25));obtain⟨w2,hw2⟩:=hE (w1.alloc (.cells inZ.toArray 45));obtain⟨vI,hvI⟩:=hE (SX #[.slice q1 nL x1,.slice q2 nR x2,vA,vB]);have B1:Hid ((TF 25 vI).run prog w=.ok (pZ k) w1):=by
  rw[<-hvI.out,<-hw1.out,<-hk.out];obtain⟨qa,na,ca,rfl,-⟩:=hA;obtain⟨qb,nb,cb,rfl,-⟩:=hB;exact boxJ _ _ _ _ _ _ _ _ _ _ _ _ w
 have z1:w1.heap.size=k+1:=by rw[<-hw1.out,Sq,hk.out]
 have hz1:=Hid.mk' z1;have b1:Below w.heap.size w w1:=by rw[<-hw1.out];exact aB _ _
 have b2:Below w1.heap.size w1 w2:=by rw[<-hw2.out];exact aB _ _
 have r1:Row w1 k [.slice q1 nL x1,.slice q2 nR x2,vA,vB]:=by rw[<-hw1.out,<-hk.out];exact aD w _ _
 have r2:Row w2 (k+1) inZ:=by rw[<-hw2.out,<-z1];exact aD w1 _ _
 have b12:=b1.trans (b2.mono b1.size);have c0:=(r1.below b2).2.1 0 _ rfl;have c1:=(r1.below b2).2.1 1 _ rfl;have K2:=mk3 r2 b12 (r1.below b2);obtain⟨vZ,hvZ⟩:=hE (SX inZ.toArray);have HB:Hid (∀W,(VA 45 #[]).run prog W=.ok vZ W):=by rw[<-hvZ.out];exact λW=>(show(VA 45 #[]).run prog W=.ok (.agg inZ.toArray) W by kernel_rfl)
 have one0:inZ.toArray.all (·.oneCell')=true:=kR;have hcL:=Hid.mk' (λ(W:World) (hW:Below w.heap.size w W) (hn:nL<=512)=>Jm C (c:=x1) hn W (hL.below hW));have hcR:=Hid.mk' (λ(W:World) (hW:Below w.heap.size w W) (hn:nR<=512)=>Jm C (c:=x2) hn W (hR.below hW));have hEl:=Hid.mk' (λ(W:World) (hW:Below w.heap.size w W)=>Tj (hA.below hW) (hB.below hW));have HO:=Hid.mk' O;have HT:=Hid.mk' hT;rw[hvI.out];by_cases hl:(nL:Int)=(T:Int)
 case neg =>
  obtain⟨w3,hw3⟩:=hE (w2.setCells (k+1) 0 inZ);have K3:Hid (Row w3 (k+1) inZ/\Below w.heap.size w w3/\¬nL=T):=⟨by rw[<-hw3.out];exact K2.1.put rfl,by rw[<-hw3.out];exact RG.below_setCells (by rw[hk.out];exact Vh _) _ _ _ K2.2.1,oM⟩
  go_enter Tryz.func10,Tryz.ntmps10;go_wp2_with (first|(refine aI (u:=vI) (v:=pZ k) (w':=w1) rfl 25 (.tmp 0) rfl ?_ ?_ ?_;rfl;exact B1.out)|(refine bB (v:=.pointer (some ⟨k+1,0,none⟩)) (w':=w2) rfl 45 4 rfl rfl ?_ ?_;(rw[<-hw2.out,<-hz1.out];kernel_rfl))|(refine d6 (v:=vZ) (w':=w2) rfl 45 _ rfl #[] ?_ ?_ ?_;kernel_rfl;exact HB.out w2)|(refine wpList_store_mid rfl 45 (.tmp 4) _ rfl (k+1) 0 inZ.toArray ?_ ?_ ?_ ?_ ?_ ?_;rfl;exact hvZ.symm;exact K2.1.2.2;exact iIr;kernel_rfl;rw[show inZ.toArray.toList=inZ from rfl,hw3.out])|fail)
  refine bodyPost_ret (gI 4 5 45 rfl K3.1 rfl rfl uIr iIr) rfl ?_;exact⟨_,rfl,K3.2.1,inZ,false,rfl,rfl,one0,iff_of_false TK λh=>K3.2.2 h.1,λh=>absurd h TK⟩
 case pos =>
 by_cases hr:(nR:Int)=(T:Int)
 case neg =>
  obtain⟨w3,hw3⟩:=hE (w2.setCells (k+1) 0 inZ);have K3:Hid (Row w3 (k+1) inZ/\Below w.heap.size w w3/\¬nR=T):=⟨by rw[<-hw3.out];exact K2.1.put rfl,by rw[<-hw3.out];exact RG.below_setCells (by rw[hk.out];exact Vh _) _ _ _ K2.2.1,oM⟩
  go_enter Tryz.func10,Tryz.ntmps10;go_wp2_with (first|(refine aI (u:=vI) (v:=pZ k) (w':=w1) rfl 25 (.tmp 0) rfl ?_ ?_ ?_;rfl;exact B1.out)|(refine bB (v:=.pointer (some ⟨k+1,0,none⟩)) (w':=w2) rfl 45 4 rfl rfl ?_ ?_;(rw[<-hw2.out,<-hz1.out];kernel_rfl))|(refine d6 (v:=vZ) (w':=w2) rfl 45 _ rfl #[] ?_ ?_ ?_;kernel_rfl;exact HB.out w2)|(refine wpList_store_mid rfl 45 (.tmp 4) _ rfl (k+1) 0 inZ.toArray ?_ ?_ ?_ ?_ ?_ ?_;rfl;exact hvZ.symm;exact K2.1.2.2;exact iIr;kernel_rfl;rw[show inZ.toArray.toList=inZ from rfl,hw3.out])|fail)
  refine bodyPost_ret (gI 4 5 45 rfl K3.1 rfl rfl uIr iIr) rfl ?_;exact⟨_,rfl,K3.2.1,inZ,false,rfl,rfl,one0,iff_of_false TK λh=>K3.2.2 h.2.1,λh=>absurd h TK⟩
 case pos =>
 have el:nL=T:=oM;have er:nR=T:=oM;subst el;subst er;obtain⟨a,hae⟩:=hE ((rq N A).getD 0);obtain⟨b,hbe⟩:=hE ((rq N B).getD 0);rw[hae.out,hbe.out];go_enter Tryz.func10,Tryz.ntmps10;go_wp2_with (first|(refine aI (u:=vI) (v:=pZ k) (w':=w1) rfl 25 (.tmp 0) rfl ?_ ?_ ?_;rfl;exact B1.out)|(refine bB (v:=.pointer (some ⟨k+1,0,none⟩)) (w':=w2) rfl 45 4 rfl rfl ?_ ?_;(rw[<-hw2.out,<-hz1.out];kernel_rfl))|fail)
 refine(hcL w2 K2.2.1 (by have:=HT.out;omega)).mono ?_;rintro e w3 ⟨uu,rfl,hb3,sl,ol,rfl,hol,hPl⟩;have b3:=K2.2.1.trans (hb3.mono K2.2.1.size);have K3:Hid (Row w3 (k+1) inZ/\Below w.heap.size w w3/\Row w3 k [.slice q1 nR x1,.slice q2 nR x2,vA,vB]/\(ol=true↔okP P nR Lb)/\(ol=true->∃kl,sl=.slice (some (aZ kl)) nR nR/\PtL (k+1 < ·) w3 kl nR Lb)):=⟨K2.1.below hb3,b3,K2.2.2.below hb3,hol,λh=>by
  obtain⟨kl,h1,h2⟩:=hPl h;exact⟨kl,h1,h2.mono2 λg _ hg=>Si K2.1.1 hg⟩⟩
 have c0':=K3.2.2.1.2.1 1 _ rfl;clear hb3 hPl b3 K2 c0 c1 hcL hol;go_wp2_with fail
 refine(hcR w3 K3.2.1 (by have:=HT.out;omega)).mono ?_;rintro e w4 ⟨uu,rfl,hb4,sr,orr,rfl,hor,hPr⟩;have b4:=K3.2.1.trans (hb4.mono K3.2.1.size);have K4:Hid (Row w4 (k+1) inZ/\Below w.heap.size w w4/\Row w4 k [.slice q1 nR x1,.slice q2 nR x2,vA,vB]/\(ol=true↔okP P nR Lb)/\(orr=true↔okP P nR Rb)/\(ol=true->∃kl,sl=.slice (some (aZ kl)) nR nR/\PtL (k+1 < ·) w4 kl nR Lb)/\(orr=true->∃kr,sr=.slice (some (aZ kr)) nR nR/\PtL (k+1 < ·) w4 kr nR Rb)):=⟨K3.1.below hb4,b4,K3.2.2.1.below hb4,K3.2.2.2.1,hor,λh=>by
  obtain⟨kl,h1,h2⟩:=K3.2.2.2.2 h;exact⟨kl,h1,h2.keep (Kq.of_below hb4)⟩,λh=>by
  obtain⟨kl,h1,h2⟩:=hPr h;exact⟨kl,h1,h2.mono2 λg _ hg=>Si K3.1.1 hg⟩⟩
 have c2':=K4.2.2.1.2.1 2 _ rfl;have c3':=K4.2.2.1.2.1 3 _ rfl;obtain⟨w5,hw5⟩:=hE (w4.alloc (.cells #[vA,vB] 23));obtain⟨k5,hk5⟩:=hE (w4.heap.size);have HS:Hid ((UK 22 2 #[(0,vA),(1,vB)]).run prog w4=.ok (.slice (some (aZ k5)) 2 2) w5):=by
  rw[<-hw5.out,<-hk5.out];obtain⟨⟨qa,na,ca,rfl,-⟩,qb,nb,cb,rfl,-⟩:=hEl.out w4 K4.2.1;exact RR _ _ _ _ _ _ w4
 have hc5:=OW HO.out w4 (hEl w4 K4.2.1).1 (hEl w4 K4.2.1).2;rw[hw5.out,hk5.out]at hc5;have HC5:=Hid.mk' hc5;have b45:Below w4.heap.size w4 w5:=by rw[<-hw5.out];exact aB _ _
 have b5:=K4.2.1.trans (b45.mono K4.2.1.size);have K5:Hid (Row w5 (k+1) inZ/\Below w.heap.size w w5/\(ol=true↔okP P nR Lb)/\(orr=true↔okP P nR Rb)/\(ol=true->∃kl,sl=.slice (some (aZ kl)) nR nR/\PtL (k+1 < ·) w5 kl nR Lb)/\(orr=true->∃kr,sr=.slice (some (aZ kr)) nR nR/\PtL (k+1 < ·) w5 kr nR Rb)/\k+1<k5):=⟨K4.1.below b45,b5,K4.2.2.2.1,K4.2.2.2.2.1,λh=>by
  obtain⟨kl,h1,h2⟩:=K4.2.2.2.2.2.1 h;exact⟨kl,h1,h2.keep (Kq.of_below b45)⟩,λh=>by
  obtain⟨kl,h1,h2⟩:=K4.2.2.2.2.2.2 h;exact⟨kl,h1,h2.keep (Kq.of_below b45)⟩,by rw[<-hk5.out];exact K4.1.1⟩
 clear hb4 hPr b4 K3 c0' hcR hc5 b45 b5 hEl hor;go_wp2_with (first|(refine f9 (v:=.slice (some (aZ k5)) 2 2) (w':=w5) rfl 22 2 _ rfl #[(0,vA),(1,vB)] ?_ ?_ ?_;kernel_rfl;exact HS.out)|fail)
 refine HC5.mono ?_;rintro e w6 ⟨uu,rfl,hb6,se,oe,rfl,hoe,hSe⟩;have K6:=mk3 (K5.1.below hb6) (K5.2.1.trans (hb6.mono K5.2.1.size)) hoe;have hbK:=Hid.mk' (Tj hb6 hSe);clear HC5 HS c2' c3' hw5 hb6 hSe hoe K4;by_cases hall:ol=true/\orr=true/\oe=true
 case neg =>
  obtain⟨w8,hw8⟩:=hE (w6.setCells (k+1) 0 inZ);have K8:Hid (Row w8 (k+1) inZ/\Below w.heap.size w w8/\¬okI P N nR nR nR Lb Rb A B):=by
   refine⟨by rw[<-hw8.out];exact K6.1.put rfl,by rw[<-hw8.out];exact RG.below_setCells (by rw[hk.out];exact Vh _) _ _ _ K6.2.1,λh=>hall ⟨K5.2.2.1.2 h.2.2.1,K5.2.2.2.1.2 h.2.2.2.1,K6.2.2.2 h.2.2.2.2⟩⟩
  have hcs:ol=false\/(ol=true/\orr=false)\/(ol=true/\orr=true/\oe=false):=by
   revert hall;cases ol<;>cases orr<;>cases oe<;>simp
  rcases hcs with rfl|⟨rfl,rfl⟩|⟨rfl,rfl,rfl⟩
  all_goals
   go_wp2_with (first|(refine d6 (v:=vZ) (w':=w6) rfl 45 _ rfl #[] ?_ ?_ ?_;kernel_rfl;exact HB.out w6)|(refine wpList_store_mid rfl 45 (.tmp 4) _ rfl (k+1) 0 inZ.toArray ?_ ?_ ?_ ?_ ?_ ?_;rfl;exact hvZ.symm;exact K6.1.2.2;exact iIr;kernel_rfl;rw[show inZ.toArray.toList=inZ from rfl,hw8.out])|fail)
   refine bodyPost_ret (gI 4 5 45 rfl K8.1 rfl rfl uIr iIr) rfl ?_;exact⟨_,rfl,K8.2.1,inZ,false,rfl,rfl,one0,iff_of_false TK K8.2.2,λh=>absurd h TK⟩
 case pos =>
 obtain⟨rfl,rfl,rfl⟩:=hall;obtain⟨kl,rfl,hPl⟩:=K5.2.2.2.2.1 rfl;obtain⟨kr,rfl,hPr⟩:=K5.2.2.2.2.2.1 rfl;obtain⟨ke,rfl,hke,hEa,hEb⟩:=hbK.2 rfl;have HOK:Hid (okI P N nR nR nR Lb Rb A B):=⟨rfl,rfl,K5.2.2.1.1 rfl,K5.2.2.2.1.1 rfl,K6.2.2.1 rfl⟩
 have h5e:=K5.2.2.2.2.2.2;rw[hae.out]at hEa;rw[hbe.out]at hEb;have HE6:Hid (w6.rangeAt ke 0 (wn a)/\w6.rangeAt ke 4 (wn b)/\k+1≠ke):=⟨hEa,hEb,oM⟩
 have KK:=mk4 K6.1 K6.2.1 (hPl.keep (Kq.of_below hbK.1)) (hPr.keep (Kq.of_below hbK.1));go_wp2_with fail
 obtain⟨dS,hdS1,hdS2⟩:=Sf.1 rSc;have S6:w6.drew.rangeAt ke 0 (wn a)/\w6.drew.rangeAt ke 4 (wn b):=⟨HE6.1,HE6.2.1⟩
 refine anyS.begin (λ_ W=>W.rangeAt ke 0 (wn a)/\W.rangeAt ke 4 (wn b)) kR ?_;have bS:∀(p:Nat),Bef (λ_ W=>WA W ke 0 (wn a)/\WA W ke 4 (wn b)) p w6.drew:=λp=>⟨#[],by simp,S6⟩
 refine anyS.val (i:=0) (d:=some 57) (x:=.slice (some (aZ kl)) nR nR) rfl 9 (λ_ _ h=>h) (bS 9) S6 ?_;refine anyS.val (i:=1) (d:=some 58) (x:=.slice (some (aZ kr)) nR nR) rfl 9 (λ_ _ h=>h) (bS 9) S6 ?_;refine anyS.val (i:=2) (d:=some 59) (x:=.slice (some (aZ ke)) 2 2) rfl 9 (λ_ _ h=>h) (bS 9) S6 ?_;refine anyS.val (i:=3) (d:=some 60) (x:=pZ ke) rfl 9 (λ_ _ h=>h) (bS 9) S6 ?_;refine anyS.row (i:=4) (d:=some 61) (cs:=wn a) rfl 9 (λ_ _ h=>h) 43 60 ke 0 dS rfl hdS1 hdS2 nSc (λW ⟨l,e,h⟩=>h.1) (bS 9) S6 ?_;refine anyS.val (i:=5) (d:=some 62) (x:=.slice (some (aZ ke)) 2 2) rfl 9 (λ_ _ h=>h) (bS 9) S6 ?_;refine anyS.val (i:=6) (d:=some 63) (x:=.pointer (some ⟨ke,4,none⟩)) rfl 9 (λ_ _ h=>h) (bS 9) S6 ?_;refine anyS.row (i:=7) (d:=some 64) (cs:=wn b) rfl 9 (λ_ _ h=>h) 43 63 ke 4 dS rfl hdS1 hdS2 nSc (λW ⟨l,e,h⟩=>h.2) (bS 9) S6 ?_;refine anyS.nxt (i:=8) (d:=some 65) (x:=.agg (inL kl kr nR a b).toArray) rfl S6 ?_;have hth:=KK.1.2.2;have hset:∀g,g≠k+1->(w6.drew.setCells (k+1) 0 (inL kl kr nR a b)).heap[g]? = w6.drew.heap[g]?:=λg h=>RG.aS (k+1) _ 0 w6.drew g h
 have S7:(w6.drew.setCells (k+1) 0 (inL kl kr nR a b)).rangeAt ke 0 (wn a)/\(w6.drew.setCells (k+1) 0 (inL kl kr nR a b)).rangeAt ke 4 (wn b):=⟨λj u hj=>by rw[SR (a:=⟨ke,0+j,none⟩) (hset ke (Yd HE6.2.2))];exact S6.1 j u hj,λj u hj=>by rw[SR (a:=⟨ke,4+j,none⟩) (hset ke (Yd HE6.2.2))];exact S6.2 j u hj⟩
 have r6:Row w6.drew (k+1) inZ:=KK.1;have r7:Row (w6.drew.setCells (k+1) 0 (inL kl kr nR a b)) (k+1) (inL kl kr nR a b):=r6.put rfl;have b7:Below w.heap.size w (w6.drew.setCells (k+1) 0 (inL kl kr nR a b)):=RG.below_setCells (by rw[hk.out];exact Vh _) _ _ _ KK.2.1.drew;have kq7:Kq (k+1 < ·) w6 (w6.drew.setCells (k+1) 0 (inL kl kr nR a b)):=⟨by rw[RG.setCells_size];exact Se _,λg hg _=>hset g (TC hg)⟩
 have pl7:=(KK.2.2.1.keep kq7).mono2 (Q':=(w.heap.size<=·)) λg _ hg=>by rw[hk.out];omega
 have pr7:=(KK.2.2.2.keep kq7).mono2 (Q':=(w.heap.size<=·)) λg _ hg=>by rw[hk.out];omega
 refine anyS.sta (i:=9) (d:=none) rfl 45 (.tmp 4) (.tmp 65) rfl (k+1) 0 (inL kl kr nR a b).toArray (zQ kl kr nR a b) hth iIr S7 ?_;refine anyS.nxt (i:=10) (d:=some 5) (x:=.bool true) rfl S7 ?_;refine anyS.fin kR ?_ _;intro WZ hWZ;have hWZ':=hWZ;rw[<-hWZ']at r7 b7 pl7 pr7;have KZ:=Hid.mk' (Tj r7 (Tj b7 (Tj pl7 pr7)));clear r6 r7 b7 kq7 pl7 pr7 S7 S6 hset hth hWZ hWZ' KK HE6 hdS1 hdS2;go_wp2_with fail
 refine bodyPost_ret (gI 4 5 45 rfl KZ.1 rfl rfl uIr iIr) rfl ?_;exact⟨_,rfl,KZ.2.1,inL kl kr nR a b,true,(by rfl),rfl,zQ _ _ _ _ _,iff_of_true rfl HOK.out,λ_=>⟨kl,kr,rfl,KZ.2.2.1,KZ.2.2.2⟩⟩
end
section
open Go Go.RowKit Go.Sort Go.Deep SPA
section
variable {P:Program}{ops:Array Oper}{Q:Exit->Act->World->Prop}{S:Array Bool->World->Prop}
theorem Rf(a:Act){d e:Tmp}(h:d≠e)(v u:Value):(a.put (some d) v).put (some e) u=(a.put (some e) u).put (some d) v:=by
 unfold Tt;dsimp only;rw[V2 _ _ h]
theorem anyS.calal{i j fuel:Nat}{oi oj:Oper}{di dj:Tmp}{f:FuncId}{args:Array Value}{obj:Obj}{listed:Array Bool}{a:Act}{w:World}{R1 R2:Value->World->Prop}{F:Value->Nat->World->Prop}(hoi:ops[i]? = some oi)(hoj:ops[j]? = some oj)
 (hc:Calls P f args w (Ret R1)) (hc':Calls P f args (w.alloc obj) (Ret R2)) (hS2:S (listed.setIfInBounds j true) (w.alloc obj))
 (h1:∀v W',R1 v W'->S (listed.setIfInBounds i true) W'/\S ((listed.setIfInBounds i true).setIfInBounds j true) (W'.alloc obj)/\F v W'.heap.size (W'.alloc obj)) (h2:∀v W',R2 v W'->S ((listed.setIfInBounds i true).setIfInBounds j true) W'/\F v w.heap.size W')
 (hal:∀(b:Act) (W:World),(execOp b.eval oj).run P W=.ok (.value (.pointer (some ⟨W.heap.size,0,none⟩))) (W.alloc obj))
 (h:∀v b W',F v b W'->anyS P ops Q S fuel ((listed.setIfInBounds i true).setIfInBounds j true) ((a.put (some di) v).put (some dj) (pZ b)) W')
 (hx:∀W,(execOp a.eval oi).run P W=.ok (.enter f args) W:=by intro _;kernel_rfl) (hx':∀(b:Nat) (W:World),(execOp (a.put (some dj) (pZ b)).eval oi).run P W=.ok (.enter f args) W:=by intro _ _;kernel_rfl)
 (hij:i≠j:=by decide) (hdd:di≠dj:=by decide) (hr:Ts .any ops listed=[i,j]:=by kernel_rfl) (hrj:Ts .any ops (listed.setIfInBounds i true)=[j]:=by kernel_rfl) (hri:Ts .any ops (listed.setIfInBounds j true)=[i]:=by kernel_rfl)
 (hgi:oi.guard=none:=by rfl) (hgj:oj.guard=none:=by rfl) (hdi:oi.dst=some di:=by kernel_rfl) (hdj:oj.dst=some dj:=by kernel_rfl):anyS P ops Q S (fuel+2) listed a w:=by
 refine⟨λh0=>(by rw[hr]at h0;cases h0),λq hq=>?_⟩;rw[hr]at hq;have hq':q=i\/q=j:=by simpa using hq
 rcases hq' with rfl|rfl
 ·refine wpOp_step hoi λK hK=>?_
  rw[if_pos (dX hgi _)];unfold TZ;rw[hx,UF];refine hc.mono ?_;rintro e W' ⟨v,rfl,hR⟩;obtain⟨s1,s2,hF⟩:=h1 v W' hR;refine hK _ _ ⟨s1,?_⟩;rw[hdi];refine anyS.step hoj hrj λK' hK'=>?_
  rw[if_pos (dX hgj _)];unfold TZ;rw[hal];show K' (Tt _ oj.dst _) _;rw[hdj];exact hK'.out _ _ s2 (h v _ _ hF)
 ·refine wpOp_step hoj λK hK=>?_
  rw[if_pos (dX hgj _)];unfold TZ;rw[hal];show K (a.put oj.dst _) _;rw[hdj];refine hK _ _ ⟨hS2,?_⟩;refine anyS.step hoi hri λK' hK'=>?_
  rw[if_pos (dX hgi _)];unfold TZ;rw[hx',UF];refine hc'.mono ?_;rintro e W' ⟨v,rfl,hR⟩;obtain⟨s2,hF⟩:=h2 v W' hR;have hF':=h v _ _ hF;rw[V2 _ _ hij]at s2 hF';rw[Rf a hdd]at hF';rw[hdi];exact hK'.out _ _ s2 hF'
end
variable {P:Nat}[NeZero P]{N:Nat}[NeZero N]
theorem Gn(C:Fld P)(hord:∀r:EC.Pt P,EC.On r->EC.mul N r=none)(hP:NT.IsP N)(t:Nat)(L T:Nat->OnP P)(v:Md.Vs Bs (OnP P))(i m:Nat)(hm:m=2^(t-(i+1)))(s:Bs)(c:Fin N)(hc:chF N ((aL C hord).vst (chF N) ivF t L T v i).s (L i) (T i)=(s,c)):
 (aL C hord).vst (chF N) ivF t L T v (i+1)=⟨s,(aL C hord).ad ((aL C hord).ad ((aL C hord).vst (chF N) ivF t L T v i).p ((aL C hord).ac (c*c) (L i))) ((aL C hord).ac (ivF (c*c)) (T i)),(aL C hord).fP (ivF c) c m ((aL C hord).vst (chF N) ivF t L T v i).g,(aL C hord).fP c (ivF c) m ((aL C hord).vst (chF N) ivF t L T v i).h⟩:=by
 have hcc:=OJ hP ((aL C hord).vst (chF N) ivF t L T v i).s (L i) (T i);rw[hc]at hcc;have hc0:c.val≠0:=λe=>hcc (by
  have:c=0:=Vx (e.trans (VG N).symm);show(c*c).val=0;rw[this];show(0%N*(0%N))%N=0;rw[VG,Nat.zero_mul,VG])
 rw[Md.GH,PZ hP c hc0 hcc,hm];show(aL C hord).Aw (chF N) ivF (2^(t-(i+1))) (L i) (T i) ((aL C hord).vst (chF N) ivF t L T v i)=_;unfold Md.Aw;rw[hc]
end
section
open Go.RowKit Go.Sort Go.Deep SPA
variable {P:Nat}[NeZero P]{N:Nat}[NeZero N]
def QR(r k g:Nat):Prop:=g≠r/\(g<k\/k+3<=g)
structure Lk(w W:World)(r k kl kr t a b n:Nat)(v sv:Value)(Lb Rb:Nat->Bs)(L:Bs)(G H:Nat->List (Nat × Bs))(U l:List (Nat × Bs)):Prop where
 on:SP.Only r 0 32 w W
 rk:r<k
 wk:w.heap.size=k
 r0:Row W k (inL kl kr t a b)
 r1:Row W (k+1) [pZ r]
 r2:∃e:Array Value,v=.agg e/\e.size=3/\e.all (·.oneCell')=true/\Row W (k+2) e.toList
 pl:PtL (QR r k) W kl t Lb
 pr:PtL (QR r k) W kr t Rb
 gr:GRq (QR r k) W v n G H U
 sm:SmQ (QR r k) W sv l
 lg:Holds encB W r 0 L
 ls:L.size=32
section
variable {w W W':World}{r k kl kr t a b n:Nat}{v sv:Value}{Lb Rb:Nat->Bs}{L:Bs}{G H:Nat->List (Nat × Bs)}{U l:List (Nat × Bs)}
theorem Lk.any{L':Bs}(h:Lk w W r k kl kr t a b n v sv Lb Rb L G H U l)(hO:SP.Only r 0 32 w W')(kq:Kq (QR r k) W W')(hk:∀g,k<=g->g<k+3->W'.heap[g]? = W.heap[g]?)(hL:Holds encB W' r 0 L')(hls:L'.size=32):Lk w W' r k kl kr t a b n v sv Lb Rb L' G H U l:=by
 obtain⟨e,e1,e2,e3,e4⟩:=h.r2;exact⟨hO,h.rk,h.wk,kA h.r0 kq.size (hk k oM oM),kA h.r1 kq.size (hk _ oM oM),⟨e,e1,e2,e3,kA e4 kq.size (hk _ oM oM)⟩,h.pl.keep kq,h.pr.keep kq,h.gr.keep kq,h.sm.keep kq,hL,hls⟩
theorem Lk.big(h:Lk w W r k kl kr t a b n v sv Lb Rb L G H U l):k+3<=W.heap.size:=by
 obtain⟨e,-,-,-,e4⟩:=h.r2;exact e4.1
theorem Lk.grow(h:Lk w W r k kl kr t a b n v sv Lb Rb L G H U l)(hb:Below W.heap.size W W'):Lk w W' r k kl kr t a b n v sv Lb Rb L G H U l:=by
 have hr:=Holds.lt h.lg (by rw[h.ls];decide);exact h.any (h.on.trans (SP.Only.of_below hb rfl hr)) (Kq.of_below hb) (λg h1 h2=>hb.block g (by have:=h.big;omega)) (Holds.below h.lg hb hr) h.ls
theorem Lk.drew(h:Lk w W r k kl kr t a b n v sv Lb Rb L G H U l):Lk w W.drew r k kl kr t a b n v sv Lb Rb L G H U l:=h.grow ⟨rfl,rfl,rfl,Se _,λ_ _=>rfl⟩
theorem Lk.say{L':Bs}(h:Lk w W r k kl kr t a b n v sv Lb Rb L G H U l)(hO:SP.Only r 0 32 W W')(hL:Holds encB W' r 0 L')(hl:L'.size=32):Lk w W' r k kl kr t a b n v sv Lb Rb L' G H U l:=by
 have hrk:=h.rk;exact h.any (h.on.trans hO) (Kq.of_only hO λg hg=>hg.1) (λg h1 h2=>hO.block g (by have:=h.big;omega) oM) hL hl
theorem Lk.qn(h:Lk w W r k kl kr t a b n v sv Lb Rb L G H U l):∀g,W.heap.size<=g->QR r k g:=λg hg=>⟨by have:=h.rk;have:=h.big;omega,SJ (by have:=h.big;omega)⟩
theorem Lk.hide{sv':Value}{l':List (Nat × Bs)}(h:Lk w W r k kl kr t a b n v sv Lb Rb L G H U l)(hs:SmQ (QR r k) W sv' l'):Lk w W r k kl kr t a b n v sv' Lb Rb L G H U l':=⟨h.on,h.rk,h.wk,h.r0,h.r1,h.r2,h.pl,h.pr,h.gr,hs,h.lg,h.ls⟩
theorem Lk.next{n':Nat}{e:Array Value}{G' H':Nat->List (Nat × Bs)}(h:Lk w W r k kl kr t a b n v sv Lb Rb L G H U l)(hg:GRq (QR r k) W (.agg e) n' G' H' U)(h3:e.size=3)(he:e.all (·.oneCell')=true):Lk w (W.setCells (k+2) 0 e.toList) r k kl kr t a b n' (.agg e) sv Lb Rb L G' H' U l:=by
 have hne:∀g,g≠k+2->(W.setCells (k+2) 0 e.toList).heap[g]? = W.heap[g]?:=λg h2=>RG.aS (k+2) _ 0 W g h2
 have hsz:W.heap.size<=(W.setCells (k+2) 0 e.toList).heap.size:=by rw[RG.setCells_size];exact Se _
 have kq:Kq (QR r k) W (W.setCells (k+2) 0 e.toList):=⟨hsz,λg q _=>hne g (by have:=q.2;omega)⟩
 have hrk:=h.rk;obtain⟨e0,-,z0,-,r2⟩:=h.r2;exact⟨GR h.on h.wk h.rk oM,h.rk,h.wk,kA h.r0 hsz (hne k oM),kA h.r1 hsz (hne _ oM),⟨e,rfl,h3,he,r2.put (by rw[Sx,Sx,h3,z0])⟩,h.pl.keep kq,h.pr.keep kq,hg.keep kq,h.sm.keep kq,IB h.lg (hne r oM),h.ls⟩
end
theorem Qu(kl kr t a b:Nat)(w:World):(TF 45 (.agg (inL kl kr t a b).toArray)).run prog w=.ok (.pointer (some ⟨w.heap.size,0,none⟩)) (w.alloc (.cells (inL kl kr t a b).toArray 45)):=kR
theorem uPL:(prog.underlying 38).map (·.isRow)=some false:=kR
theorem DR{Q:Nat->Prop}{W:World}{g n:Nat}{p:Bs}(hr:Row W g (wn n++aA p))(hQ:Q g):SmQ Q W (.slice (some (aZ g)) 1 1) [(n,p)]:=by
 have e:aO [(n,p)]=wn n++aA p:=by unfold aO;simp
 refine⟨g,1,rfl,Se _,hQ,hr.1,?_⟩;rw[e];exact hr.2.1
theorem CS{Pg:Program}{o:Oper}{ev:Operand->Value}{I:Sem Value}{v:Value}{w:World}(h:I.run Pg w=.ok v w)(he:execOp ev o=I >>= λv=>pure (Next.value v):=by kernel_rfl):(execOp ev o).run Pg w=.ok (.value v) w:=by
 rw[he,SK,h];rfl
theorem Lk.rd{w W W':World}{r k kl kr t a b n:Nat}{v sv:Value}{Lb Rb:Nat->Bs}{L:Bs}{G H:Nat->List (Nat × Bs)}{U l:List (Nat × Bs)}(h:Lk w W r k kl kr t a b n v sv Lb Rb L G H U l)(hO:SP.Only r 0 32 W W'){i:Nat}(hi:i<t):
 W'.rangeAt (k+1) 0 [pZ r]/\W'.cell? ⟨k,0,none⟩=some (.slice (some (aZ kl)) t t)/\W'.cell? ⟨k,1,none⟩=some (.slice (some (aZ kr)) t t)/\W'.rangeAt kl (0+33*i) (aA (Lb i))/\W'.rangeAt kr (0+33*i) (aA (Rb i)):=by
 have hrk:=h.rk;have kq:Kq (QR r k) W W':=Kq.of_only hO λg hg=>hg.1
 rw[Sj];exact⟨(h.r1.only hO oM).2.1,(h.r0.only hO oM).2.1 0 _ rfl,(h.r0.only hO oM).2.1 1 _ rfl,((h.pl.keep kq) i hi).2.2,((h.pr.keep kq) i hi).2.2⟩
theorem Rm(h:1<N):(-1:Fin N).val=sMi N 0 1:=by
 have h1:(1:Fin N).val=1:=by
  show 1%N=1;exact SA h
 have h2:(-1:Fin N).val=(N-(1:Fin N).val)%N:=Fin.val_neg' _;rw[h2,h1];unfold sMi;rw[Sj]
omit [NeZero N] in
theorem JF(C:Fld P){X:EC.Pt P}(hX:EC.On X):wr X=o33↔X=none:=by
 rw[<-JG (P:=P)];refine⟨λh=>?_,λh=>by rw[h]⟩;obtain⟨p,h1,h2⟩:=DZ C hX;obtain⟨q,h3,h4⟩:=DZ C (EC.fV (P:=P));rw[h,h3]at h1;injection h1 with h1
 rw[<-h2,<-h4,h1]
theorem Qe(C:Fld P)(O:Ord N)(hord:∀r:EC.Pt P,EC.On r->EC.mul N r=none)(hP:NT.IsP N){Q:Nat->Prop}{c:Nat}{G H:Nat->List (Nat × Bs)}{U l:List (Nat × Bs)}{g h:Nat->OnP P}{u p:OnP P}(hc:0<c)(hcm:c<=64)(hG:Gd N 1 c G g)(hH:Gd N 1 c H h)(hU:Tl N U u)(h0:0<U.length)(h9:U.length<=16)(hl:Tl N l p)(hll:l.length<=13)(a b:Fin N):
 ∃l' l'' Y,Y.size=33/\(Y=o33↔p=(aL C hord).ad ((aL C hord).ad ((aL C hord).ac a (g 0)) ((aL C hord).ac b (h 0))) ((aL C hord).ac (a*b) u))/\(∀(W:World) (v va vb:Value),GRq Q W v 1 G H U->SLq Q W va 1 (λ_=>a.val)->SLq Q W vb 1 (λ_=>b.val)->Calls prog 32 #[v,va,vb] W (rZ W λe w'=>Sm W.heap.size w' e l')) /\
  (∀(W:World) (s sv:Value),Sm 0 W s l'->Sm 0 W sv l->Calls prog 33 #[s,sv] W (rZ W λe w'=>Sm W.heap.size w' e l'')) /\
  (∀(W:World) (v:Value),Sm 0 W v l''->Calls prog 34 #[v] W (rZ W λe w'=>e=pvl Y)):=by
 have hk:=IF (by decide:0<1) hc oM hG hH hU h0 h9;obtain⟨hT,hl'⟩:=Oj C hord hG hH hU (d:=U.length) rfl (λ_=>a) (λ_=>b);rw[<-Ea]at hT hl';have hT2:=hT.app C hord (hl.tm C hord (-1));rw[Rm hP.1]at hT2;have hz:=(aL C hord).Ni ((aL C hord).hd (λ_=>a) (λ_=>b) g h u 1) p;rw[(aL C hord).Ol (λ_=>a) (λ_=>b) g h u]at hz hT2;refine⟨_,_,_,dB _,(JF C (Subtype.property _)).trans ((Z3 (a2:=(aL C hord).zo)).symm.trans hz),λW v va vb h1 h2 h3=>Lq O 1 c G H U hk _ _ (λi _=>a.isLt) (λi _=>b.isLt) v va vb W h1 h2 h3,λW s sv h1 h2=>Cc O 0 s sv _ l (by rw[hl'];omega) (by rw[hl'];omega) oM hT.ok.sz hl.ok.sz hl.ok.lt W (Us _) h1 h2,λW v hv=>?_⟩;exact hT2.point C O hord (by rw[Su,hl'];omega) (by rw[Su,SO,hl'];omega) hv
theorem Qj{a b:Bs}(ha:a.size=33)(hb:b.size=33)(w:World):(binOp .eql 35 (pvl a) (pvl b)).run prog w=.ok (.bool (decide (a=b))) w:=by
 have h2:(binOp .eql 35 (pvl a) (pvl b)).run prog w=(Z6 35 (pvl a) (pvl b) >>= λb=>pure (Value.bool b)).run prog w:=rfl;rw[h2,SK,show(Z6 35 (pvl a) (pvl b)).run prog w=.ok (decide (a=b)) w from Ql ha hb w];rfl
theorem Qs(n:Nat)(w:World):(UK 78 1 #[(0,nv n)]).run prog w=.ok (.slice (some ⟨w.heap.size,0,none⟩) 1 1) (w.alloc (.cells (wn n).toArray 43)):=kR
theorem Pq{Q:Nat->Prop}{W:World}{g n:Nat}(hr:Row W g (wn n))(hQ:Q g):SLq Q W (.slice (some (aZ g)) 1 1) 1 (λ_=>n):=⟨g,0,1,rfl,Se _,hQ,hr.1,λj hj=>by
 have:j=0:=oM;subst this;exact hr.2.1⟩
theorem Ki(C:Fld P)(O:Ord N)(hord:∀r:EC.Pt P,EC.On r->EC.mul N r=none)(hP:NT.IsP N)(t:Nat)(ht:t<=6)(Lp Tp:Nat->OnP P)(v0:Md.Vs Bs (OnP P))(u:OnP P)(G0 H0:Nat->List (Nat × Bs))(U l0:List (Nat × Bs))(hG0:Gd N (2^t) 1 G0 v0.g)(hH0:Gd N (2^t) 1 H0 v0.h)(hU:Tl N U u)(hU0:0<U.length)(hU9:U.length<=16)(hl0:Tl N l0 v0.p)(hl1:l0.length=1)
 (Lb Rb:Nat->Bs) (hLb:∀j,Lb j=wP (Lp j)) (hRb:∀j,Rb j=wP (Tp j)) (r kl kr:Nat) (a b:Fin N) (vg sv:Value) (w:World) (hL:Holds encB w r 0 v0.s) (hls:v0.s.size=32) (hpl:PtL (·≠r) w kl t Lb) (hpr:PtL (·≠r) w kr t Rb) (hv:GRq (·≠r) w vg (2^t) G0 H0 U) (hs:SmQ (·≠r) w sv l0) (Bd:Bool) (hBd:Bd=true↔(aL C hord).JK u a b ((aL C hord).vst (chF N) ivF t Lp Tp v0 t)) :
 Calls prog 11 #[.agg (inL kl kr t a.val b.val).toArray,lgV r,vg,sv] w (Ret λe w'=>SP.Only r 0 32 w w'/\e=.bool Bd):=by
 have hr:=Holds.lt hL (by rw[hls];decide);obtain⟨k,hk⟩:=hE (w.heap.size);obtain⟨e0,he0,hes,hea⟩:=hv.ar;subst he0;obtain⟨w1,hw1⟩:=hE (w.alloc (.cells (inL kl kr t a.val b.val).toArray 45));obtain⟨w2,hw2⟩:=hE (w1.alloc (.cells #[pZ r] 53));obtain⟨w3,hw3⟩:∃w3,Hid (w2.alloc (.cells e0 59)=w3):=⟨_,rfl⟩
 have z1:w1.heap.size=k+1:=by rw[<-hw1.out,Sq,hk.out]
 have z2:w2.heap.size=k+2:=by rw[<-hw2.out,Sq,z1]
 have hrk:r<k:=by rw[<-hk.out];exact hr
 have K3:Hid (Lk w w3 r k kl kr t a.val b.val (2^t) (.agg e0) sv Lb Rb v0.s G0 H0 U l0):=by
  have b1:Below w.heap.size w w1:=by rw[<-hw1.out];exact aB _ _
  have b2:Below w1.heap.size w1 w2:=by rw[<-hw2.out];exact aB _ _
  have b3:Below w2.heap.size w2 w3:=by rw[<-hw3.out];exact aB _ _
  have r1:Row w1 k (inL kl kr t a.val b.val):=by rw[<-hw1.out,<-hk.out];exact aD w _ _
  have r2:Row w2 (k+1) [pZ r]:=by rw[<-hw2.out,<-z1];exact aD w1 _ _
  have r3:Row w3 (k+2) e0.toList:=by rw[<-hw3.out,<-z2];exact aD w2 e0.toList 59
  have bb:Below w.heap.size w w3:=(b1.trans (b2.mono b1.size)).trans (b3.mono (SD b1.size b2.size));have qq:∀g,g<w.heap.size->g≠r->QR r k g:=λg hg hgr=>⟨hgr,SY (by rw[<-hk.out];exact hg)⟩
  have kq:∀ {Q:Nat->Prop},Kq Q w w3:=Kq.of_below bb;have hs':SmQ (QR r k) w sv l0:=by
   obtain⟨g,c,h1,h2,h3,h4,h5⟩:=hs;exact⟨g,c,h1,h2,qq g h4 h3,h4,h5⟩
  exact⟨SP.Only.of_below bb rfl hr,hrk,hk.out,(r1.below b2).below b3,r2.below b3,⟨e0,rfl,hes,hea,r3⟩,(hpl.mono2 qq).keep kq,(hpr.mono2 qq).keep kq,(hv.mono2 qq).keep kq,hs'.keep kq,Holds.below hL bb hr,hls⟩
 obtain⟨vI,hvI⟩:=hE (SX (inL kl kr t a.val b.val).toArray);obtain⟨vl,hvl⟩:=hE (lgV r);obtain⟨vG,hvG⟩:=hE (SX e0);have B1:Hid ((TF 45 vI).run prog w=.ok (pZ k) w1):=by rw[<-hvI.out,<-hw1.out,<-hk.out];exact Qu kl kr t a.val b.val w
 have B2:Hid ((TF 53 vl).run prog w1=.ok (.pointer (some ⟨k+1,0,none⟩)) w2):=by rw[<-hvl.out,<-hw2.out,<-z1];exact Qt r w1
 have B3:Hid ((TF 59 vG).run prog w2=.ok (.pointer (some ⟨k+2,0,none⟩)) w3):=by
  obtain⟨a1,a2,a3,ea⟩:∃a b c,e0=#[a,b,c]:=by
   obtain⟨x1,x2,x3,e,-⟩:=hv.ex;injection e with e
   exact⟨x1,x2,x3,e⟩
  rw[<-hvG.out,<-hw3.out,<-z2,ea];exact LR a1 a2 a3 w2
 have K4:Hid (∃v G H l,Gd N (2^(t-0)) (2^0) G ((aL C hord).vst (chF N) ivF t Lp Tp v0 0).g/\Gd N (2^(t-0)) (2^0) H ((aL C hord).vst (chF N) ivF t Lp Tp v0 0).h/\Tl N l ((aL C hord).vst (chF N) ivF t Lp Tp v0 0).p/\l.length=1+2*0/\Lk w w3 r k kl kr t a.val b.val (2^(t-0)) v sv Lb Rb ((aL C hord).vst (chF N) ivF t Lp Tp v0 0).s G H U l):=⟨_,G0,H0,l0,hG0,hH0,hl0,hl1,K3.out⟩
 have HLR:Hid ((∀j,Lb j=wP (Lp j))/\∀j,Rb j=wP (Tp j)):=⟨hLb,hRb⟩
 have HF:=mk7 C O hP hU hU0 hU9 ht;have HEnd:=Hid.mk' hBd;have c0:=K3.r0.2.1 0 _ rfl;rw[hvI.out,hvl.out,hvG.out];go_enter Tryz.func11,Tryz.ntmps11;go_wp2_with (first|(refine aI (u:=vI) (v:=pZ k) (w':=w1) rfl 45 (.tmp 0) rfl ?_ ?_ ?_;rfl;exact B1.out)|(refine aI (u:=vl) (v:=.pointer (some ⟨k+1,0,none⟩)) (w':=w2) rfl 53 (.tmp 1) rfl ?_ ?_ ?_;rfl;exact B2.out)|(refine aI (u:=vG) (v:=.pointer (some ⟨k+2,0,none⟩)) (w':=w3) rfl 59 (.tmp 2) rfl ?_ ?_ ?_;rfl;exact B3.out)|fail)
 go_loopg [3,16] t (λm s3 s16 W=>∃i:Nat,i+m=t/\s16=iZ i/\Hid (∃v G H l,Gd N (2^(t-i)) (2^i) G ((aL C hord).vst (chF N) ivF t Lp Tp v0 i).g/\Gd N (2^(t-i)) (2^i) H ((aL C hord).vst (chF N) ivF t Lp Tp v0 i).h/\Tl N l ((aL C hord).vst (chF N) ivF t Lp Tp v0 i).p/\l.length=1+2*i/\Lk w W r k kl kr t a.val b.val (2^(t-i)) v s3 Lb Rb ((aL C hord).vst (chF N) ivF t Lp Tp v0 i).s G H U l))
 case atStart=>exact⟨0,oM,rfl,K4⟩
 case round =>
  obtain⟨i,hik,rfl,KM⟩:=hrel;by_cases hi:i<t
  ·have hi':(i:Int)<(t:Int):=oM;obtain⟨v,G,H,l,hG,hH,hl,hll,hR⟩:=KM.out;have HI:=Hid.mk' hi;obtain⟨m,hm⟩:∃m,m=2^(t-(i+1)):=⟨_,rfl⟩
   have hn2:2^(t-i)=m+m:=by rw[hm,show t-i=t-(i+1)+1 by omega,T8];omega
   have hm0:0<m:=by rw[hm];exact Va dC
   obtain⟨c,hc⟩:∃c,c=2^i:=⟨_,rfl⟩
   have hc0:0<c:=by rw[hc];exact Va dC
   have hcm:c*(m+m)<=64:=by
    rw[<-hn2,hc,<-Nat.pow_add,show i+(t-i)=t by omega];exact SD (TT dC HF.2.2.2.2.2.2) dC
   have HE:Hid (2^(t-(i+1))=m/\2^(i+1)=c+c):=⟨hm.symm,by rw[T8,hc];omega⟩
   rw[hn2,<-hc]at hG hH;rw[hn2]at hR;have hst:=λ(s:Bs) (x:Fin N)=>Gn C hord HF.2.2.1 t Lp Tp v0 i m hm s x
   obtain⟨sx,cx,hsc,cCh⟩:=OI HF.2.1 HF.2.2.1 r ((aL C hord).vst (chF N) ivF t Lp Tp v0 i).s (Lp i) (Tp i) (Lb i) (Rb i) (HLR.1 i) (HLR.2 i);have hst2:=hst sx cx hsc.1;have HS:=Hid.mk' hst2;have hsX:(Lb i).size=33:=by rw[HLR.1 i];exact dB _
   have hsY:(Rb i).size=33:=by rw[HLR.2 i];exact dB _
   have HXY:=Hid.mk' (Tj hsX hsY);generalize hVi:(aL C hord).vst (chF N) ivF t Lp Tp v0 i=Vi at hG hH hl hR hsc cCh HS;have HG:=Hid.mk' (Tj hG (Tj hH (Tj hl (Tj hll (Tj hm0 (Tj hc0 hcm))))));clear hG hH hl hll hm0 hc0 hcm hVi;have HR:=Hid.mk' hR;clear hR;go_wp2_with fail
   have R0:=HR.drew;have rdA:=λ(W:World) (hO:SP.Only r 0 32 wr.drew W)=>R0.rd hO HI.out
   have O0:SP.Only r 0 32 wr.drew wr.drew:=SP.Only.of_below (SE _ _) rfl (Holds.lt R0.lg (by rw[R0.ls];decide));obtain⟨dL,hdL1,hdL2⟩:=Sf.1 uLg;obtain⟨dP,hdP1,hdP2⟩:=Sf.1 uCP;have iXX:(prog.info? 35).map (·.size)=some (aA (Lb i)).length:=by rw[aH HXY.1];exact iCP
   have iYY:(prog.info? 35).map (·.size)=some (aA (Rb i)).length:=by rw[aH HXY.2];exact iCP
   refine anyS.begin (λ_ W=>SP.Only r 0 32 wr.drew W) kR ?_;have bS:∀(p:Nat),Bef (λ_ W=>SP.Only r 0 32 wr.drew W) p wr.drew:=λp=>⟨#[],by simp,O0⟩
   refine anyS.row (i:=0) (d:=some 19) (cs:=[pZ r]) rfl 13 (λ_ _ h=>h) 53 5 (k+1) 0 dL rfl hdL1 hdL2 iLg (λW ⟨l,e,h⟩=>(rdA W h).1) (bS 13) O0 ?_;simp only[Tt,Sw,SN,SQ];refine anyS.val (i:=1) (d:=some 20) (x:=pZ k) rfl 13 (λ_ _ h=>h) (bS 13) O0 ?_;simp only[Tt,Sw,SN,SQ];refine anyS.cel (i:=2) (d:=some 21) (x:=.slice (some (aZ kl)) t t) rfl 13 (λ_ _ h=>h) 38 20 k 0 rfl uPL (λW ⟨l,e,h⟩=>(rdA W h).2.1) (bS 13) O0 ?_;simp only[Tt,Sw,SN,SQ];refine anyS.val (i:=3) (d:=some 22) (x:=iZ i) rfl 13 (λ_ _ h=>h) (bS 13) O0 ?_;simp only[Tt,Sw,SN,SQ];refine anyS.val (i:=4) (d:=some 23) (x:=.pointer (some ⟨kl,0+33*i,none⟩)) rfl 13 (λ_ _ h=>h) (bS 13) O0 ?_ (λW=>CS (I:=To 38 (.slice (some (aZ kl)) t t) (iZ i)) (atP kl 0 t t i HI.out W));simp only[Tt,Sw,SN,SQ];refine anyS.row (i:=5) (d:=some 24) (cs:=aA (Lb i)) rfl 13 (λ_ _ h=>h) 35 23 kl (0+33*i) dP rfl hdP1 hdP2 iXX (λW ⟨l,e,h⟩=>(rdA W h).2.2.2.1) (bS 13) O0 ?_;simp only[Tt,Sw,SN,SQ];refine anyS.val (i:=6) (d:=some 25) (x:=.pointer (some ⟨k,1,none⟩)) rfl 13 (λ_ _ h=>h) (bS 13) O0 ?_;simp only[Tt,Sw,SN,SQ];refine anyS.cel (i:=7) (d:=some 26) (x:=.slice (some (aZ kr)) t t) rfl 13 (λ_ _ h=>h) 38 25 k 1 rfl uPL (λW ⟨l,e,h⟩=>(rdA W h).2.2.1) (bS 13) O0 ?_;refine anyS.val (i:=8) (d:=some 27) (x:=iZ i) rfl 13 (λ_ _ h=>h) (bS 13) O0 ?_;refine anyS.val (i:=9) (d:=some 28) (x:=.pointer (some ⟨kr,0+33*i,none⟩)) rfl 13 (λ_ _ h=>h) (bS 13) O0 ?_ (λW=>CS (I:=To 38 (.slice (some (aZ kr)) t t) (iZ i)) (atP kr 0 t t i HI.out W));refine anyS.row (i:=10) (d:=some 29) (cs:=aA (Rb i)) rfl 13 (λ_ _ h=>h) 35 28 kr (0+33*i) dP rfl hdP1 hdP2 iYY (λW ⟨l,e,h⟩=>(rdA W h).2.2.2.2) (bS 13) O0 ?_;have hrW:r<wr.drew.heap.size:=Holds.lt R0.lg (by rw[R0.ls];decide);have bA:=aB wr.drew (.cells #[uZ 0,uZ 0,uZ 0,uZ 0] 43);have oA:SP.Only r 0 32 wr.drew (wr.drew.alloc (.cells #[uZ 0,uZ 0,uZ 0,uZ 0] 43)):=SP.Only.of_below bA rfl hrW;refine anyS.calal (i:=11) (j:=12) (di:=30) (dj:=10) (obj:=.cells #[uZ 0,uZ 0,uZ 0,uZ 0] 43) (F:=λv b W'=>v=nv cx.val/\SP.Only r 0 32 wr.drew W'/\Holds encB W' r 0 sx/\wr.drew.heap.size<=b/\Row W' b [uZ 0,uZ 0,uZ 0,uZ 0]) rfl rfl (cCh wr.drew R0.lg R0.ls) (cCh _ (Holds.below R0.lg bA hrW) R0.ls) oA ?_ ?_ (by intro _ _;kernel_rfl) ?_
   ·rintro v W' ⟨hO,hH,rfl⟩;have bb:=aB W' (.cells #[uZ 0,uZ 0,uZ 0,uZ 0] 43);have hr':=Si hrW hO.size;exact⟨hO,hO.trans (SP.Only.of_below bb rfl hr'),rfl,hO.trans (SP.Only.of_below bb rfl hr'),Holds.below hH bb hr',hO.size,aD W' _ _⟩
   ·rintro v W' ⟨hO,hH,rfl⟩;exact⟨oA.trans hO,rfl,oA.trans hO,hH,Se _,(aD wr.drew [uZ 0,uZ 0,uZ 0,uZ 0] 43).only hO (TC hrW)⟩
   ·rintro xv b10 W4 ⟨rfl,hO4,hH4,hb4,hr4⟩;have hO5:SP.Only r 0 32 wr.drew (W4.setCells b10 0 (wn cx.val)):=bR hO4 hrW hb4 0;refine anyS.sta (i:=13) (d:=none) rfl 43 (.tmp 10) (.tmp 30) rfl b10 0 (wn cx.val).toArray (dE _) hr4.2.2 nSc hO5 ?_;simp only[Tt,Sw,SN,SQ];refine anyS.fin kR ?_ _;intro W5 hW5;have hW5':=hW5;have R5:Lk w W5 r k kl kr t a.val b.val (m+m) v u3 Lb Rb sx G H U l:=by rw[hW5'];exact R0.say hO5 (iM hH4 oM) hsc.2
    have r5:Row W5 b10 (wn cx.val):=by rw[hW5'];exact hr4.put rfl
    obtain⟨x,hxe⟩:=hE (cx.val);obtain⟨xq,hxqe⟩:=hE ((cx*cx).val);obtain⟨xi,hxie⟩:=hE ((ivF (cx*cx)).val);have hTm:Hid (∀W:World,Calls prog 27 #[nv x,nv x] W (rZ W λe w'=>e=nv xq)):=by
     rw[<-hxe.out,<-hxqe.out];exact λW=>Cf HF.2.1 cx.val cx.val cx.isLt cx.isLt W
    have hIn:Hid (∀W:World,Calls prog 30 #[nv xq] W (rZ W λe w'=>e=nv xi)):=by
     rw[<-hxqe.out,<-hxie.out];exact λW=>DV HF.2.1 (cx*cx).val (cx*cx).isLt W
    rw[hxe.out]at r5;rw[hxe.out];have K5:=Hid.mk' (Tj R5 r5);clear R5 r5 hW5' hW5 hO5 hO4 hH4 hb4 hr4 R0 rdA O0 oA bA hrW HR cCh;obtain⟨vx,hvx⟩:=hE (nv x);have hTm':Hid (∀W:World,Calls prog 27 #[vx,vx] W (rZ W λe w'=>e=nv xq)):=by rw[<-hvx.out];exact hTm.out
    obtain⟨dS,hdS1,hdS2⟩:=Sf.1 rSc;rw[hvx.out];go_wp2_with (first|(refine ldR 10 K5.2.2.1 hvx rSc nSc ?_)|fail)
    refine(hTm' W5).mono ?_;rintro e W6 ⟨uu,rfl,hb6,rfl⟩;obtain⟨b11,hb11⟩:=hE (W6.heap.size);obtain⟨W7,hW7⟩:=hE (W6.alloc (.cells #[uZ 0,uZ 0,uZ 0,uZ 0] 43));obtain⟨W8,hW8⟩:=hE (W7.setCells b11 0 (wn xq));have F7:Hid (Row W7 b11 [uZ 0,uZ 0,uZ 0,uZ 0]/\Below W6.heap.size W6 W7):=by rw[<-hW7.out,<-hb11.out];exact⟨aD W6 _ _,aB _ _⟩
    have b58:Below W5.heap.size W5 W8:=by
     have:Below W6.heap.size W6 W8:=by rw[<-hW8.out];exact RG.below_setCells (by rw[hb11.out];exact Se _) _ _ _ F7.2
     exact hb6.trans (this.mono hb6.size)
    have K8:Hid (Lk w W8 r k kl kr t a.val b.val (m+m) v u3 Lb Rb sx G H U l/\Row W8 b10 (wn x)/\Row W8 b11 (wn xq)):=⟨K5.1.grow b58,K5.2.below b58,by rw[<-hW8.out];exact F7.1.put rfl⟩
    obtain⟨vq,hvq⟩:=hE (nv xq);rw[hvq.out];go_wp2_with (first|(refine alR 11 hb11 hW7 ?_)|(refine stR 11 hW8 hvq F7.1.2.2 nSc (dE xq) ?_)|fail)
    have qn8:∀(W:World),Below W8.heap.size W8 W->∀g,W.heap.size<=g->QR r k g:=λW hB g hg=>K8.1.qn g (SD hB.size hg)
    have o8:∀(W:World),Below W8.heap.size W8 W->SP.Only r 0 32 W8 W:=λW hB=>SP.Only.of_below hB rfl (Holds.lt K8.1.lg (by rw[K8.1.ls];decide))
    have rd8:=Hid.mk' (λ(W:World) (hB:Below W8.heap.size W8 W)=>K8.1.rd (o8 W hB) HI.out);have HQ8:=Hid.mk' qn8;have tk:=HG.2.2.1.ok;have tk1:TOk N [(xq,Lb i)]:=by rw[<-hxqe.out,HLR.1 i];exact(Tl.pt C hord (cx*cx) (Lp i)).ok
    have tk2:TOk N [(xi,Rb i)]:=by rw[<-hxie.out,HLR.2 i];exact(Tl.pt C hord (ivF (cx*cx)) (Tp i)).ok
    have hl13:l.length<=13:=by have:=HG.2.2.2.1;have:=HF.2.2.2.2.2.2;have:=HI.out;omega
    have hl0:0<l.length:=by have:=HG.2.2.2.1;omega
    have cTa:=Hid.mk' (λW=>rE (Lb i) HXY.1 xq W);have cTb:=Hid.mk' (λW=>rE (Rb i) HXY.2 xi W);have cPa:=Hid.mk' (λ(s1 s2:Value) (W:World) (h1:Sm 0 W s1 l) (h2:Sm 0 W s2 [(xq,Lb i)])=>qV 0 s1 s2 l [(xq,Lb i)] hl0 oM (by simp) tk.sz tk1.sz W h1 h2);have cPb:=Hid.mk' (λ(s1 s2:Value) (W:World) (h1:Sm 0 W s1 (l++[(xq,Lb i)])) (h2:Sm 0 W s2 [(xi,Rb i)])=>qV 0 s1 s2 (l++[(xq,Lb i)]) [(xi,Rb i)] (by simp) (by simp;omega) (by simp) (tk.app tk1).sz tk2.sz W h1 h2);rw[<-hvq.out];refine(RG.gwL [RG.pE u3,RG.pE (pZ k),RG.pE (.slice (some (aZ kl)) t t),RG.pE (iZ i),RG.pE (.pointer (some ⟨kl,0+33*i,none⟩)),RG.pE (pvl (Lb i)),RG.pE (nv xq),RG.pM (QR r k) [(xq,Lb i)],RG.pM (QR r k) (l++[(xq,Lb i)]),RG.pE (.pointer (some ⟨k,1,none⟩)),RG.pE (.slice (some (aZ kr)) t t),RG.pE (iZ i),RG.pE (.pointer (some ⟨kr,0+33*i,none⟩)),RG.pE (pvl (Rb i)),RG.pE (nv xq),RG.pE (nv xi),RG.pM (QR r k) [(xi,Rb i)],RG.pM (QR r k) (l++[(xq,Lb i)]++[(xi,Rb i)])] (λW=>Below W8.heap.size W8 W) (λW W' hb h=>h.trans (hb.mono h.size))).tail2 18 kR kR kR ⟨
     RG.gO 3 u3,
     RG.gO 4 (pZ k),
     RG.iU 38 1 35 k 0 (.slice (some (aZ kl)) t t) uPL (λx W h=>h) (λW hB=>(rd8 W hB).2.1) (λ_=>rfl),
     RG.gO 9 (iZ i),
     RG.gX 2 36 3 37 (atP kl 0 t t i HI.out),
     RG.gLr 4 38 (λW hB=>(rd8 W hB).2.2.2.1) uCP iXX,
     RG.gLo 11 (λW hB=>RG.range_below K8.2.2.2.1 hB K8.2.2.1) rSc nSc,
     RG.jO 5 39 6 40 29 (λx y=>#[x,y]) (λz y W hx hy hB=>by
      obtain rfl:z=pvl (Lb i):=hx;obtain rfl:y=nv xq:=hy;refine(cTa W).mono ?_;rintro e W' ⟨uu,rfl,hb,g,rfl,hg,hrow⟩;exact⟨_,rfl,hb,DR hrow (HQ8 W hB g hg)⟩),
     RG.jO 0 34 7 41 28 (λx y=>#[x,y]) (λz y W hx hy hB=>by
      obtain rfl:z=u3:=hx;have hy:=hy;refine(cPa z y W ((K8.1.grow hB).sm.sm) hy.sm).mono ?_;rintro e W' ⟨uu,rfl,hb,hs⟩;exact⟨_,rfl,hb,hs.q.mono λg hg=>HQ8.out W hB g hg⟩),
     RG.gP 4 (pZ k) (.pointer (some ⟨k,1,none⟩)),
     RG.iU 38 9 43 k 1 (.slice (some (aZ kr)) t t) uPL (λx W h=>h) (λW hB=>(rd8 W hB).2.2.1) (λ_=>rfl),
     RG.gO 9 (iZ i),
     RG.gX 10 44 11 45 (atP kr 0 t t i HI.out),
     RG.gLr 12 46 (λW hB=>(rd8 W hB).2.2.2.2) uCP iYY,
     RG.gLo 11 (λW hB=>RG.range_below K8.2.2.2.1 hB K8.2.2.1) rSc nSc,
     RG.Bp 14 48 30 (λx=>#[x]) (λz W hx hB=>by
      obtain rfl:z=nv xq:=hx;exact hIn.out W),
     RG.jO 13 47 15 49 29 (λx y=>#[x,y]) (λz y W hx hy hB=>by
      obtain rfl:z=pvl (Rb i):=hx;obtain rfl:y=nv xi:=hy;refine(cTb W).mono ?_;rintro e W' ⟨uu,rfl,hb,g,rfl,hg,hrow⟩;exact⟨_,rfl,hb,DR hrow (HQ8 W hB g hg)⟩),
     RG.jO 8 42 16 50 28 (λx y=>#[x,y]) (λz y W hx hy hB=>by
      have hx:=hx;have hy:=hy;refine(cPb z y W hx.sm hy.sm).mono ?_;rintro e W' ⟨uu,rfl,hb,hs⟩;exact⟨_,rfl,hb,hs.q.mono λg hg=>HQ8.out W hB g hg⟩),trivial⟩ (SE _ _).drew ?_
    intro V W9 hR9 hB9;have hV17:=hR9 17 dC;have K9:=mk2 ((K8.1.grow hB9).hide hV17) (K8.2.1.below hB9);dsimp only[RG.dJ,TG,UY,U0];generalize V 17=s17 at K9⊢;clear hV17 hR9 hB9 K8 rd8 HQ8 cTa cTb cPa cPb;generalize V 0=y0;generalize V 1=y1;generalize V 2=y2;generalize V 3=y3;generalize V 4=y4;generalize V 5=y5;generalize V 6=y6;generalize V 7=y7;generalize V 8=y8;generalize V 9=y9;generalize V 10=ya;generalize V 11=yb;generalize V 12=yc;generalize V 13=yd;generalize V 14=ye;generalize V 15=yf;generalize V 16=yg;clear V;obtain⟨ev,hev,hevs,heva,hevr⟩:=K9.1.r2;have hgk:GOk N (m+m) c G H U:=IF (by have:=HG.2.2.2.2.1;omega) HG.2.2.2.2.2.1 HG.2.2.2.2.2.2 HG.1 HG.2.1 HF.2.2.2.1 HF.2.2.2.2.1 HF.2.2.2.2.2.1;obtain⟨xo,hxoe⟩:∃x,Hid ((ivF cx).val=x):=⟨_,rfl⟩
    have hxN:x<N:=by rw[<-hxe.out];exact cx.isLt
    have hsI:sIn N x=xo:=by rw[<-hxe.out,<-hxoe.out];rfl
    have cFo:=Lz HF.2.1 m c HG.2.2.2.2.1 G H U hgk x hxN v W9 K9.1.qn K9.1.gr;rw[hsI]at cFo;obtain⟨yv,hyv⟩:∃y,Hid (v=y):=⟨_,rfl⟩
    have HEV:Hid (SX ev.toList.toArray=yv/\Row W9 (k+2) ev.toList/\(prog.info? 59).map (·.size)=some ev.toList.length/\ev.size=3):=⟨hev.symm.trans hyv.out,hevr,by rw[Sx,hevs];exact iGr,hevs⟩
    rw[hyv.out,hvx.out]at cFo;have HCF:=Hid.mk' cFo;obtain⟨dG,hdG1,hdG2⟩:=Sf.1 uGr;have HDG:Hid (prog.underlying 59=some dG/\dG.isRow=true):=⟨hdG1,hdG2⟩
    clear hev hevs heva hevr hgk hxN hsI cFo hdG1 hdG2;go_wp2_with (first|(refine wpList_load_mid rfl 59 (.tmp 6) rfl (k+2) 0 ?_ ev.toList dG ?_ ?_ ?_ ?_ ?_;rfl;exact HEV.2.1.2.1;exact HDG.1;exact HDG.2;exact HEV.2.2.1;rw[HEV.1])|(refine ldR 10 K9.2.2.1 hvx rSc nSc ?_)|fail)
    refine HCF.mono ?_;rintro e Wa ⟨vf,rfl,hba,hga⟩;obtain⟨ef,hef,hefs,hefa⟩:=hga.ar;subst hef;have La:=(K9.1.grow hba).next hga hefs hefa;obtain⟨Wb,hWb⟩:∃W,Hid (Wa.setCells (k+2) 0 ef.toList=W):=⟨_,rfl⟩
    rw[hWb.out]at La;have HTo:Hid (Wa.there (k+2) 0 ef.size/\(prog.info? 59).map (·.size)=some ef.size/\ef.all (·.oneCell')=true):=by
     refine⟨?_,by rw[hefs];exact iGr,hefa⟩;rw[hefs];have:=(HEV.2.1.below hba).2.2;rw[Sx,HEV.2.2.2]at this;exact this
    have KEND:Hid (∃v G H l,Gd N (2^(t-(i+1))) (2^(i+1)) G ((aL C hord).vst (chF N) ivF t Lp Tp v0 (i+1)).g/\Gd N (2^(t-(i+1))) (2^(i+1)) H ((aL C hord).vst (chF N) ivF t Lp Tp v0 (i+1)).h/\Tl N l ((aL C hord).vst (chF N) ivF t Lp Tp v0 (i+1)).p/\l.length=1+2*(i+1)/\Lk w Wb r k kl kr t a.val b.val (2^(t-(i+1))) v s17 Lb Rb ((aL C hord).vst (chF N) ivF t Lp Tp v0 (i+1)).s G H U l):=by
     show ∃v G H l,_;rw[HS.out,HE.1,HE.2];have g1:=HG.1.fold C hord (ivF cx) cx;have g2:=HG.2.1.fold C hord cx (ivF cx);rw[hxe.out,hxoe.out]at g1 g2;have tl:=(HG.2.2.1.app C hord (Tl.pt C hord (cx*cx) (Lp i))).app C hord (Tl.pt C hord (ivF (cx*cx)) (Tp i));rw[hxqe.out,hxie.out]at tl;have tl':Tl N (l++[(xq,Lb i)]++[(xi,Rb i)]) ((aL C hord).ad ((aL C hord).ad Vi.p ((aL C hord).ac (cx*cx) (Lp i))) ((aL C hord).ac (ivF (cx*cx)) (Tp i))):=by rw[HLR.1 i,HLR.2 i];exact tl
     exact⟨_,_,_,_,g1,g2,tl',by have:=HG.2.2.2.1;simp;omega,La⟩
    obtain⟨vo,hvo⟩:=hE (SX ef);rw[hvo.out];go_wp2_with (first|(refine wpList_store_mid rfl 59 (.tmp 6) _ rfl (k+2) 0 ef ?_ ?_ ?_ ?_ ?_ ?_;rfl;exact hvo.symm;exact HTo.1;exact HTo.2.1;exact HTo.2.2;rw[hWb.out])|fail)
    go_roundg (gk-1)
    case measure=>have:=HI.out;omega
    case rel=>exact⟨i+1,by have:=HI.out;omega,rfl,KEND⟩
  ·have hi':¬(i:Int)<(t:Int):=oM;have hit:i=t:=oM;obtain⟨v,G,H,l,hG,hH,hl,hll,hR⟩:=KM.out;subst hit;rw[Nat.sub_self,Nat.pow_zero]at hG hH hR;have hc0:0<2^i:=Va dC;have hc64:2^i<=64:=SD (TT dC HF.2.2.2.2.2.2) dC;obtain⟨l1,l2,Y,hYs,hYe,cH,cM,cP⟩:=Qe (Q:=QR r k) C HF.2.1 hord HF.2.2.1 hc0 hc64 hG hH HF.2.2.2.1 HF.2.2.2.2.1 HF.2.2.2.2.2.1 hl (by have:=HF.2.2.2.2.2.2;omega) a b;have hYB:decide (Y=o33)=Bd:=by
    have h2:=hYe.trans HEnd.symm;cases Bd with
    | true=>exact decide_eq_true (h2.2 rfl)
    | false=>exact decide_eq_false λh=>TK (h2.1 h)
   obtain⟨ev,hev,hevs,heva,hevr⟩:=hR.r2;obtain⟨g1,hg1⟩:=hE (wr.heap.size);obtain⟨W1,hW1⟩:=hE (wr.alloc (.cells (wn a.val).toArray 43));obtain⟨g2,hg2⟩:∃g,Hid (W1.heap.size=g):=⟨_,rfl⟩
   obtain⟨W2,hW2⟩:∃W,Hid (W1.alloc (.cells (wn b.val).toArray 43)=W):=⟨_,rfl⟩
   have b1:Below wr.heap.size wr W1:=by rw[<-hW1.out];exact aB _ _
   have b2:Below W1.heap.size W1 W2:=by rw[<-hW2.out];exact aB _ _
   have r1:Row W1 g1 (wn a.val):=by rw[<-hW1.out,<-hg1.out];exact aD wr _ _
   have r2:Row W2 g2 (wn b.val):=by rw[<-hW2.out,<-hg2.out];exact aD W1 _ _
   have L1:=hR.grow b1;have L2:=L1.grow b2;have q1:QR r k g1:=by rw[<-hg1.out];exact hR.qn _ (Se _)
   have q2:QR r k g2:=by rw[<-hg2.out];exact L1.qn _ (Se _)
   have cH2:=cH W2 v _ _ L2.gr (Pq (r1.below b2) q1) (Pq r2 q2);obtain⟨yv,hyv⟩:∃y,Hid (v=y):=⟨_,rfl⟩
   obtain⟨va,hva⟩:∃y,Hid (nv a.val=y):=⟨_,rfl⟩
   obtain⟨vb,hvb⟩:∃y,Hid (nv b.val=y):=⟨_,rfl⟩
   rw[hyv.out]at cH2;have ra:∀ {W:World},Row W k (inL kl kr i a.val b.val)->W.rangeAt k 2 (wn a.val)/\W.rangeAt k 6 (wn b.val):=λhW=>⟨λj z hz=>by
    have:=hW.2.1 (2+j) z (by
     have hj:j<4:=(SI.1 hz).1;match j,hj with
     | 0,_=>exact hz
     | 1,_=>exact hz
     | 2,_=>exact hz
     | 3,_=>exact hz
     | j+4,h=>omega)
    rw[Sj]at this;exact this,λj z hz=>by
    have:=hW.2.1 (6+j) z (by
     have hj:j<4:=(SI.1 hz).1;match j,hj with
     | 0,_=>exact hz
     | 1,_=>exact hz
     | 2,_=>exact hz
     | 3,_=>exact hz
     | j+4,h=>omega)
    rw[Sj]at this;exact this⟩
   have S1:Hid ((UK 78 1 #[(0,va)]).run prog wr=.ok (.slice (some (aZ g1)) 1 1) W1):=by rw[<-hva.out,<-hg1.out,<-hW1.out];exact Qs a.val wr
   have S2:Hid ((UK 78 1 #[(0,vb)]).run prog W1=.ok (.slice (some (aZ g2)) 1 1) W2):=by rw[<-hvb.out,<-hg2.out,<-hW2.out];exact Qs b.val W1
   have HRA:=mk3 ((ra hR.r0).1) ((ra L1.r0).2) hevr.2.1;have HEV:Hid (SX ev.toList.toArray=yv/\(prog.info? 59).map (·.size)=some ev.toList.length):=⟨hev.symm.trans hyv.out,by rw[Sx,hevs];exact iGr⟩
   obtain⟨dG,hdG1,hdG2⟩:=Sf.1 uGr;obtain⟨dS,hdS1,hdS2⟩:=Sf.1 rSc;have HD:Hid ((prog.underlying 59=some dG/\dG.isRow=true)/\prog.underlying 43=some dS/\dS.isRow=true):=⟨⟨hdG1,hdG2⟩,hdS1,hdS2⟩
   have HCH:=Hid.mk' cH2;have HCM:=Hid.mk' (Tj cM cP);have KL2:=Hid.mk' L2;obtain⟨vz,hvz⟩:=hE (SX z33.toArray);obtain⟨vy,hvy⟩:=hE (pvl Y);rw[hvy.out]at HCM;have HZ:Hid (∀W,(binOp .eql 35 vy vz).run prog W=.ok (.bool Bd) W/\(VA 35 #[]).run prog W=.ok vz W/\(eqGuard .eql 35 (.tmp 67) (.tmp 68) vy vz).run prog W=.ok () W):=by
    rw[<-hvz.out,<-hvy.out,<-hYB];exact λW=>⟨by rw[Eg];exact Qj hYs rfl W,MG W,by unfold pvl;kernel_rfl⟩
   go_wp2_with (first|(refine wpList_load_mid rfl 59 (.tmp 6) rfl (k+2) 0 ?_ ev.toList dG ?_ ?_ ?_ ?_ ?_;rfl;exact HRA.2.2;exact HD.1.1;exact HD.1.2;exact HEV.2;rw[HEV.1])|(refine ldR 57 HRA.1 hva rSc nSc ?_)|(refine ldR 60 HRA.2.1 hvb rSc nSc ?_)|(refine f9 (v:=.slice (some (aZ g1)) 1 1) (w':=W1) rfl 78 1 _ rfl #[(0,va)] ?_ ?_ ?_;kernel_rfl;exact S1.out)|(refine f9 (v:=.slice (some (aZ g2)) 1 1) (w':=W2) rfl 78 1 _ rfl #[(0,vb)] ?_ ?_ ?_;kernel_rfl;exact S2.out)|fail)
   refine HCH.mono ?_;rintro e W3 ⟨s1,rfl,hb3,hs3⟩;have L3:=KL2.grow hb3;have KL3:=Hid.mk' (Tj L3 (show Sm 0 W3 s1 l1 from by
    obtain⟨g,c,x1,x2,-,x4⟩:=hs3;exact⟨g,c,x1,x2,Us _,x4⟩))
   go_wp2_with fail
   refine(HCM.1 W3 s1 u3 KL3.2 KL3.1.sm.sm).mono ?_;rintro e W4 ⟨s2,rfl,hb4,hs4⟩;have L4:=KL3.1.grow hb4;have KL4:=Hid.mk' (Tj L4 (show Sm 0 W4 s2 l2 from by
    obtain⟨g,c,x1,x2,-,x4⟩:=hs4;exact⟨g,c,x1,x2,Us _,x4⟩))
   go_wp2_with fail
   refine(HCM.2 W4 s2 KL4.2).mono ?_;rintro e W5 ⟨uu,rfl,hb5,huu⟩;have huu':=huu.symm;subst huu';have L5:=Hid.mk' (KL4.1.grow hb5).on;go_wp2_with (first|(refine d6 (v:=vz) (w':=W5) rfl 35 _ rfl #[] ?_ ?_ ?_;kernel_rfl;exact(HZ W5).2.1)|(refine bG (v:=.bool Bd) (w':=W5) rfl (.binOp .eql 35 (.tmp 67) (.tmp 68) 35) rfl ?_ ?_;exact CS (I:=eqGuard .eql 35 (.tmp 67) (.tmp 68) vy vz >>= λ_=>binOp .eql 35 vy vz) (by rw[SK,(HZ W5).2.2];exact(HZ W5).1))|fail)
   go_ret;exact⟨_,rfl,L5.out,rfl⟩
omit [NeZero N] in
theorem MY(C:Fld P)(O:Ord N){n:Int}{nL nR T x1 x2:Nat}{okN Bd:Bool}(hT:T<=6)(hH:∀W,Calls prog 8 #[iZ n] W (rZ W λe w'=>e=.tuple #[iZ T,.bool okN]))(label:ByteArray){X A B:Bs}{Lb Rb:Nat->Bs}{q1 q2:Option Addr}{vp vA vB:Value}(w:World)(hp:Arg33 w vp X)(hL:PArg w q1 nL Lb)(hR:PArg w q2 nR Rb)(hA:Arg w vA A)(hB:Arg w vB B)
 (hY:okN=true->(rd P X).isSome=true->okI P N T nL nR Lb Rb A B->∃(L0:Bs) (G H:Nat->List (Nat × Bs)) (U:List (Nat × Bs)) (m:Nat),L0.size=32/\(∀W,Calls prog 12 #[.string label,pvl X] W (rZ W λe w'=>∃r,e=lgV r/\W.heap.size<=r/\r<w'.heap.size/\Holds encB w' r 0 L0)) /\
  (∀W,Calls prog 13 #[iZ n] W (rZ W λe w'=>GRq (W.heap.size<=·) w' e m G H U)) /\
  ∀(r kl kr:Nat) (vg sv:Value) (W:World),Holds encB W r 0 L0->PtL (·≠r) W kl T Lb->PtL (·≠r) W kr T Rb->GRq (·≠r) W vg m G H U->SmQ (·≠r) W sv [(1,X)]->Calls prog 11 #[.agg (inL kl kr T ((rq N A).getD 0) ((rq N B).getD 0)).toArray,lgV r,vg,sv] W (Ret λe w'=>SP.Only r 0 32 W w'/\e=.bool Bd))
 (hF:¬(okN=true/\(rd P X).isSome=true/\okI P N T nL nR Lb Rb A B)->Bd=false) :
 Calls prog 5 #[.string label,iZ n,vp,.agg #[.slice q1 nL x1,.slice q2 nR x2,vA,vB]] w (rZ w λe w'=>e=.bool Bd):=by
 obtain⟨Y,hYe⟩:=hE (rdB P X);have sY:Y.size=33:=by rw[<-hYe.out];exact Hb X
 obtain⟨oP,hoP⟩:=hE ((rd P X).isSome);obtain⟨k,hk⟩:=hE (w.heap.size);obtain⟨w1,hw1⟩:=hE (w.alloc (.cells #[.slice q1 nL x1,.slice q2 nR x2,vA,vB] 25));obtain⟨vI,hvI⟩:=hE (SX #[.slice q1 nL x1,.slice q2 nR x2,vA,vB]);have B1:Hid ((TF 25 vI).run prog w=.ok (pZ k) w1):=by
  rw[<-hvI.out,<-hw1.out,<-hk.out];obtain⟨qa,na,ca,rfl,-⟩:=hA;obtain⟨qb,nb,cb,rfl,-⟩:=hB;exact boxJ _ _ _ _ _ _ _ _ _ _ _ _ w
 have K1:Hid (Below w.heap.size w w1/\Row w1 k [.slice q1 nL x1,.slice q2 nR x2,vA,vB]):=⟨by rw[<-hw1.out];exact aB _ _,by rw[<-hw1.out,<-hk.out];exact aD w _ _⟩
 have cR:Hid (∀(W:World),Below w.heap.size w W->Calls prog 9 #[vp] W (rZ W λe w'=>e=.tuple #[pvl Y,.bool oP])):=by
  rw[<-hYe.out,<-hoP.out];exact λW hW=>LQ C vp X W (hp.below hW)
 have cN:Hid (∀(W:World),Below w.heap.size w W->Calls prog 10 #[vI,iZ T] W (rZ W λe w'=>RdA P N T nL nR Lb Rb A B W.heap.size ((rq N A).getD 0) ((rq N B).getD 0) e w')):=by
  rw[<-hvI.out];exact λW hW=>Kl C O hT W (hL.below hW) (hR.below hW) (hA.below hW) (hB.below hW)
 obtain⟨Aa,hAa⟩:=hE ((rq N A).getD 0);obtain⟨Bb,hBb⟩:=hE ((rq N B).getD 0);rw[hAa.out,hBb.out]at cN;rw[hAa.out,hBb.out]at hY;have HY:=Hid.mk' (Tj hY hF);have cH:=Hid.mk' hH;obtain⟨dI,hdI1,hdI2⟩:=Sf.1 Nc;have HDI:=mk2 hdI1 hdI2;rw[hvI.out];go_enter Tryz.func5,Tryz.ntmps5;go_wp2_with (first|(refine aI (u:=vI) (v:=pZ k) (w':=w1) rfl 25 (.tmp 3) rfl ?_ ?_ ?_;rfl;exact B1.out)|fail)
 refine(cH.out w1).mono ?_;rintro e w2 ⟨uu,rfl,hb2,rfl⟩;have K2:=mk2 (K1.out.1.trans (hb2.mono K1.out.1.size)) (K1.out.2.below hb2);go_wp2_with fail
 refine(cR.out w2 K2.out.1).mono ?_;rintro e w3 ⟨uu,rfl,hb3,rfl⟩;obtain⟨k11,hk11⟩:=hE (w3.heap.size);obtain⟨w4,hw4⟩:=hE (w3.alloc (.cells z33.toArray 35));obtain⟨w5,hw5⟩:=hE (w4.setCells k11 0 (aA Y));have F4:Hid (Row w4 k11 z33/\Below w3.heap.size w3 w4):=by rw[<-hw4.out,<-hk11.out];exact⟨aD w3 _ _,aB _ _⟩
 have b25:Below w2.heap.size w2 w5:=by
  have:Below w3.heap.size w3 w5:=by rw[<-hw5.out];exact RG.below_setCells (by rw[hk11.out];exact Se _) _ _ _ F4.out.2
  exact hb3.trans (this.mono hb3.size)
 have K5:Hid (Below w.heap.size w w5/\Row w5 k [.slice q1 nL x1,.slice q2 nR x2,vA,vB]/\Row w5 k11 (aA Y)):=⟨K2.out.1.trans (b25.mono K2.out.1.size),K2.out.2.below b25,by rw[<-hw5.out];exact F4.out.1.put (by rw[aH sY];rfl)⟩
 have HX3:Hid (w4.there k11 0 (aA Y).toArray.size/\(prog.info? 35).map (·.size)=some (aA Y).toArray.size):=by
  rw[Tf,aH sY];exact⟨F4.out.1.2.2,iCP⟩
 obtain⟨pX,hpX⟩:=hE (pvl Y);rw[hpX.out];go_wp2_with (first|(refine bB (v:=pZ k11) (w':=w4) rfl 35 11 rfl rfl ?_ ?_;(rw[<-hw4.out,<-hk11.out];kernel_rfl))|(refine wpList_store_mid rfl 35 (.tmp 11) _ rfl k11 0 (aA Y).toArray ?_ ?_ ?_ ?_ ?_ ?_;rfl;exact hpX.out.symm;exact HX3.out.1;exact HX3.out.2;exact kJ Y;rw[show(aA Y).toArray.toList=aA Y from rfl,hw5.out])|(refine wpList_load_mid rfl 25 (.tmp 7) rfl k 0 ?_ [.slice q1 nL x1,.slice q2 nR x2,vA,vB] dI ?_ ?_ ?_ ?_ ?_;rfl;exact K5.out.2.1.2.1;exact HDI.out.1;exact HDI.out.2;exact Iw;rw[show SX [.slice q1 nL x1,.slice q2 nR x2,vA,vB].toArray=vI from hvI.out])|fail)
 refine(cN.out w5 K5.out.1).mono ?_;rintro e w6 ⟨uu,rfl,hb6,vs,ok,rfl,hlen,hone,hok,hPt⟩;obtain⟨k13,hk13⟩:=hE (w6.heap.size);obtain⟨w7,hw7⟩:=hE (w6.alloc (.cells inZ.toArray 45));obtain⟨w8,hw8⟩:=hE (w7.setCells k13 0 vs);have F7:Hid (Row w7 k13 inZ/\Below w6.heap.size w6 w7):=by rw[<-hw7.out,<-hk13.out];exact⟨aD w6 _ _,aB _ _⟩
 have b68:Below w6.heap.size w6 w8:=by rw[<-hw8.out];exact RG.below_setCells (by rw[hk13.out];exact Se _) _ _ _ F7.out.2
 have b58:=hb6.trans (b68.mono hb6.size);have K8:Hid (Below w.heap.size w w8/\Row w8 k11 (aA Y)/\Row w8 k13 vs/\(ok=true↔okI P N T nL nR Lb Rb A B)/\(ok=true->∃kl kr,vs=inL kl kr T Aa Bb/\PtL (λ_=>True) w8 kl T Lb/\PtL (λ_=>True) w8 kr T Rb)):=⟨K5.out.1.trans (b58.mono K5.out.1.size),K5.out.2.2.below b58,by rw[<-hw8.out];exact F7.out.1.put hlen,hok,λh=>by
  obtain⟨kl,kr,h1,hPl,hPr⟩:=hPt h;exact⟨kl,kr,h1,(hPl.mono2 λ_ _ _=>trivial).keep (Kq.of_below b68),(hPr.mono2 λ_ _ _=>trivial).keep (Kq.of_below b68)⟩⟩
 have HS7:Hid (w7.there k13 0 vs.toArray.size/\(prog.info? 45).map (·.size)=some vs.toArray.size/\vs.toArray.all (·.oneCell')=true):=by
  have e:vs.toArray.size=10:=by rw[Tf,hlen]
  exact⟨by rw[e];exact F7.out.1.2.2,by rw[e];exact iIr,hone⟩
 obtain⟨vZ,hvZ⟩:=hE (SX vs.toArray);rw[hvZ.out];clear hb6 K5 cN HX3 F4 hw4 hw5 b68 b58 hlen hone hok hPt;by_cases hall:okN=true/\oP=true/\ok=true
 case neg =>
  have hBd:=HY.out.2 λh=>hall ⟨h.1,by rw[<-hoP.out];exact h.2.1,K8.out.2.2.2.1.2 h.2.2⟩
  have hcs:okN=false\/(okN=true/\oP=false)\/(okN=true/\oP=true/\ok=false):=by
   revert hall;cases okN<;>cases oP<;>cases ok<;>simp
  subst hBd;rcases hcs with rfl|⟨rfl,rfl⟩|⟨rfl,rfl,rfl⟩
  all_goals
   go_wp2_with (first|(refine bB (v:=pZ k13) (w':=w7) rfl 45 13 rfl rfl ?_ ?_;(rw[<-hw7.out,<-hk13.out];kernel_rfl))|(refine wpList_store_mid rfl 45 (.tmp 13) _ rfl k13 0 vs.toArray ?_ ?_ ?_ ?_ ?_ ?_;rfl;exact hvZ.out.symm;exact HS7.out.1;exact HS7.out.2.1;exact HS7.out.2.2;rw[show vs.toArray.toList=vs from rfl,hw8.out])|fail)
   go_ret;exact⟨_,rfl,K8.out.1,rfl⟩
 case pos =>
 obtain⟨rfl,rfl,rfl⟩:=hall;obtain⟨kl,kr,rfl,hPl,hPr⟩:=K8.out.2.2.2.2 rfl;have hX:Y=X:=by rw[<-hYe.out];unfold rdB;rw[if_pos hoP.out]
 obtain⟨L0,G,H,U,m,hr0,cL,cG,cW⟩:=HY.out.1 rfl hoP.out (K8.out.2.2.2.1.1 rfl);subst hX;have HCX:=Hid.mk' (Tj cL (Tj cG cW));have K9:=mk5 K8.out.1 K8.out.2.1 K8.out.2.2.1 hPl hPr;go_wp2_with (first|(refine bB (v:=pZ k13) (w':=w7) rfl 45 13 rfl rfl ?_ ?_;(rw[<-hw7.out,<-hk13.out];kernel_rfl))|(refine wpList_store_mid rfl 45 (.tmp 13) _ rfl k13 0 (inL kl kr T Aa Bb).toArray ?_ ?_ ?_ ?_ ?_ ?_;rfl;exact hvZ.out.symm;exact F7.out.1.2.2;exact iIr;exact zQ kl kr T Aa Bb;rw[show(inL kl kr T Aa Bb).toArray.toList=inL kl kr T Aa Bb from rfl,hw8.out])|fail)
 obtain⟨dP,hdP1,hdP2⟩:=Sf.1 uCP;obtain⟨dN,hdN1,hdN2⟩:=Sf.1 uIr;have iX33:(prog.info? 35).map (·.size)=some (aA Y).length:=by rw[aH sY];exact iCP
 have Sb:w8.drew.rangeAt k13 0 (inL kl kr T Aa Bb)/\w8.drew.rangeAt k11 0 (aA Y):=⟨K9.out.2.2.1.2.1,K9.out.2.1.2.1⟩
 have zb:k13<w8.drew.heap.size/\k11<w8.drew.heap.size:=⟨K9.out.2.2.1.1,K9.out.2.1.1⟩
 have hSk:∀W W':World,W'.heap[k13]? = W.heap[k13]?->W'.heap[k11]? = W.heap[k11]?->W.rangeAt k13 0 (inL kl kr T Aa Bb)/\W.rangeAt k11 0 (aA Y)->W'.rangeAt k13 0 (inL kl kr T Aa Bb)/\W'.rangeAt k11 0 (aA Y):=λW W' e1 e2 h=>⟨λj u hj=>by rw[SR (a:=⟨k13,0+j,none⟩) e1];exact h.1 j u hj,λj u hj=>by rw[SR (a:=⟨k11,0+j,none⟩) e2];exact h.2 j u hj⟩
 refine anyS.begin (λ_ W=>W.rangeAt k13 0 (inL kl kr T Aa Bb)/\W.rangeAt k11 0 (aA Y)) kR ?_;have bS:∀(p:Nat),Bef (λ_ W=>WA W k13 0 (inL kl kr T Aa Bb)/\WA W k11 0 (aA Y)) p w8.drew:=λp=>⟨#[],by simp,Sb⟩
 refine anyS.row (i:=0) (d:=some 41) (cs:=inL kl kr T Aa Bb) rfl 9 (λ_ _ h=>h) 45 13 k13 0 dN rfl hdN1 hdN2 iIr (λW ⟨l,e,h⟩=>h.1) (bS 9) Sb ?_;refine anyS.val (i:=1) (d:=some 42) (x:=.string label) rfl 9 (λ_ _ h=>h) (bS 9) Sb ?_;refine anyS.row (i:=2) (d:=some 43) (cs:=aA Y) rfl 9 (λ_ _ h=>h) 35 11 k11 0 dP rfl hdP1 hdP2 iX33 (λW ⟨l,e,h⟩=>h.2) (bS 9) Sb ?_;refine anyS.val (i:=4) (d:=some 45) (x:=iZ n) rfl 9 (λ_ _ h=>h) (bS 9) Sb ?_;refine anyS.row (i:=6) (d:=some 47) (cs:=aA Y) rfl 9 (λ_ _ h=>h) 35 11 k11 0 dP rfl hdP1 hdP2 iX33 (λW ⟨l,e,h⟩=>h.2) (bS 9) Sb ?_;refine anyS.cal (i:=3) (d:=some 44) rfl (HCX.out.1 w8.drew) ?_;rintro xl Wl ⟨hbl,r,rfl,hr1,hr2,hLr⟩;have hbl':=((SE w8.heap.size w8).drew).trans hbl;have hr1':=hr1;have Sl:=hSk _ _ (hbl.block k13 zb.1) (hbl.block k11 zb.2) Sb;have zl:k13<Wl.heap.size/\k11<Wl.heap.size/\k13≠r/\k11≠r:=⟨Si zb.1 hbl.size,Si zb.2 hbl.size,TJ (Si zb.1 hr1),TJ (Si zb.2 hr1)⟩
 have KL:=mk4 (K9.out.1.trans (hbl'.mono K9.out.1.size)) ((K9.out.2.2.2.1.mono2 λg hg _=>TJ (Si hg hr1')).keep (Kq.of_below hbl')) ((K9.out.2.2.2.2.mono2 λg hg _=>TJ (Si hg hr1')).keep (Kq.of_below hbl')) (SD K9.out.1.size hr1');refine⟨Sl,?_⟩;refine anyS.cal (i:=5) (d:=some 46) rfl (HCX.out.2.1 Wl) ?_;rintro vg Wg ⟨hbg,hGg⟩;have Sg:=hSk _ _ (hbg.block k13 zl.1) (hbg.block k11 zl.2.1) Sl;have KG:=mk7 (KL.out.1.trans (hbg.mono KL.out.1.size)) (KL.out.2.1.keep (Kq.of_below hbg)) (KL.out.2.2.1.keep (Kq.of_below hbg)) KL.out.2.2.2 (Si hr2 hbg.size) (Holds.below hLr hbg hr2) (hGg.mono λg hg=>TC (Si hr2 hg));have zg:k13<Wg.heap.size/\k11<Wg.heap.size/\k13≠r/\k11≠r:=⟨Si zl.1 hbg.size,Si zl.2.1 hbg.size,zl.2.2⟩
 refine⟨Sg,?_⟩;refine anyS.cal (i:=7) (d:=some 48) rfl (zL Y sY Wg) ?_;rintro vs Ws ⟨hbs,hSs⟩;have Ss:=hSk _ _ (hbs.block k13 zg.1) (hbs.block k11 zg.2.1) Sg;have zs:k13<Ws.heap.size/\k11<Ws.heap.size/\k13≠r/\k11≠r:=⟨Si zg.1 hbs.size,Si zg.2.1 hbs.size,zg.2.2⟩
 have bws:=KG.out.1.trans (hbs.mono KG.out.1.size);have cRi:=HCX.out.2.2 r kl kr vg vs Ws (Holds.below KG.out.2.2.2.2.2.1 hbs KG.out.2.2.2.2.1) (KG.out.2.1.keep (Kq.of_below hbs)) (KG.out.2.2.1.keep (Kq.of_below hbs)) (KG.out.2.2.2.2.2.2.keep (Kq.of_below hbs)) (hSs.q.mono λg hg=>TC (Si KG.out.2.2.2.2.1 hg));have hrw:=KG.out.2.2.2.1;refine⟨Ss,?_⟩;refine anyS.cal (i:=8) (d:=some 49) rfl cRi ?_;rintro xr Wr ⟨hO,rfl⟩;have Sr:=hSk _ _ (hO.block k13 zs.1 zs.2.2.1) (hO.block k11 zs.2.1 zs.2.2.2) Ss;have bwr:=mk1 (bws.trans (pO hO bws.size hrw));refine⟨Sr,?_⟩;refine anyS.nxt (i:=9) (d:=some 8) (x:=.bool Bd) rfl Sr ?_;simp only[Tt,Sw,SN,SQ];refine anyS.fin kR ?_ _;intro WZ hWZ;subst hWZ;go_wp2_with fail
 go_ret;exact⟨_,rfl,bwr.out,rfl⟩
def hvT(n:Int):Nat × Bool:=if n=1 then(0,true) else if n=2 then(1,true) else if n=4 then(2,true) else if n=8 then(3,true) else if n=16 then(4,true) else if n=32 then(5,true) else if n=64 then(6,true) else(0,false)
theorem Ix(n:Int):(hvT n).1<=6:=by
 unfold hvT;repeat' split
 all_goals decide
theorem Iy{n:Int}(h:(hvT n).2=true):n=((2^(hvT n).1:Nat):Int):=by
 unfold hvT at h⊢;repeat' split at h
 all_goals simp_all
theorem Om(n:Int)(w:World):Calls prog 8 #[iZ n] w (rZ w λe w'=>e=.tuple #[iZ ((hvT n).1:Int),.bool (hvT n).2]):=by
 obtain⟨v,hv⟩:=hE (ZD #[iZ ((hvT n).1:Int),.bool (hvT n).2]);rw[hv.out];go_enter Tryz.func8,Tryz.ntmps8;go_wp2;go_loopg [5] 7 (λm s5 W=>W=w/\∃i:Nat,i+m=7/\s5=iZ i/\Hid (∀j,j<i->¬n=((2^j:Nat):Int)))
 case atStart=>exact⟨rfl,0,rfl,rfl,λj hj=>absurd hj (UI _)⟩
 case round =>
  obtain⟨rfl,i,hi,rfl,hne⟩:=hrel;have hc:i=7\/i=0\/i=1\/i=2\/i=3\/i=4\/i=5\/i=6:=oM;rcases hc with rfl|hc
  ·have e:ZD #[iZ 0,.bool false]=v:=by
    have h:=λj hj=>hne.out j hj
    have h0:=h 0 dC;have h1:=h 1 dC;have h2:=h 2 dC;have h3:=h 3 dC;have h4:=h 4 dC;have h5:=h 5 dC;have h6:=h 6 dC;simp only[Wh,Xo,XQ]at h0 h1 h2 h3 h4 h5 h6;rw[<-hv.out];simp[hvT,h0,h1,h2,h3,h4,h5,h6]
   go_wp2
   go_ret2
   exact⟨_,rfl,SE _ _,e⟩
  ·have hs:i<7:=oM;by_cases hn:n=((2^i:Nat):Int)
   ·rcases hc with rfl|rfl|rfl|rfl|rfl|rfl|rfl
    all_goals
     simp only[Wh]at hn;subst hn;go_wp2
     go_ret2
     exact⟨_,rfl,SE _ _,hv.out⟩
   ·have hne2:Hid (∀j,j<i+1->¬n=((2^j:Nat):Int)):=λj hj=>by
     by_cases hji:j=i
     ·rw[hji];exact hn
     ·exact hne.out j oM
    rcases hc with rfl|rfl|rfl|rfl|rfl|rfl|rfl
    all_goals
     simp only[Wh,Xo,XQ]at hn;go_wp2;go_roundg (gk-1)
     case measure=>omega
     case rel=>refine⟨rfl,_,?_,?_,hne2⟩<;>first|omega|rfl
omit [NeZero N] in
theorem Ky(C:Fld P)(b:Bs):EC.On (Cu P b):=by
 unfold Cu;split
 ·rename_i p h;exact(D2 C h).2
 ·exact EC.fV
def rdO(C:Fld P)(b:Bs):OnP P:=⟨Cu P b,Ky C b⟩
omit [NeZero N] in
theorem uJ(C:Fld P){b:Bs}(h:(rd P b).isSome=true):wP (rdO C b)=b:=by
 obtain⟨p,hp⟩:=SU.1 h;show wr (Cu P b)=b;rw[D9 hp];exact Pb C hp
def rdN(N:Nat)[NeZero N](b:Bs):Fin N:=Fin.ofNat N ((rq N b).getD 0)
theorem zG{b:Bs}(h:(rq N b).isSome=true):(rdN N b).val=(rq N b).getD 0:=by
 obtain⟨m,hm⟩:=SU.1 h;have:m<N:=by
  unfold rq at hm;split at hm
  ·rename_i h2;injection hm with hm;omega
  ·cases hm
 unfold rdN;rw[hm];exact SA this
noncomputable def vBeg (C:Fld P) (label:List UInt8) (X:Bs):Md.Vs Bs (OnP P):=⟨tA label X,rdO C X,gPt C ⟨#[108,101,102,116]⟩,gPt C ⟨#[114,105,103,104,116]⟩⟩
omit [NeZero N] in
theorem yW(C:Fld P)(l:List UInt8)(X:Bs):(vBeg C l X).s=tA l X:=by unfold vBeg;dsimp only
def MZ(C:Fld P)(hord:∀r:EC.Pt P,EC.On r->EC.mul N r=none)(label:List UInt8)(X A B:Bs)(T:Nat)(Lb Rb:Nat->Bs):Prop:=(aL C hord).JK (uPt C) (rdN N A) (rdN N B) ((aL C hord).vst (chF N) ivF T (λj=>rdO C (Lb j)) (λj=>rdO C (Rb j)) (vBeg C label X) T)
def vOk(C:Fld P)(hord:∀r:EC.Pt P,EC.On r->EC.mul N r=none)(label:List UInt8)(n:Int)(X A B:Bs)(nL nR:Nat)(Lb Rb:Nat->Bs):Prop:=(hvT n).2=true/\(rd P X).isSome=true/\okI P N (hvT n).1 nL nR Lb Rb A B/\MZ C hord label X A B (hvT n).1 Lb Rb
omit [NeZero N] in
theorem PtL.cong{Q:Nat->Prop}{W:World}{K t:Nat}{B B':Nat->Bs}(h:PtL Q W K t B)(e:∀j,j<t->B j=B' j):PtL Q W K t B':=λj hj=>by rw[<-e j hj];exact h j hj
theorem MX(C:Fld P)(O:Ord N)(hord:∀r:EC.Pt P,EC.On r->EC.mul N r=none)(hP:NT.IsP N)(label:ByteArray)(hlab:label.size<=1000000)(n:Int){nL nR x1 x2:Nat}{X A B:Bs}{Lb Rb:Nat->Bs}{q1 q2:Option Addr}{vp vA vB:Value}(w:World)(hp:Arg33 w vp X)(hL:PArg w q1 nL Lb)(hR:PArg w q2 nR Rb)(hA:Arg w vA A)(hB:Arg w vB B)(Bd:Bool)(hBd:Bd=true↔vOk C hord label.data.toList n X A B nL nR Lb Rb):
 Calls prog 5 #[.string label,iZ n,vp,.agg #[.slice q1 nL x1,.slice q2 nR x2,vA,vB]] w (rZ w λe w'=>e=.bool Bd):=by
 have hle:=Ix n;have heq:=@Iy n;have hH:=λW=>Om n W
 unfold vOk at hBd;generalize (hvT n).1=T at hle heq hH hBd;generalize (hvT n).2=ok at heq hH hBd;refine MY C O hle hH label w hp hL hR hA hB (λh1 h2 h3=>?_) λhn=>?_
 ·have hn:=heq h1;subst hn;have hn64:2^T<=64:=SD (TT dC hle) dC;obtain⟨p,hXp⟩:=SU.1 h2;have sX:=AU hXp;have hu1:(uGT P).length=1:=rfl;have tX:Tl N [(1,X)] (vBeg C label.data.toList X).p:=by
   have:=Tl.one C hP.1 (rdO C X);rw[show wr (rdO C X).1=X from uJ C h2]at this;exact this
  have hg:Gd N (2^T) 1 (gGT P) (vBeg C label.data.toList X).g:=Lu C hP.1 _;have hh:Gd N (2^T) 1 (hGT P) (vBeg C label.data.toList X).h:=IH C hP.1 _;have hEnd:Bd=true↔MZ C hord label.data.toList X A B T Lb Rb:=hBd.trans ⟨λh=>h.2.2.2,λh=>⟨h1,h2,h3,h⟩⟩;unfold MZ at hEnd;obtain⟨rfl,rfl,oL,oR,oA,oB⟩:=h3;rw[<-zG oA,<-zG oB];refine⟨tA label.data.toList X,gGT P,hGT P,uGT P,2^nR,rH _ _,λW=>NR label hlab X sX W,λW=>CZ (P:=P) C (2^nR) oM W,λr kl kr vg sv W h1 h2 h3 h4 h5=>?_⟩;have hl:Holds encB W r 0 (vBeg C label.data.toList X).s:=by rw[yW];exact h1
  have hls:(vBeg C label.data.toList X).s.size=32:=by rw[yW];exact rH _ _
  generalize vBeg C label.data.toList X=v0 at hl hls tX hEnd hg hh;exact Ki C O hord hP nR hle (λj=>rdO C (Lb j)) (λj=>rdO C (Rb j)) v0 (uPt C) (gGT P) (hGT P) (uGT P) [(1,X)] hg hh (Gz C hP.1) (by rw[hu1];decide) (by rw[hu1];decide) tX rfl (λj=>wP (rdO C (Lb j))) (λj=>wP (rdO C (Rb j))) (λ_=>rfl) (λ_=>rfl) r kl kr (rdN N A) (rdN N B) vg sv W hl hls (h2.cong λj hj=>(uJ C (SU.2 (oL j hj))).symm) (h3.cong λj hj=>(uJ C (SU.2 (oR j hj))).symm) h4 h5 Bd hEnd
 ·cases Bd with
  | false=>rfl
  | true=>exact absurd ⟨(hBd.1 rfl).1,(hBd.1 rfl).2.1,(hBd.1 rfl).2.2.1⟩ hn
end
end Go.Proofs.YtnakcnljhmlikaaGreat
