import Derived.Deep.DeepCutAuto
import Derived.Deep.Upon
import Derived.Lib.LazyBuf
import Derived.ChangeOld
import Derived.Below
import Derived.WalkKit
import Derived.ProofKit
import Derived.OpenShut
import Derived.ShutString
import Derived.Test.YtdoammpgchejcaaGreatsz5
set_option linter.unusedVariables false
set_option linter.constructorNameAsVariable false
set_option linter.unusedSimpArgs false
set_option maxRecDepth 1000000
set_option maxHeartbeats 4000000
namespace Go.Proofs.YtdoammpgchejcaaGreat
open EC NT RG SP
open _root_.Array renaming ext'->yBV,getD_eq_getD_getElem?->UJ,getElem?_push_size->Xb,replicate->UM,size->Wt,size_append->VP,size_replicate->UO,toList_ofFn->ZE
open _root_.BitVec renaming ofInt->Xg,ofInt_natCast->Zm,toNat_ofNat->YP
open _root_.ByteArray renaming empty->yAF
open _root_.Fin renaming ofNat->Xr
open _root_.Go renaming Addr->Wv,Calls->UK,Oper->Vk,Program->VD,TypeId->Vb,Value->Uv,World->Ut,bodyPost_ret->UH,execOp->U9,run_make_row'->yBK,trodAll_cons_mk->YW,undef->WJ,wpList_load_mid->U8,wpList_store_mid->U3,wp_cond_false->VJ,wp_cond_true->VH,wp_seq->UC,wp_skip->WQ
open _root_.Go.Act renaming put->UR
open _root_.Go.Builtin renaming copy_->Ya
open _root_.Go.Instr renaming indexAt->Vj,sliceAt->Xw
open _root_.Go.IntKind renaming i64->VY,u64->Vw,u8->XF,wrap_i64->Yp
open _root_.Go.Lib renaming size_eq->yB3,wpList_append_run->WG
open _root_.Go.Op renaming intBits->yCb
open _root_.Go.Oper renaming wp->VT
open _root_.Go.Region renaming wanted->V5
open _root_.Go.RowKit.Below renaming refl->UT
open _root_.Go.Sem renaming run_bind->UW
open _root_.Go.Value renaming int->V2,ownBlock->V9
open _root_.Go.World renaming cell?->V1,cell?_setCell_other->UV,cell?_setCell_same->VU,frozen?->Xe,heap_setCells_other->yAb,size_alloc->UD,size_setCell->Yo
open _root_.List renaming all_cons->ZC,all_nil->ZR,all_toArray->XP,append_assoc->VC,getD_eq_getElem?_getD->VW,getElem?_append_left->UX,getElem?_append_right->U4,getElem?_eq_getElem->UI,getElem?_eq_none->WE,getElem?_eq_some_iff->UG,getElem?_map->Vy,getElem_map->Xi,getElem_take->yA1,length_append->UB,length_cons->Vg,length_map->US,length_nil->WO,length_take->WN,map_append->Wx,mem_cons->V0,mem_map->Vn,mem_of_getElem?->VQ,mem_replicate->yAT,not_mem_nil->U1,ofFn_succ->yBx,range->VB,replicate->VG,setIfInBounds_toArray->Uu,set_cons_succ->Uw,set_cons_zero->Ux,sum_append->yBh,sum_cons->yBD,take_append_drop->Zj,take_of_length_le->Zi
open _root_.Nat renaming add_assoc->WY,add_mul->XH,add_sub_cancel_left->WH,add_zero->Xm,div_eq_of_lt->XA,le_of_ble_eq_true->VX,le_refl->Uy,le_trans->UE,lt_of_lt_of_le->Uz,lt_of_succ_le->Xt,lt_succ_self->XZ,min->XV,min_eq_left->yBw,mod_eq_of_lt->UU,mod_lt->V6,mod_one->yA6,mul_assoc->XK,mul_comm->Vv,pow_le_pow_right->VN,pow_succ->V8,sub_self->YH,two_mul->yBW,zero_add->UF,zero_le->Wz
open _root_.Option renaming map->yBH,map_eq_some_iff->UA,some->UP
open _root_.Or renaming inl->U6,inr->U2
open _root_.Prod renaming mk->We
open _root_.UInt8 renaming ofNat->UQ
open Go.Proofs.Tryz
variable {b:Bs}{i j t:Nat}{B Rb:Nat->Bs}{p:Rp}{W':Ut}{e v:Uv}
section
open Go.RowKit Go.Sort Go.Deep
variable {P:Nat}[NeZero P]{N:Nat}
theorem QE:(prog.underlying 112).map (·.isRow)=some true:=by kernel_rfl
theorem iPt:(prog.info? 112).map (·.size)=some 2:=by kernel_rfl
theorem NN(g n c i:Nat)(b:i<n)(w:Ut):(Vj 107 (sZ g n c) (iZ i)).run prog w=.ok (.pointer (some ⟨g,i*2,none⟩)) w:=by
 have d:¬(i:Int)<0:=by omega
 have e:(i:Int)<(n:Int):=by omega
 have k:=lI g 0 (i*2);rw[UF]at k;go_simp
theorem OO(p:Rg){N R O or:Nat}{D E:List Uv}{BB:List SP.Bs}(w:Ut)(hL:VL w p.l.q p.l.n D)(hR:VL w p.r.q p.r.n E)(hl:p.l.n=0\/p.l.q=some ⟨N,R,none⟩)(hr:p.r.n=0\/p.r.q=some ⟨O,or,none⟩)(hB:PtB w (qX p D E) BB)(n1:p.l.n<=1000)(n2:p.r.n<=1000):
 UK prog 13 #[.agg p.cs.toArray] w (S8 w p.l.n p.r.n BB):=by
 obtain⟨cs,r⟩:∃cs:List Uv,Hid (p.cs=cs):=⟨_,rfl⟩
 obtain⟨l,t⟩:∃l,Hid (w.alloc (.cells cs.toArray 28)=l):=⟨_,rfl⟩
 have e1:l.heap.size=w.heap.size+1:=by rw[<-t.out,UD]
 have b1:Below w.heap.size w l:=by rw[<-t.out];exact aO _ _
 have r1:l.rangeAt w.heap.size 0 cs:=by rw[<-t.out];exact eI w cs _
 have U:l.cell? ⟨w.heap.size,7,none⟩=some p.l.v:=by have:=r1 7 p.l.v (by rw[<-r.out];rfl);rw[UF]at this;exact this
 have T:l.cell? ⟨w.heap.size,8,none⟩=some p.r.v:=by have:=r1 8 p.r.v (by rw[<-r.out];rfl);rw[UF]at this;exact this
 obtain⟨C,a⟩:∃C,Hid (l.alloc (.cells #[.int .u8 (p.l.n:Int)] 5)=C):=⟨_,rfl⟩
 have b2:Below l.heap.size l C:=by rw[<-a.out];exact aO _ _
 have X:C.heap.size=l.heap.size+1:=by rw[<-a.out,UD]
 have hP:Hid (UK prog 55 #[.pointer (some ⟨w.heap.size,0,none⟩)] C λe w'=>∃v,e=.returned v/\PLs C w' v (fO w.heap.size N R p.l.n O or p.r.n)):=
  zP w.heap.size p.l p.r N R O or C (by omega) (by rw[b2.cell (p:=⟨w.heap.size,7,none⟩) (by show w.heap.size<_;omega)];exact U) (by rw[b2.cell (p:=⟨w.heap.size,8,none⟩) (by show w.heap.size<_;omega)];exact T) hl hr n1 n2
 have G:=Hid.mkP b1;have h1:=Hid.mkP b2;have h0:=Hid.mkP r1;have HE:Hid (l.heap.size=w.heap.size+1/\C.heap.size=l.heap.size+1):=⟨e1,X⟩
 have HL:=Hid.mkP hL;have HR:=Hid.mkP hR;have Hl:=Hid.mkP hl;have Hr:=Hid.mkP hr;have HB:=Hid.mkP hB;have o:Hid ((qX p D E).length=p.l.n+p.r.n+9):=by
  show _=_;unfold qX;simp only[UB,hL.len,hR.len,Vg,WO];omega
 clear b1 b2 r1 e1 X hL hR hl hr hB;rw[r.out];obtain⟨f,S⟩:∃f,Hid (p.l.n=f):=⟨_,rfl⟩
 obtain⟨nr,L⟩:∃nr,Hid (p.r.n=nr):=⟨_,rfl⟩
 rw[show p.l.v=.slice p.l.q p.l.n p.l.c from rfl]at U;rw[show p.r.v=.slice p.r.q p.r.n p.r.c from rfl]at T;rw[S.out,L.out]at hP o⊢;rw[S.out]at U n1 a;rw[L.out]at T n2;generalize p.l.q=ql at U;generalize p.l.c=cl at U;generalize p.r.q=qr at T;generalize p.r.c=cr at T;go_enter func13,ntmps13;by_cases hg:f=nr
 ·subst hg;by_cases h6:f<=6
  ·have h4:¬(6:Int)<(f:Int):=by omega
   have hq:XF.wrap (f:Int)=(f:Int):=by
    show((f:Int)%256)=_;omega
   go_wp2_with (first|(refine aY (v:=.pointer (some ⟨w.heap.size,0,none⟩)) (w':=l) rfl (.box 28 (.tmp 0)) rfl ?_ ?_;(rw[<-t.out,<-r.out];kernel_rfl))|(refine aY (v:=.slice (some ⟨l.heap.size,0,none⟩) 1 1) (w':=C) rfl (.buildSlice 23 1 #[(0,.tmp 23)]) rfl ?_ ?_;(rw[<-a.out];kernel_rfl))|fail)
   refine hP.out.mono ?_;rintro e V ⟨v3,rfl,Q⟩;obtain⟨J,Z,rfl,hb,h8⟩:=Q.lt;have hM:(fO w.heap.size N R f O or f).length=f+f+9:=by
    rw[<-kW f f,<-sJ w.heap.size N R f O or f,US]
   have I0:Hid (PuI w V V w.heap.size J (.slice (some ⟨l.heap.size,0,none⟩) 1 1) (eW f BB 0)):=by
    obtain⟨z1,z2⟩:=HE.out;have m:=Q.bl.size;refine⟨G.out.trans ((h1.out.mono G.out.size).trans (Q.bl.mono (by omega))),⟨rfl,U2 ⟨l.heap.size,1,#[.int .u8 f],rfl,by omega,?_,Uy _,by decide,rfl,?_⟩⟩,by simp[V9],by simp[V9];omega,by simp[V9];omega,rfl,rfl,Uy _,by omega,by omega⟩
    ·rw[Q.bl.block l.heap.size (by omega),<-a.out];exact Xb
    ·show [V2 .u8 f]=[SP.encB f.toUInt8];unfold SP.encB SP.ub;have:(f.toUInt8).toNat=f:=by
      rw[UInt8.toNat_ofNat'];omega
     simp[this]
   have HC:Hid (∀W v b,PuI w V W w.heap.size J v b->∀i,i<f+f+9->∃z y k q n c B,(hZ f f)[i]? = some k/\k<=33/\W.rangeAt J (i*2) [.pointer (some ⟨z,y,none⟩),.int .i64 k]/\W.cell? ⟨z,y,none⟩=some (.slice q n c)/\BB[i]? = some B/\Pt W (.slice q n c) B):=λW v b Y i hi=>by
    obtain⟨z1,z2⟩:=HE.out;have F:W.rangeAt w.heap.size 0 p.cs:=λj u H=>by
     have e:=Y.e1;have m:V.heap[w.heap.size]? = l.heap[w.heap.size]?:=by rw[Q.bl.block _ (by omega),h1.out.block _ (by omega)]
     have:W.cell? ⟨w.heap.size,0+j,none⟩=l.cell? ⟨w.heap.size,0+j,none⟩:=by unfold V1;rw[e,m]
     rw[this];exact h0.out j u (by rw[<-r.out];exact H)
    have s:=MS F (HL.out.below Y.bl) (HR.out.below Y.bl) Hl.out Hr.out;rw[S.out,L.out]at s;obtain⟨x,hx⟩:∃x,(fO w.heap.size N R f O or f)[i]? = some x:=⟨_,UI (by omega)⟩
    obtain⟨u,P⟩:∃u,(qX p D E)[i]? = some u:=⟨_,UI (by rw[o.out];omega)⟩
    obtain⟨B,I⟩:∃B,BB[i]? = some B:=⟨_,UI (by rw[HB.out.1,o.out];omega)⟩
    obtain⟨⟨z,y,A⟩,m⟩:=s.2 i x u hx P;have hpt:=(HB.out.2 i u B P I).below Y.bl;have hk:(hZ f f)[i]? = some x.2:=by rw[<-sJ w.heap.size N R f O or f,Vy,hx];rfl
    have K:=Q.at i x hx;rw[A]at m;obtain⟨q,c,rfl,-⟩:=id hpt;refine⟨z,y,x.2,q,_,c,B,hk,EP f f _ (VQ hk),λj u H=>?_,m,I,hpt⟩;have e:=Y.e2;have:W.cell? ⟨J,i*2+j,none⟩=V.cell? ⟨J,i*2+j,none⟩:=by unfold V1;rw[e]
    rw[this,Vv];exact K j u (by unfold pC;rw[A];exact H)
   obtain⟨M,s⟩:∃M,Hid (f+f+9=M):=⟨_,rfl⟩
   rw[s.out]at HC hM;rw[hM];have hp:M<=21:=by have:=s.out;omega
   have ha:Hid (BB.length=M):=by show _=_;rw[HB.out.1,o.out,s.out]
   have he:Hid ((hZ f f).length=M):=by show _=_;rw[kW,s.out]
   obtain⟨dP,h9,h5⟩:=UA.1 QE;clear Q hM hP HB HL HR Hl Hr o U T hb h8 h0;go_wp2;go_loopg [5,27] M (λgk s5 s27 wr=>∃i:Nat,i+gk=M/\s27=.int .i64 i/\Hid (PuI w V wr w.heap.size J s5 (eW f BB i)/\(eW f BB i).size<=1+33*i/\∀j,j<i->(BB[j]?).map Wt=(hZ f f)[j]?))
   case atStart=>exact⟨0,by omega,rfl,I0.out,by show 1<=_;omega,λj H=>absurd H (Nat.not_lt_zero _)⟩
   case round =>
    obtain⟨i,hi,rfl,K⟩:=hrel;obtain⟨g,cap,rfl,-,-⟩:=K.out.1.lt;by_cases h3:i<M
    ·have h2:(i:Int)<(M:Int):=by omega
     have hs:=NN J M Z i h3;obtain⟨z,y,k,q,n,c,B,k1,k2,k3,k4,k5,k6⟩:=HC.out _ _ _ K.out.1 i h3;have K3:=Hid.mkP k3;have I:Hid ((hZ f f)[i]? = some k/\BB[i]? = some B/\Pt wr (.slice q n c) B):=⟨k1,k5,k6⟩
     clear k1 k3 k5 k6;obtain⟨A,F⟩:∃A,Hid (wr.alloc (.cells #[.pointer (some ⟨z,y,none⟩),.int .i64 k] 112)=A):=⟨_,rfl⟩
     have P:Below wr.heap.size wr A:=by rw[<-F.out];exact aO _ _
     have a0:A.cell? ⟨wr.heap.size,0,none⟩=some (.pointer (some ⟨z,y,none⟩)):=by rw[<-F.out];exact cZ wr _ _ 0 _ rfl
     have a1:A.cell? ⟨wr.heap.size,1,none⟩=some (.int .i64 k):=by rw[<-F.out];exact cZ wr _ _ 1 _ rfl
     have a2:A.cell? ⟨z,y,none⟩=some (.slice q n c):=by rw[P.cell (p:=⟨z,y,none⟩) (World.block_lt_of_cell? _ _ k4)];exact k4
     have KA:Hid (∀d,Below wr.heap.size wr (A.drewN d)):=λd=>⟨P.os,P.tape,P.output,P.size,P.block⟩
     clear P;go_wp2_with (first|(refine U8 rfl 112 _ rfl J (i*2) ?_ [.pointer (some ⟨z,y,none⟩),.int .i64 k] dP ?_ ?_ ?_ ?_ ?_;rfl;exact K3.out;exact h9;exact h5;exact iPt;skip)|fail)
     rw[F.out];go_quiet (fail);have KB:=Hid.mkP (KA.out nq);have q0:(A.drewN nq).cell? ⟨wr.heap.size,0,none⟩=some (.pointer (some ⟨z,y,none⟩)):=a0;have q2:(A.drewN nq).cell? ⟨z,y,none⟩=some (.slice q n c):=a2;clear KA a0 a1 a2;generalize A.drewN nq=wb at KB q0 q2⊢;by_cases hc:n=k
     ·subst hc;obtain⟨e1,hv⟩:=(I.out.2.2.below KB.out).vl;subst e1;have h7:=K.out.2.1;obtain⟨v',W',x1,x2⟩:=(K.out.1.below KB.out).app (c:=c) hv (by omega);rw[<-lF f BB i B I.out.2.1]at x2;have X2:=Hid.mkP x2;have X3:Hid ((eW f BB (i+1)).size<=1+33*(i+1)/\∀j,j<i+1->(BB[j]?).map Wt=(hZ f f)[j]?):=by
       refine⟨?_,λj H=>?_⟩
       ·rw[lF f BB i B I.out.2.1,VP];omega
       ·by_cases m:j=i
        ·subst m;rw[I.out.2.1,I.out.1];rfl
        ·exact K.out.2.2 j (by omega)
      have m:=Hid.mkP x1;obtain⟨g',hn,rfl,-,-⟩:=x2.lt;generalize Wt (eW f BB (i+1))=N2 at m X2;generalize Wt (eW f BB i)=N1 at m⊢;clear K x1 x2 hv h7;generalize Wt B=nB at m q2⊢;go_wp2_with (first|(at_builtin;refine WG wb rfl _ _ _ _ rfl _ _ rfl rfl _ _ m.out ?_)|fail)
      go_roundg (gk-1)
      case measure=>omega
      case rel=>exact⟨i+1,by omega,rfl,X2.out,X3.out⟩
     ·have hm:¬(n:Int)=(k:Int):=by omega
      have m:¬mL f f BB:=λh=>by
       have e0:(BB.map Wt)[i]? = (hZ f f)[i]?:=by rw[h.2.2]
       rw[Vy,I.out.2.1,I.out.1]at e0;have e1:Wt B=k:=UP.inj e0;obtain⟨q',c',X,-⟩:=I.out.2.2;injection X with _ X _
       omega
      have HW:=Hid.mkP (K.out.1.bl.trans (KB.out.mono K.out.1.bl.size));clear K;go_wp2
      go_ret2
      exact⟨HW.out,U2 ⟨m,rfl⟩⟩
    ·have h2:¬(i:Int)<(M:Int):=by omega
     obtain rfl:i=M:=by omega
     have A:Hid (S8 w f f BB (.returned (.tuple #[.slice (some ⟨g,0,none⟩) (eW f BB i).size cap,.int .i64 0])) wr):=by
      refine⟨K.out.1.bl,U6 ⟨⟨rfl,h6,List.ext_getElem? λj=>?_⟩,_,rfl,?_,?_⟩⟩
      ·by_cases H:j<i
       ·rw[Vy];exact K.out.2.2 j H
       ·rw[WE (by rw[US,ha.out];omega),WE (by rw[he.out];omega)]
      ·rw[s.out];exact K.out.1.pt
      ·rw[s.out];exact K.out.1.cap
     clear K;go_wp2
     go_ret2
     exact A.out
  ·have h4:(6:Int)<(f:Int):=by omega
   have m:¬mL f f BB:=λh=>h6 h.2.1
   go_wp2_with (first|(refine aY (v:=.pointer (some ⟨w.heap.size,0,none⟩)) (w':=l) rfl (.box 28 (.tmp 0)) rfl ?_ ?_;(rw[<-t.out,<-r.out];kernel_rfl))|fail)
   go_ret2
   exact⟨G.out,U2 ⟨m,rfl⟩⟩
 ·have s:¬(nr:Int)=(f:Int):=by omega
  have m:¬mL f nr BB:=λh=>hg h.1
  go_wp2_with (first|(refine aY (v:=.pointer (some ⟨w.heap.size,0,none⟩)) (w':=l) rfl (.box 28 (.tmp 0)) rfl ?_ ?_;(rw[<-t.out,<-r.out];kernel_rfl))|fail)
  go_ret2
  exact⟨G.out,U2 ⟨m,rfl⟩⟩
end
section
open Go.RowKit Go.Sort Go.Deep
namespace RG
variable {P:VD}{ops:Array Vk}{Q:Exit->Act->Ut->Prop}{a0:Act}{F:Flow}
theorem lD{k:Nat}{o:Vk}(h:∀(a:Act) (w:Ut),PreF F ops a0 k o a w->∃(b:List (Tmp × Uv)) (v:Uv) (w':Ut),AllE a b/\(dA (b.map (·.1)) o,(U9 (evo (evl b)) o).run P w)=(true,.ok (.value v) w')/\F.E k w w'/\F.R k v w'):bF P Q F ops a0 k o:=
 mG λa w d=>by
  obtain⟨b,v,w',e,c,hE⟩:=h a w d;simp only[We.injEq]at c;refine⟨v,w',?_,hE⟩;rw[iY (evl b) (b.map (·.1)) c.1 e.ev];exact c.2
theorem D7{k:Nat}{o:Vk}(T:Vb)(t:Tmp)(ho:o.op=.load T (.tmp t))(e:(P.underlying T).map (·.isRow)=some false)
 (h:∀(a:Act) (w:Ut),PreF F ops a0 k o a w->∃g off v,a.eval (.tmp t)=oZ g off/\w.cell? ⟨g,off,none⟩=some v/\F.E k w w/\F.R k v w):bF P Q F ops a0 k o:=
 mG λa w b=>by
  obtain⟨g,off,v,c,f,d⟩:=h a w b;refine⟨v,w,?_,d⟩;unfold U9;rw[ho];dsimp only;rw[c,UW,fE f e];rfl
end RG
end
section
open Go.RowKit Go.Sort Go.Deep
theorem O9(a:Wv)(n c:Nat)(w:Ut):(binOp .eql 23 (.slice (some a) n c) (.slice none 0 0)).run prog w=.ok (.bool false) w:=by kernel_rfl
theorem Kn{g o b k:Nat}(h:some (⟨g,o,none⟩:Wv)=some ⟨b,k,none⟩):g=b/\o=k:=by
 cases h
 exact⟨rfl,rfl⟩
theorem GE{W:Ut}{B n s:Nat}{T:Vb}{xs:List Uv}(h:W.ownsRow B T s v n xs):∃q c,v=.slice q n c:=by
 rcases h.2 with⟨e,e'⟩|⟨g,cap,cur,e,-⟩
 ·exact⟨none,0,by rw[e,e']⟩
 ·exact⟨_,_,e⟩
structure FrC(N:Nat)(X:SP.Bs)(v:Uv)(W:Ut):Prop where
 own:W.ownsRow N 5 1 v X.size (bC X)
 nn:v.ownBlock≠none
theorem FrC.below{N:Nat}{X:SP.Bs}{W:Ut}(h:FrC N X v W)(b:kZ W W'):FrC N X v W':=⟨bZ h.own (λg k=>b.block g (jI h.own k).2.1),h.nn⟩
theorem JS(g o c:Nat)(X:SP.Bs)(J:X.size<=1000000)(w:Ut)(A:g<w.heap.size)(s:Holds SP.encB w g o X):
 UK prog 56 #[.slice (some ⟨g,o,none⟩) X.size c] w λe w'=>∃v,e=.returned v/\kZ w w'/\FrC w.heap.size X v w':=by
 obtain⟨i,I,t⟩:=UA.1 Jg;simp only[We.injEq]at t;obtain⟨E,H,D⟩:=t;obtain⟨z,C,p⟩:=UA.1 D;obtain⟨d,f⟩:∃d,Hid (w.alloc (.cells #[] 5)=d):=⟨_,rfl⟩
 have r:d.heap.size=w.heap.size+1:=by rw[<-f.out,UD]
 have b1:kZ w d:=by rw[<-f.out];exact aO _ _
 have ho:d.ownsRow w.heap.size 5 1 (sZ w.heap.size 0 0) 0 []:=by
  rw[<-f.out];exact⟨rfl,.inr ⟨w.heap.size,0,#[],rfl,Uy _,Xb,Uy _,Wz _,rfl,rfl⟩⟩
 have hpt:Pt d (.slice (some ⟨g,o,none⟩) X.size c) X:=⟨_,_,rfl,U2 ⟨g,o,rfl,by omega,SP.Holds.below s b1 A⟩⟩
 obtain⟨-,hv⟩:=hpt.vl;have n:∀(j:Nat) u,(bC X)[j]? = some u->d.cell? ((⟨g,o,none⟩:Wv).add j)=some u:=λj u q=>by
  rcases hv.cells with m|⟨b,y,x,-,n⟩
  ·rw[m]at q;cases q
  ·obtain⟨r,l⟩:=Kn x;subst r l;rw[lI];exact n j u q
 obtain⟨B,W',y,m,l,a⟩:=run_append_own (P:=prog) d w.heap.size 23 23 5 i z 1 1 zB I C E H p (by decide) _ 0 [] ho ⟨g,o,none⟩ X.size c (bC X) (by rw[yR];omega) n (Bq X) (by unfold maxLen;omega) (by omega) (by omega);rw[UF,List.nil_append]at m;have K:Hid (kZ w W'/\FrC w.heap.size X B W'):=by
  refine⟨⟨by rw[l.os,b1.os],by rw[l.tape,b1.tape],by rw[l.output,b1.output],UE b1.size l.size,λk F=>?_⟩,m,?_⟩
  ·rw[l.block k (by omega) (by simp[V9];omega),b1.block k F]
  ·rcases m.2 with⟨G,-⟩|⟨L,x,cur,rfl,-⟩
   ·have:=(a.1 G).1;exact absurd this (by simp)
   ·simp[V9]
 have x:=Hid.mkP y;have F:=O9 ⟨g,o,none⟩ X.size c;clear y m l a n hv hpt ho b1 r s;go_enter func56,ntmps56;go_wp2_with (first|(refine aY (v:=sZ w.heap.size 0 0) (w':=d) rfl (.buildSlice 23 0 #[]) rfl ?_ ?_;(rw[<-f.out];kernel_rfl))|(at_builtin;refine WG d rfl _ _ _ _ rfl _ _ rfl rfl _ _ x.out ?_)|fail)
 go_ret;exact⟨_,rfl,K.out.1,K.out.2⟩
theorem heap_set (w : World) (a : Addr) (v : Value) (k : Nat) : (w.setCell a v).heap[k]? = if a.block = k then (w.heap[k]?).map (fun
      | .cells c elem frozen => .cells (if a.spot.isSome then c else c.setIfInBounds a.off v) elem frozen
      | o => o) else w.heap[k]? := by
  show(w.heap.modify a.block _)[k]? = _;rw [Array.getElem?_modify];rfl
theorem G9{N:Nat}{ws w:Ut}(h:Below N ws w)(a:Wv)(v:Uv):Below N (ws.setCell a v) (w.setCell a v):=
 ⟨h.os,h.tape,h.output,by rw[Yo,Yo];exact h.size,λk b=>by rw[heap_set,heap_set,h.block k b]⟩
def StR(ws:Ut)(k b:Nat)(X:SP.Bs)(w:Ut):Prop:=∃v,Below ws.heap.size (ws.setCell ⟨k,b,none⟩ v) w/\FrC ws.heap.size X v w
def FR(ws:Ut)(ga d e k gi off m c nx:Nat)(X:SP.Bs):Flow where
 R i v w:=match i with
  | 0=>v=jZ ga
  | 1=>v=oZ d e
  | 2=>v=.slice (some ⟨gi,off,none⟩) m c
  | 3=>v=oZ ga 1
  | 4=>v=iZ k
  | 5=>v=.slice (some ⟨gi,off,none⟩) k c
  | 6=>FrC ws.heap.size X v w
  | 7=>v=.slice (some ⟨gi,off,none⟩) m c
  | 8=>v=oZ ga 1
  | 9=>v=iZ k
  | 10=>v=.slice (some ⟨gi,nx,none⟩) (m-k) (c-k)
  | 11=>v=oZ d e
  | 12=>StR ws d e X w
  | _=>v=.slice (some ⟨gi,nx,none⟩) (m-k) (c-k)
 B b w:=match b with
  | 0=>kZ ws w
  | _=>w.cell? ⟨ga,0,none⟩=some (oZ d e)/\w.cell? ⟨ga,1,none⟩=some (iZ k)/\ga<ws.heap.size/\ws.heap.size<=w.heap.size
 E i w w':=match i with
  | 12=>∃v,w'=w.setCell ⟨d,e,none⟩ v
  | _=>kZ w w'
 kill _:=[]
 killB b:=match b with
  | 0=>[12]
  | _=>[]
variable {ws:Ut}{ga bb oo k gi off m c nx:Nat}{X:SP.Bs}
theorem StR.below{w w':Ut}(h:StR ws bb oo X w)(k:kZ w w'):StR ws bb oo X w':=by
 obtain⟨v,b,c⟩:=h;refine⟨v,b.trans (k.mono ?_),c.below k⟩;have:=b.size;rw[Yo]at this;exact this
theorem FR.stab(l:bb<ws.heap.size)(i j:Nat)(f:i≠j)(v:Uv)(w w':Ut)(hE:(FR ws ga bb oo k gi off m c nx X).E i w w')(hR:(FR ws ga bb oo k gi off m c nx X).R j v w):(FR ws ga bb oo k gi off m c nx X).R j v w':=by
 have key:j≠6->j≠12->(FR ws ga bb oo k gi off m c nx X).R j v w':=λe b=>by
  match j,e,b,hR with
  | 0,_,_,h|1,_,_,h|2,_,_,h|3,_,_,h|4,_,_,h|5,_,_,h|7,_,_,h|8,_,_,h|9,_,_,h|10,_,_,h|11,_,_,h|_+13,_,_,h=>exact h
  | 6,h,_,_=>exact absurd rfl h
  | 12,_,h,_=>exact absurd rfl h
 by_cases e:j=6
 ·subst e;by_cases b:i=12
  ·subst b;obtain⟨u,rfl⟩:=hE;have hR:FrC ws.heap.size X v w:=hR;refine(⟨bZ hR.own (λg d=>?_),hR.nn⟩:FrC ws.heap.size X v _);have:=(jI hR.own d).1;rw[heap_set,yCl (by show bb≠g;omega)]
  ·have d:kZ w w':=by
    unfold FR at hE;dsimp only at hE;split at hE
    ·exact absurd rfl b
    ·exact hE
   exact(FrC.below (show FrC ws.heap.size X v w from hR) d:FrC ws.heap.size X v w')
 ·by_cases b:j=12
  ·subst b;have d:kZ w w':=by
    unfold FR at hE;dsimp only at hE;split at hE
    ·exact absurd rfl f
    ·exact hE
   exact(StR.below (show StR ws bb oo X w from hR) d:StR ws bb oo X w')
  ·exact key e b
theorem FR.stabB(j:bb≠ga)(i b:Nat)(n:((FR ws ga bb oo k gi off m c nx X).killB b).contains i=false)(w w':Ut)(hE:(FR ws ga bb oo k gi off m c nx X).E i w w')(l:(FR ws ga bb oo k gi off m c nx X).B b w):(FR ws ga bb oo k gi off m c nx X).B b w':=by
 by_cases f:i=12
 ·subst f;obtain⟨u,rfl⟩:=hE;match b,n,l with
  | 0,n,_=>exact absurd (show([12]:List Nat).contains 12=false from n) (by decide)
  | _+1,_,⟨h1,h2,h3,h4⟩ =>
   refine⟨?_,?_,h3,by rw[Yo];exact h4⟩
   ·rw[UV _ _ _ _ (by intro e;injection e with e _ _;exact j e)];exact h1
   ·rw[UV _ _ _ _ (by intro e;injection e with e _ _;exact j e)];exact h2
 ·have d:kZ w w':=by
   unfold FR at hE;dsimp only at hE;split at hE
   ·exact absurd rfl f
   ·exact hE
  match b,l with
  | 0,l =>
   have g:kZ ws w:=l;exact(g.trans (d.mono g.size):kZ ws w')
  | _+1,⟨h1,h2,h3,h4⟩ =>
   refine⟨?_,?_,h3,UE h4 d.size⟩
   ·rw[d.cell (p:=⟨ga,0,none⟩) (by show ga<_;omega)];exact h1
   ·rw[d.cell (p:=⟨ga,1,none⟩) (by show ga<_;omega)];exact h2
end
section
open Go.RowKit Go.Sort Go.Deep
structure PsOk(w w4:Ut)(gr gq gp:Nat)(ps:List (Wv × Nat)):Prop where
 ad:∀(j:Nat) x,ps[j]? = some x->∃b o,x.1=⟨b,o,none⟩/\b<w4.heap.size/\w.heap.size<=b/\b≠gq/\b≠gr/\x.1≠⟨gp,7,none⟩/\x.1≠⟨gp,8,none⟩
 ne:∀(j j':Nat) x x',j≠j'->ps[j]? = some x->ps[j']? = some x'->x.1≠x'.1
 q:gq<w4.heap.size
 r:gr<w4.heap.size
 p:gp<w4.heap.size
structure RdI(w w4 W:Ut)(gr gq gp:Nat)(lv rv:Uv)(ps:List (Wv × Nat))(vs:List Uv)(CH:Nat->SP.Bs):Prop where
 bl:kZ w W
 st:∀(j:Nat) x u,ps[j]? = some x->vs[j]? = some u->W.cell? x.1=some u
 th:∀(j:Nat) x,ps[j]? = some x->(∃u,W.cell? x.1=some u)/\W.frozen? x.1=false
 c7:W.cell? ⟨gp,7,none⟩=some lv
 c8:W.cell? ⟨gp,8,none⟩=some rv
 eq:W.heap[gq]? = w4.heap[gq]?
 er:W.heap[gr]? = w4.heap[gr]?
 sz:w4.heap.size<=W.heap.size
 ow:∀(j:Nat) u,vs[j]? = some u->FrC w4.heap.size (CH j) u W
 ne:∀(j j':Nat) u u' g,j<j'->vs[j]? = some u->vs[j']? = some u'->u.ownBlock=some g->u'.ownBlock≠some g
variable {w w4 W:Ut}{gr gq gp:Nat}{lv rv:Uv}{ps:List (Wv × Nat)}{vs:List Uv}{CH:Nat->SP.Bs}
theorem RdI.below(h:RdI w w4 W gr gq gp lv rv ps vs CH)(c:PsOk w w4 gr gq gp ps)(k:kZ W W'):RdI w w4 W' gr gq gp lv rv ps vs CH:=by
 have g:=h.sz;have l:=c.p;have m:=c.q;have n:=c.r;have f:∀(j:Nat) x,ps[j]? = some x->W'.cell? x.1=W.cell? x.1/\W'.frozen? x.1=W.frozen? x.1:=λj x hx=>by
  obtain⟨b,o,e,i,-⟩:=c.ad j x hx;have d:=k.block b (by omega);rw[e];unfold V1 Xe;rw[d];exact⟨rfl,rfl⟩
 refine⟨h.bl.trans (k.mono h.bl.size),λj x u hx d=>by rw[(f j x hx).1];exact h.st j x u hx d,λj x hx=>by rw[(f j x hx).1,(f j x hx).2];exact h.th j x hx,?_,?_,by rw[k.block gq (by omega)];exact h.eq,by rw[k.block gr (by omega)];exact h.er,UE g k.size,λj u d=>(h.ow j u d).below k,h.ne⟩
 ·rw[k.cell (p:=⟨gp,7,none⟩) (by show gp<_;omega)];exact h.c7
 ·rw[k.cell (p:=⟨gp,8,none⟩) (by show gp<_;omega)];exact h.c8
theorem RdI.step{k:Nat}(h:RdI w w4 W gr gq gp lv rv ps vs CH)(z:PsOk w w4 gr gq gp ps)(hx:ps[vs.length]? = some (⟨i,t,none⟩,k))(K:StR W i t (CH vs.length) W'):∃v,RdI w w4 W' gr gq gp lv rv ps (vs++[v]) CH:=by
 obtain⟨v,r,G⟩:=K;have P:=h.sz;have Q:=z.p;have R:=z.q;have S:=z.r;obtain⟨T,U,e',p1,p2,J,L,M,p6⟩:=z.ad _ _ hx;injection e' with e1 e2 _
 subst e1 e2;obtain⟨⟨old,y⟩,O⟩:=h.th _ _ hx;have f:∀g,g<W.heap.size->g≠i->W'.heap[g]? = W.heap[g]?:=λg s c=>by
  rw[r.block g s,heap_set,yCl (by show i≠g;omega)]
 have b:∀a:Wv,a.block<W.heap.size->a≠⟨i,t,none⟩->W'.cell? a=W.cell? a:=λa F c=>by
  rw[r.cell (p:=a) F,UV _ _ _ _ (λe=>c e.symm)]
 have D:∀a:Wv,a.block<W.heap.size->W'.frozen? a=W.frozen? a:=λa F=>by
  have d:W'.frozen? a=(W.setCell ⟨i,t,none⟩ v).frozen? a:=by
   unfold Xe;rw[r.block a.block F]
  rw[d];exact World.frozen?_setCells i [v] t W a
 have B:W.heap.size<=W'.heap.size:=by
  have:=r.size;rw[Yo]at this;exact this
 refine⟨v,⟨⟨by rw[r.os];exact h.bl.os,by rw[r.tape];exact h.bl.tape,by rw[r.output];exact h.bl.output,UE h.bl.size B,λg s=>?_⟩,λj x u q d=>?_,λj x q=>?_,?_,?_,?_,?_,by omega,λj u d=>?_,λj E u I g o d m s=>?_⟩⟩
 ·have:=h.bl.size;rw[f g (by omega) (by omega),h.bl.block g s]
 ·obtain⟨A,H,C,N,-⟩:=z.ad j x q;by_cases n:j<vs.length
  ·rw[UX n]at d;have c:=z.ne j vs.length x _ (by omega) q hx;rw[b x.1 (by rw[C];show A<_;omega) c];exact h.st j x u q d
  ·have l:j=vs.length:=by
    have:=(UG.1 d).1;rw[UB]at this;simp only[Vg,WO]at this;omega
   subst l;rw[hx]at q;obtain rfl:=UP.inj q;rw[U4 (Uy _),YH]at d;obtain rfl:v=u:=by simpa using d
   rw[r.cell (p:=⟨i,t,none⟩) (by show i<_;omega)];exact VU _ _ _ y
 ·obtain⟨A,H,C,N,-⟩:=z.ad j x q;have o:x.1.block<W.heap.size:=by rw[C];show A<_;omega
  refine⟨?_,by rw[D x.1 o];exact(h.th j x q).2⟩;by_cases c:x.1=⟨i,t,none⟩
  ·rw[c];exact⟨v,by rw[r.cell (p:=⟨i,t,none⟩) (by show i<_;omega)];exact VU _ _ _ y⟩
  ·rw[b x.1 o c];exact(h.th j x q).1
 ·rw[b ⟨gp,7,none⟩ (by show gp<_;omega) (λe=>M e.symm)];exact h.c7
 ·rw[b ⟨gp,8,none⟩ (by show gp<_;omega) (λe=>p6 e.symm)];exact h.c8
 ·rw[f gq (by omega) (λe=>J e.symm)];exact h.eq
 ·rw[f gr (by omega) (λe=>L e.symm)];exact h.er
 ·by_cases n:j<vs.length
  ·rw[UX n]at d;have C:=h.ow j u d;refine⟨bZ C.own (λg s=>?_),C.nn⟩;have:=jI C.own s;exact f g this.2.1 (by omega)
  ·have l:j=vs.length:=by
    have:=(UG.1 d).1;rw[UB]at this;simp only[Vg,WO]at this;omega
   subst l;rw[U4 (Uy _),YH]at d;obtain rfl:v=u:=by simpa using d
   refine⟨?_,G.nn⟩;rcases G.own with⟨H,A|⟨g,cap,cur,A,V,N⟩⟩
   ·exact⟨H,U6 A⟩
   ·exact⟨H,U2 ⟨g,cap,cur,A,by omega,N⟩⟩
 ·have A:=(UG.1 m).1;rw[UB]at A;simp only[Vg,WO]at A;rw[UX (by omega)]at d;by_cases n:E<vs.length
  ·rw[UX n]at m;exact h.ne j E u I g o d m s
  ·have l:E=vs.length:=by omega
   subst l;rw[U4 (Uy _),YH]at m;obtain rfl:v=I:=by simpa using m
   intro e;have C:=(jI G.own e).1;have H:=(jI (h.ow j u d).own s).2.1;omega
end
section
open Go.RowKit Go.Sort Go.Deep
variable {P:Nat}[NeZero P]{N:Nat}
theorem MH:(prog.info? 23).map (λi=>(i.zero,i.size,i.bytes))=some (some (.slice none 0 0),1,24):=by kernel_rfl
structure R4(w1 W:Ut)(gp gL gR k:Nat):Prop where
 bl:kZ w1 W
 d1:gp≠gL
 d2:gp≠gR
 d3:gL≠gR
 p1:w1.heap.size<=gp/\gp<W.heap.size
 p2:w1.heap.size<=gL/\gL<W.heap.size
 p3:w1.heap.size<=gR/\gR<W.heap.size
 hp:W.heap[gp]? = some (.cells #[.slice none 0 0,.slice none 0 0,.slice none 0 0,.slice none 0 0,.slice none 0 0,.slice none 0 0,.slice none 0 0,sZ gL k k,sZ gR k k,.slice none 0 0,.slice none 0 0] 28 (0,0))
 hL:W.heap[gL]? = some (.cells (madeCells #[.slice none 0 0] k) 23 (0,0))
 hR:W.heap[gR]? = some (.cells (madeCells #[.slice none 0 0] k) 23 (0,0))
theorem three(k:Ut)(a b c:Array Uv)(A B C:Vb):kZ k (((k.alloc (.cells a A)).alloc (.cells b B)).alloc (.cells c C)).drew/\(((k.alloc (.cells a A)).alloc (.cells b B)).alloc (.cells c C)).drew.heap.size=k.heap.size+3/\(((k.alloc (.cells a A)).alloc (.cells b B)).alloc (.cells c C)).drew.heap[k.heap.size]? = some (.cells a A (0,0))/\(((k.alloc (.cells a A)).alloc (.cells b B)).alloc (.cells c C)).drew.heap[k.heap.size+1]? = some (.cells b B (0,0))/\(((k.alloc (.cells a A)).alloc (.cells b B)).alloc (.cells c C)).drew.heap[k.heap.size+1+1]? = some (.cells c C (0,0)):=by
 have n:=aO k (.cells a A);have g:(k.alloc (.cells a A)).heap.size=k.heap.size+1:=UD _ _;have j:=aO (k.alloc (.cells a A)) (.cells b B);have i:((k.alloc (.cells a A)).alloc (.cells b B)).heap.size=k.heap.size+2:=by rw[UD,g]
 have e:=aO ((k.alloc (.cells a A)).alloc (.cells b B)) (.cells c C);have l:(((k.alloc (.cells a A)).alloc (.cells b B)).alloc (.cells c C)).heap.size=k.heap.size+3:=by rw[UD,i]
 have m:(k.alloc (.cells a A)).heap[k.heap.size]? = some (.cells a A (0,0)):=Xb;have f:((k.alloc (.cells a A)).alloc (.cells b B)).heap[(k.alloc (.cells a A)).heap.size]? = some (.cells b B (0,0)):=Xb;have e3:(((k.alloc (.cells a A)).alloc (.cells b B)).alloc (.cells c C)).heap[((k.alloc (.cells a A)).alloc (.cells b B)).heap.size]? = some (.cells c C (0,0)):=Xb;rw[g]at f;rw[i]at e3;have d:=(n.trans (j.mono (by omega))).trans (e.mono (by omega));refine⟨⟨d.os,d.tape,d.output,d.size,d.block⟩,l,?_,?_,e3⟩
 ·show(((k.alloc (.cells a A)).alloc (.cells b B)).alloc (.cells c C)).heap[k.heap.size]? = _;rw[e.block _ (by omega),j.block _ (by omega)];exact m
 ·show(((k.alloc (.cells a A)).alloc (.cells b B)).alloc (.cells c C)).heap[k.heap.size+1]? = _;rw[e.block _ (by omega)];exact f
def zR:List Uv:=VG 11 (.slice none 0 0)
theorem dU{f p r n q or m:Nat}{x:Wv × Nat}(h:(fO f p r n q or m)[j]? = some x):(j<7/\x.1=⟨f,j,none⟩)\/(7<=j/\j<7+n/\x.1=⟨p,r+(j-7),none⟩)\/(7+n<=j/\j<7+n+m/\x.1=⟨q,or+(j-7-n),none⟩)\/(7+n+m<=j/\j<9+n+m/\x.1=⟨f,9+(j-7-n-m),none⟩):=by
 have d:∀ {b o k i:Nat}{y:Wv × Nat},(lp b o k)[i]? = some y->i<k/\y.1=⟨b,o+i,none⟩:=λ{b o k i y} h=>by
  unfold lp at h;rw[Vy]at h;obtain⟨z,s,rfl⟩:=UA.1 h;have c:=(UG.1 s)
  obtain⟨l,g⟩:=c;have e:i<k:=by simpa using l
  have t:i=z:=by simpa using g
  subst t;exact⟨e,rfl⟩
 unfold fO at h;by_cases c:j<7
 ·left;refine⟨c,?_⟩;rw[VC,VC,UX (by show j<7;exact c)]at h;match j,c,h with
  | 0,_,h|1,_,h|2,_,h|3,_,h|4,_,h|5,_,h|6,_,h =>
   obtain rfl:=UP.inj h;rfl
 ·right;rw[VC,VC,U4 (by show 7<=j;omega)]at h;have s:(tD f).length=7:=rfl;rw[s]at h;by_cases l:j-7<n
  ·left;rw[UX (by rw[jM];exact l)]at h;obtain⟨-,e⟩:=d h;exact⟨by omega,by omega,e⟩
  ·right;rw[U4 (by rw[jM];omega),jM]at h;by_cases g:j-7-n<m
   ·left;rw[UX (by rw[jM];exact g)]at h;obtain⟨-,e⟩:=d h;exact⟨by omega,by omega,e⟩
   ·right;rw[U4 (by rw[jM];omega),jM]at h;obtain⟨i,e⟩:∃i,j-7-n-m=i:=⟨_,rfl⟩
    rw[e]at h⊢;match i,e,h with
    | 0,e,h|1,e,h =>
     obtain rfl:=UP.inj h;exact⟨by omega,by omega,rfl⟩
    | i+2,_,h=>cases h
theorem Cl(k j:Nat)(z:Uv)(h:j<k):(madeCells #[z] k)[j]? = some z:=by
 unfold madeCells;rw[Array.getElem?_map,Array.getElem?_range,yCk h];simp[yA6]
theorem IK{w B F t:Ut}{l o m k a n c:Nat}{CH:Nat->SP.Bs}(h:R4 B F l o m k)(G:kZ w B)(M:w.heap.size<B.heap.size)(p:PLs F t (sZ a n c) (fO l o 0 k m 0 k)):
 PsOk w t w.heap.size a l (fO l o 0 k m 0 k)/\RdI w t t w.heap.size a l (sZ o k k) (sZ m k k) (fO l o 0 k m 0 k) [] CH:=by
 obtain⟨U,V,e,H,E⟩:=p.lt;injection e with e _ _
 injection e with e
 injection e with e _ _
 subst e;have N:=p.bl.size;obtain⟨p1,D⟩:=h.p1;obtain⟨p2,z⟩:=h.p2;obtain⟨O,C⟩:=h.p3;have T:=h.d1;have S:=h.d2;have Q:=h.d3;have s:=p.bl.block l D;have J:=p.bl.block o z;have L:=p.bl.block m C;refine⟨⟨λj x hx=>?_,λj K x P I hx y e=>?_,E,by have:=h.bl.size;omega,by omega⟩,⟨?_,λj x u _ r=>by simp at r,λj x hx=>?_,?_,?_,rfl,rfl,Uy _,λj u r=>by simp at r,λj K u R g _ r=>by simp at r⟩⟩
 ·rcases dU hx with⟨f,b⟩|⟨f,d,b⟩|⟨f,d,b⟩|⟨f,d,b⟩
  ·exact⟨l,j,b,by omega,by omega,by omega,by omega,by rw[b];intro e;injection e with _ e _;omega,by rw[b];intro e;injection e with _ e _;omega⟩
  ·exact⟨o,_,b,by omega,by omega,by omega,by omega,by rw[b];intro e;injection e with e _ _;omega,by rw[b];intro e;injection e with e _ _;omega⟩
  ·exact⟨m,_,b,by omega,by omega,by omega,by omega,by rw[b];intro e;injection e with e _ _;omega,by rw[b];intro e;injection e with e _ _;omega⟩
  ·exact⟨l,_,b,by omega,by omega,by omega,by omega,by rw[b];intro e;injection e with _ e _;omega,by rw[b];intro e;injection e with _ e _;omega⟩
 ·rcases dU hx with⟨f,b⟩|⟨f,d,b⟩|⟨f,d,b⟩|⟨f,d,b⟩<;>rcases dU y with⟨A,v⟩|⟨A,q,v⟩|⟨A,q,v⟩|⟨A,q,v⟩<;>(rw[b,v]at e;injection e with e1 e2 _;omega)
 ·exact(G.trans (h.bl.mono G.size)).trans (p.bl.mono (by have:=h.bl.size;omega))
 ·rcases dU hx with⟨f,b⟩|⟨f,d,b⟩|⟨f,d,b⟩|⟨f,d,b⟩
  ·rw[b];unfold V1 Xe;rw[s,h.hp];refine⟨?_,by simp⟩;match j,f with
   | 0,_|1,_|2,_|3,_|4,_|5,_|6,_=>exact⟨_,rfl⟩
  ·rw[b];unfold V1 Xe;rw[J,h.hL];exact⟨⟨_,Cl k (0+(j-7)) _ (by omega)⟩,by simp⟩
  ·rw[b];unfold V1 Xe;rw[L,h.hR];exact⟨⟨_,Cl k (0+(j-7-k)) _ (by omega)⟩,by simp⟩
  ·rw[b];unfold V1 Xe;rw[s,h.hp];refine⟨?_,by simp⟩;obtain⟨i,q⟩:∃i,j-7-k-k=i:=⟨_,rfl⟩
   rw[q];match i,q with
   | 0,_|1,_=>exact⟨_,rfl⟩
   | i+2,q=>omega
 ·unfold V1;rw[s,h.hp];rfl
 ·unfold V1;rw[s,h.hp];rfl
def offs(n j:Nat):Nat:=1+((hZ n n).take j).sum
theorem kX(n j k:Nat)(h:(hZ n n)[j]? = some k):offs n (j+1)=offs n j+k:=by
 unfold offs;rw[List.take_add_one,h,yBh];simp[WY]
theorem tO:∀(l:List Nat) (j:Nat),(l.take j).sum<=l.sum
 | [],j=>by simp
 | a :: r,0=>by simp
 | a :: r,j+1=>by
  have:=tO r j;simp only[List.take_succ_cons,yBD];omega
theorem My(n j:Nat):offs n j<=1+(hZ n n).sum:=by
 have:=tO (hZ n n) j;unfold offs;omega
theorem Ce(n:Nat):(hZ n n).sum=292+66*n:=by
 unfold hZ;simp only[yBh,List.sum_replicate_nat,yBD,List.sum_nil];omega
theorem wZ(n:Nat):offs n (n+n+9)=293+66*n:=by
 unfold offs;rw[Zi (by rw[kW];omega),Ce];omega
def chk(s:SP.Bs)(n j:Nat):SP.Bs:=s.extract (offs n j) (offs n (j+1))
def nO(s:SP.Bs):Prop:=0<s.size/\s[0]!.toNat<=6/\s.size=293+66*s[0]!.toNat
def RdR(w:Ut)(s:SP.Bs)(k:Nat)(e:Ending)(W:Ut):Prop:=
 (¬nO s/\kZ w W/\e=.returned (.tuple #[.agg zR.toArray,iZ 2])) \/
 (nO s/\kZ w W/\∃(g f:Ut) (i b d c:Nat) (vs cs:List Uv),vs.length=k+k+9/\PsOk w g w.heap.size i b (fO b d 0 k c 0 k)/\RdI w g f w.heap.size i b (sZ d k k) (sZ c k k) (fO b d 0 k c 0 k) vs (chk s k)/\cs.length=11/\f.rangeAt b 0 cs/\W=f.setCells w.heap.size 0 cs/\e=.returned (.tuple #[.agg cs.toArray,iZ 0]))
theorem Tb(b d n c k:Nat)(g:k<=n)(e:n<c)(w:Ut):(Xw 23 (.slice (some ⟨b,d,none⟩) n c) (some (iZ k)) none none).run prog w=.ok (.slice (some ⟨b,d+k,none⟩) (n-k) (c-k)) w:=by
 have j:(k:Int)<=n:=by omega
 have l:(n:Int)<=c:=by omega
 have i:¬c=k:=by omega
 have f:¬c-k=0:=by omega
 go_simp
theorem LJ(d b n c k:Nat)(i:k<=n)(f:n<=c):∃nx,(0<c-k->nx=b+k)/\∀w:Ut,(Xw 23 (.slice (some ⟨d,b,none⟩) n c) (some (iZ k)) none none).run prog w=.ok (.slice (some ⟨d,nx,none⟩) (n-k) (c-k)) w:=by
 have j:(k:Int)<=n:=by omega
 have l:(n:Int)<=c:=by omega
 by_cases e:c=k
 ·obtain rfl:n=k:=by omega
  subst e;refine⟨b,λh=>by omega,λw=>?_⟩;rw[YH];go_simp
 ·have g:¬c-k=0:=by omega
  refine⟨b+k,λ_=>rfl,λw=>?_⟩;go_simp
theorem LK(b d n c k:Nat)(e:k<=c)(w:Ut):(Xw 23 (.slice (some ⟨b,d,none⟩) n c) none (some (iZ k)) none).run prog w=.ok (.slice (some ⟨b,d,none⟩) k c) w:=by
 have f:(k:Int)<=c:=by omega
 go_simp
theorem fZ{P:VD}{c:Func}{tmps:Array Uv}{W:Ut}{k:Nat}{vs:List Uv}(t u:Tmp)(T:Vb)(i:c.results=#[.cell t T,.tmp u])(h:W.rangeAt k 0 vs)(g:tmps[t]? = some (jZ k))(hv:tmps[u]? = some v)
 (b:(P.underlying T).map (·.isRow)=some true) (l:(P.info? T).map (·.size)=some vs.length):(results c tmps).run P W=.ok (.tuple #[.agg vs.toArray,v]) W:=by
 obtain⟨d,b,hd⟩:=UA.1 b;have f:=run_loadVar_mid (P:=P) W k 0 T vs d h b hd l;have j:tmps.getD t WJ=jZ k:=by rw[UJ,g];rfl
 have e:tmps.getD u WJ=v:=by rw[UJ,hv];rfl
 unfold results;rw[i];simp only[Array.mapM_eq_mapM_toList,List.mapM_cons,List.mapM_nil,j,e,asAddr];simp[UW,f]
theorem EI{w W:Ut}{cs:List Uv}(g:W.heap[w.heap.size]? = some (.cells zR.toArray 28 (0,0)))(i:cs.length=11)(c:kZ w W):W.there w.heap.size 0 cs.toArray.size/\(W.setCells w.heap.size 0 cs).rangeAt w.heap.size 0 cs/\kZ w (W.setCells w.heap.size 0 cs):=by
 have e:W.there w.heap.size 0 cs.length:=λj l=>by
  unfold V1 Xe;rw[g];refine⟨?_,by simp⟩;have:(0+j)<zR.toArray.size:=by show 0+j<11;omega
  simp only[Array.getElem?_eq_getElem this];rfl
 refine⟨by simpa using e,World.rangeAt_setCells_same _ _ _ _ e,⟨(World.os_setCells _ _ _ _).trans c.os,?_,(World.output_setCells _ _ _ _).trans c.output,?_,λk f=>?_⟩⟩
 ·have d:=below_setCells (B:=0) (b:=w.heap.size) (Wz _) cs 0 W (UT 0 W);rw[d.tape];exact c.tape
 ·have d:=below_setCells (B:=0) (b:=w.heap.size) (Wz _) cs 0 W (UT 0 W);exact UE c.size d.size
 ·rw[yAb W _ 0 cs (by have:=c.size;omega) (by omega)];exact c.block k f
end
section
open Go.RowKit Go.Sort Go.Deep SPA
section
variable {P:VD}{ops:Array Vk}{rest:List Vk}{o:Vk}{a:Act}{w:Ut}{Q:Exit->Act->Ut->Prop}
theorem PW.gd(h:wpList P ops Q ({ o with guard:=none } :: rest) a w)(k:V5 o (yielded ops a.tmps)=true:=by kernel_rfl):wpList P ops Q (o :: rest) a w:=by
 unfold wpList at h⊢;rw[yCk k];rw[yCk (show V5 { o with guard:=none }(yielded ops a.tmps)=true from rfl)]at h;exact h
end
variable {P:Nat}[NeZero P]{N:Nat}[NeZero N]
theorem Qw(C:Fld P){n:Nat}(Y:Wd n t)(V:Bs)(q:Fin P × Fin P)(K:rd P V=some q)(v:Uv)(s r o m u y j l z b k:Uv)(w:Ut)(O:Arg33 w v V)(T:∀W,kZ w W->UK prog 54 #[pvl V,iZ n,.agg #[s,r,o,m,u,y,j,l,z,b,k]] W (rZ W λe w'=>e=.bool true)):
 UK prog 12 #[v,iZ n,.agg #[s,r,o,m,u,y,j,l,z,b,k]] w (rZ w λe w'=>e=.bool true):=by
 have J:V.size=33:=EG K;obtain⟨E,d⟩:=hE (pvl V);obtain⟨U,c⟩:=hE (Value.agg #[s,r,o,m,u,y,j,l,z,b,k]);obtain⟨X,A⟩:=hE (w.heap.size);obtain⟨Q,g⟩:=hE (w.alloc (.cells [s,r,o,m,u,y,j,l,z,b,k].toArray 28));have F:=mk1 ((Mp.start w).new A g);have M:Hid ((Instr.box 28 U).run prog w=.ok (jZ X) Q):=by rw[<-c.out,<-g.out,<-A.out];exact SR _ _ _ _ _ _ _ _ _ _ _ w
 have L:Hid (∀W,kZ w W->UK prog 53 #[v] W (rZ W λe w'=>e=.tuple #[E,.bool true])):=λW hb=>by
  rw[<-d.out];exact FK C v V q W (O.below hb) K
 have HV:Hid (∀W,kZ w W->UK prog 54 #[E,iZ n,U] W (rZ W λe w'=>e=.bool true)):=by
  rw[<-d.out,<-c.out];exact T
 have R:(prog.info? 103).map (·.size)=some (aA V).length:=by rw[aB J];exact iCP
 rw[c.out];clear T O;go_enter func12,ntmps12;refine UC ?_;refine PW.begin ?_;refine PW.ns M.out ?_;refine PW.va (.bool false) ?_;refine PW.dn ?_;refine UC ?_;refine PW.begin ?_;refine PW.mv ?_;refine PW.gi (L.out Q F.bl) λN f=>?_
 have S:=mk1 (F.grow f);clear F f L M;refine PW.mv ?_;refine PW.va E ?_;refine PW.va (.bool true) ?_;refine hG (N.heap.size) λk7 a=>?_
 refine hG (N.alloc (.cells z33.toArray 103)) λZ i=>?_
 refine hG (Z.setCells k7 0 (aA V)) λw4 p=>?_
 have I:(aA V).length=z33.length:=aB J;have D:=mk1 (S.new a i);have H:=mk1 (D.put 1 p rfl I);refine PW.al a i ?_;refine PW.st p d (D.th 1 rfl I) R (bW _) ?_;refine PW.va (.bool true) ?_;clear S D;refine PW.dn ?_;refine UC ?_;refine PW.begin ?_;refine PW.mv ?_;refine PW.mv ?_;refine PW.gd ?_;refine PW.mv ?_;refine PW.gd ?_;refine PW.gi (NK Y w4) λw5 x=>?_
 have B:=mk1 (H.grow x);clear H x;refine PW.va (.bool true) ?_;refine PW.mv ?_;refine PW.gd ?_;refine PW.ro (B.at_ 1).2.1 d uCP R ?_;refine PW.gd ?_;refine PW.mv ?_;refine PW.gd ?_;refine PW.ro (cs:=[s,r,o,m,u,y,j,l,z,b,k]) (B.at_ 0).2.1 c uAr iAr ?_;refine PW.gd ?_;refine PW.gi (HV.out w5 B.bl) λw6 G=>?_
 have K6:=mk1 (B.grow G);refine PW.va (.bool true) ?_;refine PW.va (.bool true) ?_;refine PW.dn ?_;go_wp2;go_ret;exact⟨_,rfl,K6.bl,rfl⟩
theorem Re(C:Fld P)(O:Ord N)(k:∀r:EC.Pt P,On r->mul N r=none)(hP:IsP N)(R:Rv N)(s:Wd R.n t)(hv:R.v<2^R.n)(hN:18446744073709551616<=N)(U:List UInt8)(sq:Option Wv)(sc:Nat)(V A S C1 C2 L3 L6 L8:Bs)(hL:RvL C k R V A S C1 C2 L3 L6 L8)(hS:RvS R U)(q:Md.Ps Bs (Fin N) (OnP P))(Q:q.s=bB L8)(h8:q.a=R.a)(h1:q.b=R.b)(h2:q.g=gPt C ⟨#[108,101,102,116]⟩)(h9:q.h=R.hh (aD C k) (gPt C ⟨#[114,105,103,104,116]⟩))(u:OnP P)(hu:u=(aD C k).ac R.w (uPt C))(Lb Rb:Nat->Bs)(Z:∀j,Lb j=wP ((aD C k).pLi (chF N) ivF u t q j))(hc:∀j,Rb j=wP ((aD C k).pTi (chF N) ivF u t q j))(Ab Bb:Bs)(h3:Ab=bx (((aD C k).pst (chF N) ivF u t q t).a 0).val)(L:Bb=bx (((aD C k).pst (chF N) ivF u t q t).b 0).val)(X:Rp)(M:Hid (⟨A,S,C1,C2,R.tau.val,R.mu.val,R.t.val⟩=X))(v1:Uv)(w:Ut)(hk:Arg w v1 (bx R.k.val))(hp:PartOk w (.slice sq 32 sc) U):
 UK prog 5 #[uZ (R.v:Int),v1,iZ (R.n:Int),.slice sq 32 sc] w (rZ w λe w'=>∃e' B0,e=.tuple #[e',iZ 0]/\w.heap.size<=B0/\RgA B0 t X Lb Rb Ab Bb e' w'):=by
 have h0:R.n<=64:=by rw[s.1];exact UE (VN (by decide) s.2.2) (by decide)
 have h5:R.v<18446744073709551616:=Uz hv (UE (VN (by decide) h0) (by decide));have o:=λ(W:Ut) (E:kZ w W)=>Me C O k hP t s.2.2 R s.1 h5 hN U sq 32 sc V A S C1 C2 L3 L6 L8 hL hS q Q h8 h1 h2 h9 u hu Lb Rb Z hc Ab Bb h3 L X M W (hp.below E)
 have l:=λ(W:Ut) (E:kZ w W)=>EB O v1 (bx R.k.val) W (hk.below E)
 rw[kL O R.k.isLt]at l;have h4:¬((2^R.n-1:Nat):Int)<(R.v:Int):=by omega
 have ha:decide (((2^R.n-1:Nat):Int)<(R.v:Int))=false:=decide_eq_false h4;generalize hi:R.v=vn at *;generalize h6:(2^R.n-1:Nat)=gn at *;have HG:=λ(W:Ut)=>Fj s W
 rw[h6]at HG;have HW:=λ(W:Ut)=>NK s W
 generalize hj:R.n=nn at *;obtain⟨vk,c⟩:=hE (nv R.k.val);rw[c.out]at o;have hg:Hid (∀W,kZ w W->UK prog 16 #[v1] W (rZ W λe w'=>e=.tuple #[vk,.bool true])):=λW E=>by
  rw[<-c.out];exact l W E
 have Y:=mk3 o HG HW;clear o HG HW l hp hk hL hS;refine hG (w.heap.size) λk8 B=>?_
 refine hG (w.alloc (.cells z11.toArray 28)) λw1 F=>?_
 have K1:=mk1 ((Mp.start w).new B F);go_enter func5,ntmps5;refine UC ?_;refine PW.begin ?_;refine PW.al B F ?_;refine PW.va (iZ 0) ?_;refine PW.dn ?_;refine UC ?_;refine UC ?_;refine PW.begin ?_;refine PW.mv ?_;refine PW.gi (Y.2.2 w1) λw2 a=>?_
 have K2:=mk1 (K1.grow a);clear K1 a;refine PW.va (.bool false) ?_;refine PW.mv ?_;refine PW.gd ?_;refine PW.mv ?_;refine PW.gd ?_;refine PW.va (iZ 32) ?_;refine PW.gd ?_;refine PW.va (.bool false) ?_;refine PW.va (.bool false) ?_;refine PW.dn ?_;refine VJ rfl ?_;refine WQ ?_;refine UC ?_;refine PW.begin ?_;refine PW.mv ?_;refine PW.gi (hg.out w2 K2.bl) λw3 x=>?_
 have K3:=mk1 (K2.grow x);clear K2 x;refine PW.mv ?_;refine PW.va vk ?_;refine PW.va (.bool true) ?_;refine hG (w3.heap.size) λhe d=>?_
 refine hG (w3.alloc (.cells (RG.z 4).toArray 49)) λw4 D=>?_
 refine hG (w4.setCells he 0 (wn R.k.val)) λw5 y=>?_
 have K4:=mk1 (K3.new d D);have K5:=mk1 (K4.put 1 y);refine PW.al d D ?_;refine PW.st y c (K4.th 1) i40 (aM _) ?_;refine PW.va (.bool true) ?_;clear K3 K4;refine PW.dn ?_;refine UC ?_;refine UC ?_;refine PW.begin ?_;refine PW.mv ?_;refine PW.va (.bool false) ?_;refine PW.dn ?_;refine VJ rfl ?_;refine WQ ?_;refine UC ?_;refine UC ?_;refine PW.begin ?_;refine PW.mv ?_;refine PW.mv ?_;refine PW.gi (Y.2.1 w5) λw6 z=>?_
 have p:=mk1 (K5.grow z);clear K5 z;refine PW.va (.bool (decide ((gn:Int)<(vn:Int)))) ?_;rw[ha];refine PW.dn ?_;refine VJ rfl ?_;refine WQ ?_;refine UC ?_;refine PW.begin ?_;refine PW.mv ?_;refine PW.ro (p.at_ 1).2.1 c u40 i40 ?_;refine PW.mv ?_;refine PW.mv ?_;refine PW.ca (Y.1 w6 p.bl) ?_;rintro e w7 ⟨v,B0,h7,f⟩;simp only[UR,Uu,Uw,Ux];have l8:=(p.at_ 0).1;have J:=mk1 (p.grow v);have RA:=mk1 f;obtain⟨ra,rb,rc,n,re,rf,i,I,G,H,K,rfl,-,tL,tR,eA,eB⟩:=f.ex;have b:H.oneCell'=true/\K.oneCell'=true/\I.oneCell'=true/\G.oneCell'=true:=⟨eA.one.2,eB.one.2,tL.one.2,tR.one.2⟩
 clear f tL tR eA eB v;refine hG (w7.setCells k8 0 [r33 ra,r33 rb,r33 rc,r33 n,r32 re,r32 rf,r32 i,I,G,H,K]) λw8 m=>?_
 have K8:=mk1 (J.put 0 m);have T:=mk1 (RA.set (us:=[r33 ra,r33 rb,r33 rc,r33 n,r32 re,r32 rf,r32 i,I,G,H,K]) (J.at_ 0) (by omega));rw[m.out]at T;refine PW.st (cs:=[r33 ra,r33 rb,r33 rc,r33 n,r32 re,r32 rf,r32 i,I,G,H,K]) m (Hid.mk' rfl) (J.th 0) iAr (by simp only[XP,ZC,ZR,b.1,b.2.1,b.2.2.1,b.2.2.2,show ∀g,(r33 g).oneCell'=true from λ_=>rfl,show ∀g,(r32 g).oneCell'=true from λ_=>rfl,Bool.and_true]) ?_;refine PW.va (iZ 0) ?_;refine PW.dn ?_;have KE:=mk2 K8.bl (And.intro (UE p.bl.size h7) T.out);have Kr:=(K8.at_ 0).2.1;clear p J K8 RA T;refine wp_ret ?_;refine UH (fZ 8 9 28 rfl Kr rfl rfl uAr iAr) rfl ?_;exact⟨_,rfl,KE.1,_,_,rfl,KE.2.1,KE.2.2⟩
end
section
open Go.RowKit Go.Sort Go.Deep SPA
variable {P:Nat}[NeZero P]{N:Nat}[NeZero N]
theorem Qy(C:Fld P)(O:Ord N)(k:∀r:EC.Pt P,On r->mul N r=none)(d:IsP N)(W:18446744073709551616<=N)(R:Rv N)(D:Wd R.n t)(hv:R.v<2^R.n)(V A S s y E J n:Bs)(b:RvL C k R V A S s y E J n)(q:Md.Ps Bs (Fin N) (OnP P))(m:q.s=bB n)(B:q.a=R.a)(p:q.b=R.b)(g:q.g=gPt C ⟨#[108,101,102,116]⟩)(f:q.h=R.hh (aD C k) (gPt C ⟨#[114,105,103,104,116]⟩))(u:OnP P)(K:u=(aD C k).ac R.w (uPt C))(z Rb:Nat->Bs)(x:∀j,z j=wP ((aD C k).pLi (chF N) ivF u t q j))(o:∀j,Rb j=wP ((aD C k).pTi (chF N) ivF u t q j))(F I:Bs)(v:F=bx (((aD C k).pst (chF N) ivF u t q t).a 0).val)(i:I=bx (((aD C k).pst (chF N) ivF u t q t).b 0).val)(H:Rp)(l:Hid (⟨A,S,s,y,R.tau.val,R.mu.val,R.t.val⟩=H))(G:Nat)(e:Uv)(w:Ut)(c:RgA G t H z Rb F I e w):
 UK prog 54 #[pvl V,iZ (R.n:Int),e] w (rZ w λe w'=>e=.bool true):=by
 obtain rfl:=l.out;have L:R.y.val≠0:=by rw[b.y];exact FU d.1 _
 have ok:(⟨A,S,s,y,R.tau.val,R.mu.val,R.t.val⟩:Rp).Ok:=⟨by rw[b.eA];exact aT _,by rw[b.eS];exact aT _,by rw[b.e1];exact aT _,by rw[b.e2];exact aT _⟩
 have M:=R.sums (aD C k) (gPG C) (hPV C) d L hv;have T:=R.point (aD C k) (gPG C) (uPt C) (gPt C ⟨#[108,101,102,116]⟩) (gPt C ⟨#[114,105,103,104,116]⟩) d L;have hf:=PP C k d u t q;rw[v,i]at c;generalize ((aD C k).pst (chF N) ivF u t q t).a 0=U at *;generalize ((aD C k).pst (chF N) ivF u t q t).b 0=Q at *;refine Ou C O k d W D _ ok V _ _ _ _ _ b.eV b.eA b.eS b.e1 b.e2 R.tau R.mu R.t R.x R.y R.z R.w rfl rfl rfl E J n b.l3 b.y b.z b.l6 b.x b.l8 b.w z Rb _ _ x o U Q u K ⟨q.s,(aD C k).hdP u (2^t) q,q.g,q.h⟩ m g f ?_ _ rfl ?_ hf G e w c
 ·show(aD C k).hd q.a q.b q.g q.h u (2^t)=(aD C k).ad ((aD C k).ad ((aD C k).ad ((aD C k).ad _ _) _) ((aD C k).ad ((aD C k).dt (λ_=>-R.z) q.g R.n) ((aD C k).dt (rgS R.y R.z) q.h R.n))) _;rw[<-D.1,B,p,g,f,K];exact T.symm
 ·exact congrArg wP M
theorem QS(C:Fld P)(O:Ord N)(b:∀r:EC.Pt P,On r->mul N r=none)(v n:Nat)(k:Fin N)(d:List UInt8):∃(R:Rv N) (V A S m o e g j:Bs),R.v=v/\R.n=n/\R.k=k/\RvL C b R V A S m o e g j/\RvS R d:=by
 have lt:∀l B,chL N l B<N:=λl B=>uS O _
 obtain⟨s,D⟩:∃s:Nat->Fin N,∀i,(s i).val=chL N [115,108] [d,(iC i).toList]:=⟨λi=>⟨_,lt _ _⟩,λ_=>rfl⟩
 obtain⟨q,I⟩:∃s:Nat->Fin N,∀i,(s i).val=chL N [115,114] [d,(iC i).toList]:=⟨λi=>⟨_,lt _ _⟩,λ_=>rfl⟩
 obtain⟨al,t⟩:∃x:Fin N,x.val=chL N [97,108,112,104,97] [d]:=⟨⟨_,lt _ _⟩,rfl⟩
 obtain⟨c,f⟩:∃x:Fin N,x.val=chL N [114,104,111] [d]:=⟨⟨_,lt _ _⟩,rfl⟩
 obtain⟨t1,u⟩:∃x:Fin N,x.val=chL N [116,97,117,49] [d]:=⟨⟨_,lt _ _⟩,rfl⟩
 obtain⟨t2,p⟩:∃x:Fin N,x.val=chL N [116,97,117,50] [d]:=⟨⟨_,lt _ _⟩,rfl⟩
 obtain⟨V,U⟩:∃V,V=wP ((⟨v,n,s,q,al,c,t1,t2,k,0,0,0,0⟩:Rv N).pV (aD C b) (gPG C) (hPV C)):=⟨_,rfl⟩
 obtain⟨A,J⟩:∃A,A=wP ((⟨v,n,s,q,al,c,t1,t2,k,0,0,0,0⟩:Rv N).pA (aD C b) (gPG C) (gPt C ⟨#[108,101,102,116]⟩) (gPt C ⟨#[114,105,103,104,116]⟩)):=⟨_,rfl⟩
 obtain⟨S,K⟩:∃A,A=wP ((⟨v,n,s,q,al,c,t1,t2,k,0,0,0,0⟩:Rv N).pS (aD C b) (gPG C) (gPt C ⟨#[108,101,102,116]⟩) (gPt C ⟨#[114,105,103,104,116]⟩)):=⟨_,rfl⟩
 obtain⟨e,G⟩:∃L,L=bgL V n A S:=⟨_,rfl⟩
 obtain⟨y,Q⟩:∃y,y=kO N e:=⟨_,rfl⟩
 obtain⟨z,E⟩:∃z,z=kO N (bB e):=⟨_,rfl⟩
 obtain⟨m,H⟩:∃A,A=wP ((⟨v,n,s,q,al,c,t1,t2,k,y,z,0,0⟩:Rv N).p1 (aD C b) (gPG C) (hPV C)):=⟨_,rfl⟩
 obtain⟨o,T⟩:∃A,A=wP ((⟨v,n,s,q,al,c,t1,t2,k,y,z,0,0⟩:Rv N).p2 (aD C b) (gPG C) (hPV C)):=⟨_,rfl⟩
 obtain⟨g,W⟩:∃L,L=mdL (bB (bB e)) m o:=⟨_,rfl⟩
 obtain⟨x,hx⟩:∃x,x=kO N g:=⟨_,rfl⟩
 obtain⟨j,M⟩:∃L,L=enL (bB g) (⟨v,n,s,q,al,c,t1,t2,k,y,z,x,0⟩:Rv N).tau.val (⟨v,n,s,q,al,c,t1,t2,k,y,z,x,0⟩:Rv N).mu.val (⟨v,n,s,q,al,c,t1,t2,k,y,z,x,0⟩:Rv N).t.val:=⟨_,rfl⟩
 obtain⟨w,F⟩:∃w,w=kO N j:=⟨_,rfl⟩
 exact⟨⟨v,n,s,q,al,c,t1,t2,k,y,z,x,w⟩,V,A,S,m,o,e,g,j,rfl,rfl,rfl,⟨U,J,K,H,T,G,Q,E,W,hx,M,F⟩,⟨D,I,t,f,u,p⟩⟩
theorem RgA.below{l:Nat}{q:Nat->Bs}{j o:Bs}{W:Ut}(h:RgA l t p q Rb j o e W)(i:kZ W W'):RgA l t p q Rb j o e W':=by
 obtain⟨a,b,c,d,u,m,s,y,v,w,A,B,r,n,hR,z,x⟩:=h.ex;have k:Kq (λ_=>True) W W':=Kq.of_below i;exact⟨a,b,c,d,u,m,s,y,v,w,A,B,r.keep k,n.keep k λg f=>i.block g (n.lt f).2,hR.keep k λg f=>i.block g (hR.lt f).2,z.keep k,x.keep k⟩
theorem Q9{S R M:Type}(s:S)(a b:Nat->R)(g h:Nat->M):∃q:Md.Ps S R M,q.s=s/\q.a=a/\q.b=b/\q.g=g/\q.h=h:=⟨⟨s,a,b,g,h⟩,rfl,rfl,rfl,rfl,rfl⟩
theorem Lz(C:Fld P)(O:Ord N)(f:∀r:EC.Pt P,On r->mul N r=none)(hP:IsP N)(hN:18446744073709551616<=N){n:Nat}(Q:Wd n t)(v:Nat)(hv:v<2^n)(k:Fin N)(U:List UInt8):∃(V:Bs) (p:Rp) (l Rb:Nat->Bs) (g i:Bs),V=wP ((aD C f).cm (hPV C) (gPG C) (ofF N v) k) /\
 (∀(K:Option Wv) (sc:Nat) (v1:Uv) (w:Ut),Arg w v1 (bx k.val)->PartOk w (.slice K 32 sc) U->UK prog 5 #[uZ v,v1,iZ n,.slice K 32 sc] w (rZ w λe w'=>∃e' o,e=.tuple #[e',iZ 0]/\w.heap.size<=o/\RgA o t p l Rb g i e' w')) /\
 ∀(o:Nat) (e v0:Uv) (w:Ut),Arg33 w v0 V->RgA o t p l Rb g i e w->UK prog 12 #[v0,iZ n,e] w (rZ w λe w'=>e=.bool true):=by
 obtain⟨R,V,A,S,Y,Z,L3,L6,X,rfl,rfl,rfl,L,hS⟩:=QS C O f v n k U;obtain⟨q,D,J,F,G,B⟩:=Q9 (bB X) R.a R.b (gPt C ⟨#[108,101,102,116]⟩) (R.hh (aD C f) (gPt C ⟨#[114,105,103,104,116]⟩));obtain⟨u,hu⟩:∃u,u=(aD C f).ac R.w (uPt C):=⟨_,rfl⟩
 obtain⟨l,I⟩:∃l:Nat->Bs,∀j,l j=wP ((aD C f).pLi (chF N) ivF u t q j):=⟨λj=>wP ((aD C f).pLi (chF N) ivF u t q j),λ_=>rfl⟩
 obtain⟨Rb,E⟩:∃Rb:Nat->Bs,∀j,Rb j=wP ((aD C f).pTi (chF N) ivF u t q j):=⟨λj=>wP ((aD C f).pTi (chF N) ivF u t q j),λ_=>rfl⟩
 obtain⟨g,H⟩:∃g,g=bx (((aD C f).pst (chF N) ivF u t q t).a 0).val:=⟨_,rfl⟩
 obtain⟨i,y⟩:∃i,i=bx (((aD C f).pst (chF N) ivF u t q t).b 0).val:=⟨_,rfl⟩
 obtain⟨p,z⟩:=hE (⟨A,S,Y,Z,R.tau.val,R.mu.val,R.t.val⟩:Rp);refine⟨V,p,l,Rb,g,i,L.eV,λK sc v1 w T M=>?_,λo e v0 w T M=>?_⟩
 ·exact Re C O f hP R Q hv hN U K sc V A S Y Z L3 L6 X L hS q D J F G B u hu l Rb I E g i H y p z v1 w T M
 ·have hr:∃q,rd P V=some q:=by
   rw[L.eV];obtain⟨q,hq,-⟩:=zM C (R.pV (aD C f) (gPG C) (hPV C)).2;exact⟨q,hq⟩
  obtain⟨x,hx⟩:=hr;obtain⟨a,b,c,d,u',m,s,vL,vR,vA,vB,e1,-⟩:=M.ex;subst e1;exact Qw C Q V x hx v0 _ _ _ _ _ _ _ _ _ _ _ w T λW hb=>Qy C O f hP hN R Q hv V A S Y Z L3 L6 X L q D J F G B u hu l Rb I E g i H y p z o _ W (M.below hb)
end
section
open Go.RowKit Go.Sort Go.Deep SPA
variable {P:Nat}[NeZero P]{N:Nat}
theorem TlL.vl{Q:Nat->Prop}{k:Nat}{W:Ut}(h:TlL Q k t W v B)(m:0<t):∃g c ys,v=sZ g t c/\VL W (some (aZ g)) t ys/\∀j,j<t->∃x,ys[j]? = some x/\ElQ Q 33 W x (B j):=by
 obtain⟨xs,b,i⟩:=h.ex;obtain⟨g,c,rfl⟩:=wV b m;have p:xs.length=t:=by have:=b.1;omega
 have l:=(h.lt (g:=g) rfl).2;refine⟨g,c,xs,rfl,⟨p,λe=>(by cases e),U2 ⟨g,0,rfl,l,λj u d=>?_⟩,λu d=>?_⟩,i⟩
 ·rw[UF];exact zU b d
 ·obtain⟨j,n,rfl⟩:=List.mem_iff_getElem.1 d;obtain⟨x,f,o⟩:=i j (by omega);rw[UI n]at f;obtain rfl:=UP.inj f;exact o.one.2
theorem ElQ.pt{Q:Nat->Prop}{m:Nat}{W:Ut}{x:Uv}(h:ElQ Q m W x b):Pt W x b:=by
 obtain⟨k,c,rfl,-,e,-,d,f⟩:=h;exact⟨_,c,by rw[e],U2 ⟨k,0,rfl,d,f⟩⟩
def rgB(t:Nat)(p:Rp)(c Rb:Nat->Bs)(k b:Bs):List Bs:=[p.a,p.s,p.c,p.d,bx p.u,bx p.m,bx p.t]++(VB t).map c++(VB t).map Rb++[k,b]
theorem PtB.app{W:Ut}{us vs:List Uv}{A B:List Bs}(h:PtB W us A)(d:PtB W vs B):PtB W (us++vs) (A++B):=by
 refine⟨by rw[UB,UB,h.1,d.1],λj u b c k=>?_⟩;by_cases e:j<us.length
 ·rw[UX e]at c;rw[UX (by rw[h.1];exact e)]at k;exact h.2 j u b c k
 ·rw[U4 (by omega)]at c;rw[U4 (by rw[h.1];omega),h.1]at k;exact d.2 _ u b c k
theorem PtB.one{W:Ut}{u:Uv}(h:Pt W u b):PtB W [u] [b]:=⟨rfl,λj d e k c=>by
 match j with
 | 0 =>
  cases k
  cases c
  exact h
 | j+1=>cases k⟩
theorem PtB.list{W:Ut}{Q:Nat->Prop}{ys:List Uv}(k:ys.length=t)(h:∀j,j<t->∃x,ys[j]? = some x/\ElQ Q 33 W x (B j)):PtB W ys ((VB t).map B):=⟨by simp[k],λj u b e f=>by
 have c:j<t:=by rw[<-k];exact(UG.1 e).1
 obtain⟨x,d,g⟩:=h j c;rw[e]at d;obtain rfl:=UP.inj d;rw[Vy,List.getElem?_range c]at f;obtain rfl:=UP.inj f;exact g.pt⟩
theorem RgA.rg{z:Nat}{w:Nat->Bs}{l o:Bs}{W:Ut}(h:RgA z t p w Rb l o e W)(n:0<t):∃(q:Rg) (f k:List Uv) (i j:Nat),e=.agg q.cs.toArray/\q.l.n=t/\q.r.n=t/\q.a.n=33/\VL W q.l.q q.l.n f/\VL W q.r.q q.r.n k/\q.l.q=some (aZ i)/\q.r.q=some (aZ j)/\PtB W (qX q f k) (rgB t p w Rb l o):=by
 obtain⟨a,b,c,d,u,m,s,H,F,G,I,rfl,g,B,hR,v,r⟩:=h.ex;obtain⟨i,cl,f,rfl,v1,D⟩:=B.vl n;obtain⟨j,cr,k,rfl,v2,x⟩:=hR.vl n;have pA:=v.pt;have E:=r.pt;obtain⟨C,cA,rfl,-⟩:=v;obtain⟨y,cB,rfl,-⟩:=r;refine⟨⟨⟨some (aZ a),33,_⟩,⟨some (aZ b),33,_⟩,⟨some (aZ c),33,_⟩,⟨some (aZ d),33,_⟩,⟨some (aZ u),32,_⟩,⟨some (aZ m),32,_⟩,⟨some (aZ s),32,_⟩,⟨some (aZ i),t,cl⟩,⟨some (aZ j),t,cr⟩,⟨some (aZ C),32,cA⟩,⟨some (aZ y),32,cB⟩⟩,f,k,i,j,rfl,rfl,rfl,rfl,v1,v2,rfl,rfl,?_⟩;exact(((PtB.one g.a.pt).app ((PtB.one g.b.pt).app ((PtB.one g.c.pt).app ((PtB.one g.d.pt).app ((PtB.one g.e.pt).app ((PtB.one g.f.pt).app (PtB.one g.g.pt))))))).app (PtB.list v1.len D)).app (PtB.list v2.len x) |>.app ((PtB.one pA).app (PtB.one E))
theorem TlL.sz{Q:Nat->Prop}{d:Nat}{W:Ut}(h:TlL Q d t W v B):((VB t).map B).map Wt=VG t 33:=by
 obtain⟨xs,-,g⟩:=h.ex;refine List.eq_replicate_iff.2 ⟨by simp,λx hx=>?_⟩;simp only[Vn,List.mem_range]at hx;obtain⟨b,⟨j,f,rfl⟩,rfl⟩:=hx;obtain⟨y,-,k,c,-,-,e,-⟩:=g j f;exact e
theorem ElQ.sz{Q:Nat->Prop}{m:Nat}{W:Ut}{x:Uv}(h:ElQ Q m W x b):Wt b=m:=by
 obtain⟨k,c,-,-,d,-⟩:=h;exact d
theorem RgA.good{i:Nat->Bs}{f g:Bs}{W:Ut}(h:RgA j t p i Rb f g e W)(l:t<=6):mL t t (rgB t p i Rb f g):=by
 obtain⟨a,b,c,d,u,m,s,w,r,v,x,-,k,n,hR,q,o⟩:=h.ex;refine⟨rfl,l,?_⟩;unfold rgB;rw[Wx,Wx,Wx,n.sz,hR.sz];simp only[List.map_cons,List.map_nil,k.a.sz,k.b.sz,k.c.sz,k.d.sz,k.e.sz,k.f.sz,k.g.sz,q.sz,o.sz];rfl
theorem RgA.put{n:Nat}{d:Nat->Bs}{k:Bs}{W:Ut}(h:RgA n t p d Rb k b e W)(o:0<t)(r:t<=6):UK prog 13 #[e] W (rZ W λe W'=>∃v,e=.tuple #[v,iZ 0]/\Pt W' v (eW t (rgB t p d Rb k b) (t+t+9))/\∃g c,v=sZ g (Wt (eW t (rgB t p d Rb k b) (t+t+9))) c/\Wt (eW t (rgB t p d Rb k b) (t+t+9))<=c):=by
 have m:=h.good r;obtain⟨q,u,s,A,B,rfl,j,f,-,v1,v2,y,w,x⟩:=h.rg o;refine(OO q W v1 v2 (U2 y) (U2 w) x (by omega) (by omega)).mono ?_;rintro e W' ⟨z,⟨-,v,rfl,i⟩|⟨l,-⟩⟩
 ·rw[j,f]at i;exact⟨_,rfl,z,v,rfl,i⟩
 ·rw[j,f]at l;exact absurd m l
end
section
open Go.RowKit Go.Sort Go.Deep
variable {n:Nat}{BB:List Bs}
theorem Fo(h:mL n n BB)(k:BB[j]? = some b):(hZ n n)[j]? = some (Wt b):=by
 rw[<-h.2.2,Vy,k];rfl
theorem nI(h:mL n n BB):BB.length=n+n+9:=by
 have:=congrArg List.length h.2.2;unfold hZ at this;simp at this;omega
theorem vH(h:mL n n BB):∀i,i<=n+n+9->Wt (eW n BB i)=offs n i
 | 0,_=>rfl
 | i+1,hi=>by
  have b:i<BB.length:=by rw[nI h];omega
  have k:=UI b;rw[lF n BB i _ k,VP,vH h i (by omega),kX n i _ (Fo h k)]
theorem yN(i:Nat):∀m,i+m<=BB.length->∃r,eW n BB (i+m)=eW n BB i++r
 | 0,_=>⟨#[],by simp⟩
 | m+1,hm=>by
  obtain⟨r,k⟩:=yN i m (by omega);have b:=UI (show i+m<BB.length by omega);refine⟨r++BB[i+m],?_⟩;rw[<-WY,lF n BB (i+m) _ b,k,Array.append_assoc]
theorem MX(h:mL n n BB)(k:BB[j]? = some b):chk (eW n BB (n+n+9)) n j=b:=by
 have d:=(UG.1 k).1;rw[nI h]at d;obtain⟨r,c⟩:=yN (n:=n) (BB:=BB) (j+1) (n+n+9-(j+1)) (by rw[nI h];omega);rw[show j+1+(n+n+9-(j+1))=n+n+9 by omega,lF n BB j b k]at c;have s1:=vH h j (by omega);have s2:=kX n j _ (Fo h k);unfold chk;rw[c,s2,<-s1];apply Array.ext
 ·simp
 ·intro i e f;simp[Array.getElem_append]
theorem JZ(h:mL n n BB):(eW n BB (n+n+9))[0]!.toNat=n/\nO (eW n BB (n+n+9)):=by
 have d:=h.2.1;obtain⟨r,b⟩:=yN (n:=n) (BB:=BB) 0 (n+n+9) (by rw[nI h];omega);rw[UF]at b;have k:=vH h (n+n+9) (Uy _);rw[wZ]at k;have c:(eW n BB (n+n+9))[0]!.toNat=n:=by
  rw[b];have:(eW n BB 0++r)[0]! = n.toUInt8:=by
   rw[show eW n BB 0=#[n.toUInt8] from rfl,getElem!_pos _ 0 (by simp;omega),Array.getElem_append_left (by simp)];rfl
  rw[this];exact UU (by omega)
 exact⟨c,by omega,by omega,by rw[c];exact k⟩
end
section
open Go.RowKit Go.Sort Go.Deep
section
variable {P:VD}{ops:Array Vk}{Q:Exit->Act->Ut->Prop}{a0:Act}{F:RG.Flow}{k:Nat}{o:Vk}
theorem M8(T:Vb)(s t:Tmp)(ho:o.op=.slice T (.tmp s) none (some (.tmp t)) none)
 (h:∀(a:Act) (w:Ut),PreF F ops a0 k o a w->∃v1 v2 v,a.eval (.tmp s)=v1/\a.eval (.tmp t)=v2/\(Xw T v1 none (some v2) none).run P w=.ok v w/\F.E k w w/\F.R k v w):bF P Q F ops a0 k o:=
 mG λa w b=>by
  obtain⟨v1,v2,v,d,e,c,hE,hR⟩:=h a w b;refine⟨v,w,?_,hE,hR⟩;unfold U9;rw[ho];dsimp only[yBH];rw[d,e,UW,c];rfl
theorem MZ(T:Vb)(s t:Tmp)(ho:o.op=.slice T (.tmp s) (some (.tmp t)) none none)
 (h:∀(a:Act) (w:Ut),PreF F ops a0 k o a w->∃v1 v2 v,a.eval (.tmp s)=v1/\a.eval (.tmp t)=v2/\(Xw T v1 (some v2) none none).run P w=.ok v w/\F.E k w w/\F.R k v w):bF P Q F ops a0 k o:=
 mG λa w b=>by
  obtain⟨v1,v2,v,d,e,c,hE,hR⟩:=h a w b;refine⟨v,w,?_,hE,hR⟩;unfold U9;rw[ho];dsimp only[yBH];rw[d,e,UW,c];rfl
theorem GV(h:∀(a:Act) (w:Ut),PreF F ops a0 k o a w->∃(b:List (Tmp × Uv)) (f:FuncId) (args:Array Uv),AllE a b/\(dA (b.map (·.1)) o,(U9 (evo (evl b)) o).run P w)=(true,.ok (.enter f args) w)/\UK P f args w (λe w'=>∃v,e=.returned v/\F.E k w w'/\F.R k v w')):bF P Q F ops a0 k o:=by
 intro a w K i l g d;obtain⟨b,f,args,j,c,m⟩:=h a w ⟨i,l,g⟩;simp only[We.injEq]at c;unfold VT;rw[iY (evl b) (b.map (·.1)) c.1 j.ev,c.2,Oper.upon_enter];refine m.mono ?_;rintro e w' ⟨v,rfl,hE,hR⟩;exact d _ _ hE hR
theorem GU(T:Vb)(t u:Tmp)(ho:o.op=.store T (.tmp t) (.tmp u))(hd:o.dst=none)(n:(P.info? T).map (·.size)=some 1)
 (h:∀(a:Act) (w:Ut),PreF F ops a0 k o a w->∃g off v old,a.eval (.tmp t)=oZ g off/\a.eval (.tmp u)=v/\w.cell? ⟨g,off,none⟩=some old/\w.frozen? ⟨g,off,none⟩=false/\v.oneCell'=true/\v.cells=#[v]/\F.E k w (w.setCell ⟨g,off,none⟩ v)/\F.R k WJ (w.setCell ⟨g,off,none⟩ v)):bF P Q F ops a0 k o:=by
 intro a w K i j f c;obtain⟨g,off,v,old,l,b,e3,m,d,e,hE,hR⟩:=h a w ⟨i,j,f⟩;have:=c WJ _ hE hR;unfold VT U9;rw[ho];dsimp only;rw[l,b,UW,wK e3 m d e n];show K (a.put o.dst WJ) _;exact this
end
theorem P5(s:SP.Bs)(k i j:Nat)(c:j<(chk s k i).size)(b:offs k i+j<s.size):(chk s k i)[j]! = s[offs k i+j]!:=by
 rw[getElem!_pos (chk s k i) j c,getElem!_pos s (offs k i+j) b];unfold chk at c⊢;rw[Array.getElem_extract]
theorem IJ{w r W:Ut}{z p d f k:Nat}{vs:List Uv}{CH:Nat->SP.Bs}(h:RdI w r W z p d (sZ i k k) (sZ f k k) (fO d i 0 k f 0 k) vs CH)(F:vs.length=k+k+9):∃cs:List Uv,cs.length=11/\W.rangeAt d 0 cs/\∀v∈cs,v.oneCell'=true:=by
 have B:(fO d i 0 k f 0 k).length=k+k+9:=by
  rw[<-kW k k,<-sJ d i 0 k f 0 k,US]
 have c:∀j,j<k+k+9->∃u,(∀x,(fO d i 0 k f 0 k)[j]? = some x->W.cell? x.1=some u)/\u.oneCell'=true:=λj b=>by
  obtain⟨u,l⟩:∃u,vs[j]? = some u:=⟨_,UI (by omega)⟩
  exact⟨u,λx hx=>h.st j x u hx l,by rcases(h.ow j u l).own.2 with⟨e,-⟩|⟨g,cap,cur,e,-⟩<;>rw[e]<;>rfl⟩
 have two:∀j,j<2->∃u,W.cell? ⟨d,9+j,none⟩=some u/\u.oneCell'=true:=λj b=>by
  obtain⟨u,o,q⟩:=c (7+k+k+j) (by omega);obtain⟨x,hx⟩:∃x,(fO d i 0 k f 0 k)[7+k+k+j]? = some x:=⟨_,UI (by omega)⟩
  rcases dU hx with⟨n,m⟩|⟨n,l,m⟩|⟨n,l,m⟩|⟨n,l,m⟩
  ·omega
  ·omega
  ·omega
  ·have:=o x hx;rw[m,show 7+k+k+j-7-k-k=j by omega]at this;exact⟨u,this,q⟩
 obtain⟨u0,a0,b0⟩:=c 0 (by omega);obtain⟨u1,y,b1⟩:=c 1 (by omega);obtain⟨u2,a2,G⟩:=c 2 (by omega);obtain⟨u3,q,a⟩:=c 3 (by omega);obtain⟨u4,t,A⟩:=c 4 (by omega);obtain⟨u5,s,D⟩:=c 5 (by omega);obtain⟨u6,o,C⟩:=c 6 (by omega);obtain⟨u9,m,E⟩:=two 0 (by omega);obtain⟨u10,l,n⟩:=two 1 (by omega);refine⟨[u0,u1,u2,u3,u4,u5,u6,sZ i k k,sZ f k k,u9,u10],rfl,λj u b=>?_,λv hv=>?_⟩
 ·rw[UF];match j,b with
  | 0,b=>obtain rfl:=UP.inj b;exact a0 _ rfl
  | 1,b=>obtain rfl:=UP.inj b;exact y _ rfl
  | 2,b=>obtain rfl:=UP.inj b;exact a2 _ rfl
  | 3,b=>obtain rfl:=UP.inj b;exact q _ rfl
  | 4,b=>obtain rfl:=UP.inj b;exact t _ rfl
  | 5,b=>obtain rfl:=UP.inj b;exact s _ rfl
  | 6,b=>obtain rfl:=UP.inj b;exact o _ rfl
  | 7,b=>obtain rfl:=UP.inj b;exact h.c7
  | 8,b=>obtain rfl:=UP.inj b;exact h.c8
  | 9,b=>obtain rfl:=UP.inj b;exact m
  | 10,b=>obtain rfl:=UP.inj b;exact l
  | j+11,b=>simp at b
 ·simp only[V0,U1,or_false]at hv;rcases hv with rfl|rfl|rfl|rfl|rfl|rfl|rfl|rfl|rfl|rfl|rfl<;>first|assumption|rfl
end
section
open Go.RowKit Go.Sort Go.Deep
variable {P:Nat}[NeZero P]{N:Nat}
theorem QD:(prog.underlying 110).map (·.isRow)=some false:=by kernel_rfl
theorem Nu:(prog.underlying 3).map (·.isRow)=some false:=by kernel_rfl
theorem i22:(prog.info? 23).map (·.size)=some 1:=by kernel_rfl
theorem Cg{cs:List Uv}(h:∀v∈cs,v.oneCell'=true):cs.toArray.all (·.oneCell')=true:=Go.all_oneCell_toArray h
theorem Av:∀v∈zR,v.oneCell'=true:=λv hv=>by
 rw[(yAT.1 hv).2];rfl
theorem LN(s:SP.Bs)(gi c:Nat)(hs:s.size<=100000)(hc:s.size<=c)(Z:1<c)(w:Ut)(k0:gi<w.heap.size)(hH:Holds SP.encB w gi 0 s):
 UK prog 14 #[sZ gi s.size c] w (RdR w s s[0]!.toNat):=by
 obtain⟨y,J⟩:∃y,Hid (w.alloc (.cells zR.toArray 28)=y):=⟨_,rfl⟩
 have b1:kZ w y:=by rw[<-J.out];exact aO _ _
 have z1:y.heap.size=w.heap.size+1:=by rw[<-J.out,UD]
 have N:y.heap[w.heap.size]? = some (.cells zR.toArray 28 (0,0)):=by rw[<-J.out];exact Xb
 have kl:=Hid.mkP b1;have hl:=Hid.mkP z1;have kc:=Hid.mkP N;have P1:=Hid.mkP (EI (cs:=zR) N rfl b1);have HH:=Hid.mkP hH;obtain⟨n,hn⟩:∃n:Nat,Hid (n=s.size):=⟨_,rfl⟩
 obtain⟨k,hk⟩:∃k:Nat,Hid (k=s[0]!.toNat):=⟨_,rfl⟩
 rw[<-hk.out];rw[<-hn.out]at hs hc⊢;by_cases h0:0<n
 ·have S:=(SP.Holds.below hH b1 k0 0 (by rw[<-hn.out];exact h0)).1;unfold SP.encB SP.ub at S;rw[<-hk.out,UF]at S;obtain⟨m,hm⟩:∃m,n=m+1:=⟨n-1,by omega⟩
  have h4:¬((m:Int)+1=0):=by omega
  have kv:(0:Int)<(m:Int)+1:=by omega
  have ku:((m:Int)+1 == 0)=false:=by simpa using h4
  rw[hm]at hc hs⊢;have Hm:Hid (s.size=m+1):=by rw[<-hn.out,hm];rfl
  by_cases h6:k<=6
  ·have k9:¬(6:Int)<(k:Int):=by omega
   have kk:=yBK (P:=prog) 24 23 (.slice none 0 0) 24 vZ MH rfl .i64 .i64 k (by omega) (by omega);have I:Hid (nO s↔m+1=293+66*k):=by
    show _↔_;unfold nO;rw[<-hk.out,Hm.out];exact⟨λh=>h.2.2,λh=>⟨by omega,h6,h⟩⟩
   clear hm h4 h0 hH b1 N z1;go_enter func14,ntmps14;go_wp2_with (first|(refine aY (v:=jZ w.heap.size) (w':=y) rfl (.alloc 28) rfl ?_ ?_;(rw[<-J.out];kernel_rfl))|fail)
   go_cut [5] (λs5 wx=>∃o z A,s5=jZ o/\Hid (R4 y wx o z A k))
   case first =>
    go_region
    all_goals (try go_wp2)
    all_goals (go_meet;first|(refine⟨_,y.heap.size,y.heap.size+1,rfl,(⟨(three _ _ _ _ _ _ _).1,?_,?_,?_,?_,?_,?_,?_,?_,?_⟩:R4 _ _ _ _ _ _)⟩<;>first|(rw[(three _ _ _ _ _ _ _).2.1];omega)|exact(three _ _ _ _ _ _ _).2.2.1|exact(three _ _ _ _ _ _ _).2.2.2.1|exact(three _ _ _ _ _ _ _).2.2.2.2|omega)|(refine⟨_,y.heap.size,y.heap.size+1+1,rfl,(⟨(three _ _ _ _ _ _ _).1,?_,?_,?_,?_,?_,?_,?_,?_,?_⟩:R4 _ _ _ _ _ _)⟩<;>first|(rw[(three _ _ _ _ _ _ _).2.1];omega)|exact(three _ _ _ _ _ _ _).2.2.1|exact(three _ _ _ _ _ _ _).2.2.2.1|exact(three _ _ _ _ _ _ _).2.2.2.2|omega)|(refine⟨_,y.heap.size+1,y.heap.size,rfl,(⟨(three _ _ _ _ _ _ _).1,?_,?_,?_,?_,?_,?_,?_,?_,?_⟩:R4 _ _ _ _ _ _)⟩<;>first|(rw[(three _ _ _ _ _ _ _).2.1];omega)|exact(three _ _ _ _ _ _ _).2.2.1|exact(three _ _ _ _ _ _ _).2.2.2.1|exact(three _ _ _ _ _ _ _).2.2.2.2|omega)|(refine⟨_,y.heap.size+1,y.heap.size+1+1,rfl,(⟨(three _ _ _ _ _ _ _).1,?_,?_,?_,?_,?_,?_,?_,?_,?_⟩:R4 _ _ _ _ _ _)⟩<;>first|(rw[(three _ _ _ _ _ _ _).2.1];omega)|exact(three _ _ _ _ _ _ _).2.2.1|exact(three _ _ _ _ _ _ _).2.2.2.1|exact(three _ _ _ _ _ _ _).2.2.2.2|omega)|(refine⟨_,y.heap.size+1+1,y.heap.size,rfl,(⟨(three _ _ _ _ _ _ _).1,?_,?_,?_,?_,?_,?_,?_,?_,?_⟩:R4 _ _ _ _ _ _)⟩<;>first|(rw[(three _ _ _ _ _ _ _).2.1];omega)|exact(three _ _ _ _ _ _ _).2.2.1|exact(three _ _ _ _ _ _ _).2.2.2.1|exact(three _ _ _ _ _ _ _).2.2.2.2|omega)|(refine⟨_,y.heap.size+1+1,y.heap.size+1,rfl,(⟨(three _ _ _ _ _ _ _).1,?_,?_,?_,?_,?_,?_,?_,?_,?_⟩:R4 _ _ _ _ _ _)⟩<;>first|(rw[(three _ _ _ _ _ _ _).2.1];omega)|exact(three _ _ _ _ _ _ _).2.2.1|exact(three _ _ _ _ _ _ _).2.2.2.1|exact(three _ _ _ _ _ _ _).2.2.2.2|omega))
   case rest =>
    obtain⟨o,z,A,rfl,H4⟩:=hcut;have c7:wc.cell? ⟨o,7,none⟩=some (sZ z k k):=by unfold V1;rw[H4.out.hp];rfl
    have c8:wc.cell? ⟨o,8,none⟩=some (sZ A k k):=by unfold V1;rw[H4.out.hp];rfl
    have hq:=Hid.mkP (zP o ⟨some (aZ z),k,k⟩ ⟨some (aZ A),k,k⟩ z 0 A 0 wc H4.out.p1.2 c7 c8 (U2 rfl) (U2 rfl) (by show k<=_;omega) (by show k<=_;omega));have km:¬c=1:=by omega
    have kh:¬c-1=0:=by omega
    have kr:(1:Int)<=(m:Int)+1:=by omega
    have kb:(m:Int)+1<=(c:Int):=by omega
    clear c7 c8 S;go_wp2_with fail
    refine hq.out.mono ?_;rintro e w3 ⟨v3,rfl,g3⟩;obtain⟨T,he,rfl,ko,kg⟩:=g3.lt;have h8:=IK (CH:=chk s k) H4.out kl.out (by have:=hl.out;omega) g3;have Q:=Hid.mkP h8.1;have I0:=Hid.mkP h8.2;have hM:(fO o z 0 k A 0 k).length=k+k+9:=by
     rw[<-kW k k,<-sJ o z 0 k A 0 k,US]
    have h7:(tD o++lp z 0 k++lp A 0 k++endP o).length=k+k+9:=hM;have hu:Hid (∀W v,RdI w w3 W w.heap.size T o (sZ z k k) (sZ A k k) (fO o z 0 k A 0 k) v (chk s k)->∀i,i<k+k+9->∃t D f,(hZ k k)[i]? = some f/\(fO o z 0 k A 0 k)[i]? = some (⟨t,D,none⟩,f)/\f<=33/\32<=f/\W.rangeAt T (i*2) [oZ t D,iZ f]):=λW v G i hi=>by
     obtain⟨x,hx⟩:∃x,(fO o z 0 k A 0 k)[i]? = some x:=⟨_,UI (by omega)⟩
     obtain⟨t,D,l,-⟩:=Q.out.ad i x hx;have R:(hZ k k)[i]? = some x.2:=by rw[<-sJ o z 0 k A 0 k,Vy,hx];rfl
     have d:=VQ R;have r:=g3.at i x hx;refine⟨t,D,x.2,R,by rw[hx,<-l],EP k k _ d,?_,λj u hj=>?_⟩
     ·unfold hZ at d;simp only[List.mem_append,V0,U1,or_false,yAT]at d;omega
     ·have e:=G.eq;have:W.cell? ⟨T,i*2+j,none⟩=w3.cell? ⟨T,i*2+j,none⟩:=by unfold V1;rw[e]
      rw[this,Vv];exact r j u (by unfold pC;rw[l];exact hj)
    have h9:Hid (w3.heap[w.heap.size]? = some (.cells zR.toArray 28 (0,0))):=by
     have:=hl.out;have d:=H4.out.bl.size;show _=_;rw[g3.bl.block w.heap.size (by omega),H4.out.bl.block w.heap.size (by omega)];exact kc.out
    obtain⟨M,U⟩:∃M,Hid (k+k+9=M):=⟨_,rfl⟩
    rw[U.out]at hu h7;rw[h7];have ky:M<=21:=by have:=U.out;omega
    obtain⟨dP,hy,hr⟩:=UA.1 QE;obtain⟨C1,ht⟩:∃C1,c-1=C1:=⟨_,rfl⟩
    rw[ht];have ka:1+C1=c:=by omega
    clear g3 hM h7 h8 hq ko kg kk ht km kh kr kb;go_wp2;go_loopg [0,32] M (λgk s0 s32 wr=>∃(i off ad L C:Nat),i+gk=M/\s32=iZ i/\s0=.slice (some ⟨gi,ad,none⟩) L C/\off+L=m+1/\off+C=c/\Hid (0<C->ad=off)/\Hid (off=offs k i/\∃vs,vs.length=i/\RdI w w3 wr w.heap.size T o (sZ z k k) (sZ A k k) (fO o z 0 k A 0 k) vs (chk s k)))
    case atStart=>exact⟨0,1,1,m,C1,by omega,rfl,rfl,by omega,ka,λ_=>rfl,rfl,[],rfl,I0.out⟩
    case round =>
     clear I0;obtain⟨i,off,ad,L,C,hi,rfl,rfl,b3,b5,kj,K⟩:=hrel;by_cases k6:i<M
     ·have k5:(i:Int)<(M:Int):=by omega
      have b4:=NN T M he i k6;obtain⟨B,vs,F,G⟩:=K.out;obtain⟨t,D,f,k1,k2,k3,kz,k4⟩:=hu.out _ _ G i k6;have K4:=Hid.mkP k4;obtain⟨l,H⟩:∃l,Hid (wr.alloc (.cells #[oZ t D,iZ f] 112)=l):=⟨_,rfl⟩
      have ba:kZ wr l:=by rw[<-H.out];exact aO _ _
      have za:l.heap.size=wr.heap.size+1:=by rw[<-H.out,UD]
      have a0:l.cell? ⟨wr.heap.size,0,none⟩=some (oZ t D):=by rw[<-H.out];exact cZ wr _ _ 0 _ rfl
      have a1:l.cell? ⟨wr.heap.size,1,none⟩=some (iZ f):=by rw[<-H.out];exact cZ wr _ _ 1 _ rfl
      have X:Hid (RdI w w3 l w.heap.size T o (sZ z k k) (sZ A k k) (fO o z 0 k A 0 k) vs (chk s k)):=G.below Q.out ba;have E:Hid (off=offs k i/\(hZ k k)[i]? = some f/\(fO o z 0 k A 0 k)[vs.length]? = some (⟨t,D,none⟩,f)/\vs.length=i/\t<wr.heap.size/\l.heap.size=wr.heap.size+1):=by
       refine⟨B,k1,by rw[F];exact k2,F,?_,za⟩;obtain⟨d,r,e',p1,-⟩:=Q.out.ad i _ k2;injection e' with e' _ _
       have:=G.sz;omega
      clear K k4 k2 k1 G ba za B F;by_cases kx:L<f
      ·have k7:(L:Int)<(f:Int):=by omega
       have O:=Hid.mkP (EI (cs:=zR) (by rw[X.out.er];exact h9.out) rfl X.out.bl);have r:¬nO s:=λh=>by
        have S:=I.out.1 h;have V:=My k (i+1);rw[Ce,kX k i f E.out.2.1]at V;have:=E.out.1;omega
       go_wp2_with (first|(refine U8 rfl 112 _ rfl T (i*2) ?_ [oZ t D,iZ f] dP ?_ ?_ ?_ ?_ ?_;rfl;exact K4.out;exact hy;exact hr;exact iPt;skip)|(refine U3 rfl 28 _ _ rfl w.heap.size 0 zR.toArray ?_ ?_ ?_ ?_ ?_ ?_;rfl;rfl;(rw[H.out];exact O.out.1);exact iRg;exact Cg Av;rw[show zR.toArray.toList=zR from rfl,H.out])|fail)
       refine UH (fZ 2 3 28 rfl O.out.2.1 rfl rfl uRg iRg) rfl ?_;exact U6 ⟨r,O.out.2.2,rfl⟩
      ·have k7:¬(L:Int)<(f:Int):=by omega
       obtain rfl:ad=off:=kj.out (by omega);go_wp2_with (first|(refine U8 rfl 112 _ rfl T (i*2) ?_ [oZ t D,iZ f] dP ?_ ?_ ?_ ?_ ?_;rfl;exact K4.out;exact hy;exact hr;exact iPt;skip)|fail)
       rw[H.out];have R:(chk s k i).size=f:=by
        unfold chk;rw[kX k i f E.out.2.1,Array.size_extract,Hm.out];have:=E.out.1;omega
       have HX:Hid (∀W,kZ l W->Holds SP.encB W gi ad (chk s k i)):=λW Y j hj=>by
        have k8:kZ w W:=X.out.bl.trans (Y.mono X.out.bl.size);have d:ad+j<s.size:=by rw[Hm.out];omega
        have S:=(SP.Holds.below HH.out k8 k0) (ad+j) d;rw[UF]at S;have e:(chk s k i)[j]! = s[ad+j]!:=by
         rw[E.out.1];exact P5 s k i j hj (by rw[<-E.out.1];exact d)
        rw[e];exact S
       have kt:=LK gi ad L C f (by omega);obtain⟨nx,ha,kp⟩:=LJ gi ad L C f (by omega) (by omega);have kf:=Hid.mkP ha;clear ha;have hz:=Hid.mkP R;clear R;refine qF (FR l wr.heap.size t D f gi ad L C nx (chk s k i)) (by kernel_rfl) ⟨by kernel_rfl,CG ?_,λi j _ _ kd _ _ v w w' hE hR=>FR.stab (by have:=E.out.2.2.2.2;omega) i j kd v w w' hE hR,λi b _ hk w w' hE hB=>FR.stabB (by have:=E.out.2.2.2.2;omega) i b hk w w' hE hB⟩ (λb=>by
        match b with
        | 0=>exact(⟨rfl,rfl,rfl,Uy _,λ_ _=>rfl⟩:kZ l l.drew)
        | _+1=>exact⟨a0,a1,by have:=E.out.2.2.2.2;omega,Uy _⟩) ?_
       ·exact⟨lD λa W d=>⟨[(7,jZ wr.heap.size)],_,W,⟨d.o 7 (by kernel_rfl),yCm⟩,by kernel_rfl,UT _ _,rfl⟩,
         D7 110 42 rfl QD λa W d=>⟨wr.heap.size,0,oZ t D,d.n 0 42 (by kernel_rfl) (by kernel_rfl) (by kernel_rfl),(d.b 1 (by kernel_rfl)).1,UT _ _,rfl⟩,
         lD λa W d=>⟨[(0,.slice (some ⟨gi,ad,none⟩) L C)],_,W,⟨d.o 0 (by kernel_rfl),yCm⟩,by kernel_rfl,UT _ _,rfl⟩,
         lD λa W d=>⟨[(7,jZ wr.heap.size)],_,W,⟨d.o 7 (by kernel_rfl),yCm⟩,by kernel_rfl,UT _ _,rfl⟩,
         D7 3 45 rfl Nu λa W d=>⟨wr.heap.size,1,iZ f,d.n 3 45 (by kernel_rfl) (by kernel_rfl) (by kernel_rfl),(d.b 1 (by kernel_rfl)).2.1,UT _ _,rfl⟩,
         M8 23 44 46 rfl λa W d=>⟨_,_,_,d.n 2 44 (by kernel_rfl) (by kernel_rfl) (by kernel_rfl),d.n 4 46 (by kernel_rfl) (by kernel_rfl) (by kernel_rfl),kt W,UT _ _,rfl⟩,
         GV λa W d=>⟨[(47,.slice (some ⟨gi,ad,none⟩) f C)],56,#[.slice (some ⟨gi,ad,none⟩) f C],⟨d.n 5 47 (by kernel_rfl) (by kernel_rfl) (by kernel_rfl),yCm⟩,by kernel_rfl,by
          have Y:kZ l W:=d.b 0 (by kernel_rfl);have hc:=JS gi ad C (chk s k i) (by rw[hz.out];omega) W (by have S:=X.out.bl.size;have V:=Y.size;omega) (HX.out W Y);rw[hz.out]at hc;refine hc.mono ?_;rintro e' W' ⟨v,rfl,S,V⟩;refine⟨v,rfl,S,?_⟩;have h3:=Y.size;refine(⟨?_,V.nn⟩:FrC l.heap.size (chk s k i) v W');rcases V.own with⟨x0,x1|⟨g,cap,cur,x1,x2,x3⟩⟩
          ·exact⟨x0,U6 x1⟩
          ·exact⟨x0,U2 ⟨g,cap,cur,x1,by omega,x3⟩⟩⟩,
         lD λa W d=>⟨[(0,.slice (some ⟨gi,ad,none⟩) L C)],_,W,⟨d.o 0 (by kernel_rfl),yCm⟩,by kernel_rfl,UT _ _,rfl⟩,
         lD λa W d=>⟨[(7,jZ wr.heap.size)],_,W,⟨d.o 7 (by kernel_rfl),yCm⟩,by kernel_rfl,UT _ _,rfl⟩,
         D7 3 50 rfl Nu λa W d=>⟨wr.heap.size,1,iZ f,d.n 8 50 (by kernel_rfl) (by kernel_rfl) (by kernel_rfl),(d.b 1 (by kernel_rfl)).2.1,UT _ _,rfl⟩,
         MZ 23 49 51 rfl λa W d=>⟨_,_,_,d.n 7 49 (by kernel_rfl) (by kernel_rfl) (by kernel_rfl),d.n 9 51 (by kernel_rfl) (by kernel_rfl) (by kernel_rfl),kp W,UT _ _,rfl⟩,
         lD λa W d=>⟨[(43,oZ t D)],_,W,⟨d.n 1 43 (by kernel_rfl) (by kernel_rfl) (by kernel_rfl),yCm⟩,by kernel_rfl,UT _ _,rfl⟩,
         GU 23 53 48 rfl rfl i22 λa W d=>by
          have Y:kZ l W:=d.b 0 (by kernel_rfl);have hF:FrC l.heap.size (chk s k i) (a.eval (.tmp 48)) W:=d.n 6 48 (by kernel_rfl) (by kernel_rfl) (by kernel_rfl);obtain⟨⟨old,ke⟩,kn⟩:=X.out.th _ _ E.out.2.2.1;have V:t<l.heap.size:=by have:=E.out.2.2.2.2;omega
          obtain⟨q,c',hv⟩:=GE hF.own;refine⟨t,D,_,old,d.n 11 53 (by kernel_rfl) (by kernel_rfl) (by kernel_rfl),rfl,?_,?_,by rw[hv];rfl,by rw[hv];rfl,⟨_,rfl⟩,?_⟩
          ·rw[Y.cell (p:=⟨t,D,none⟩) V];exact ke
          ·have:W.frozen? ⟨t,D,none⟩=l.frozen? ⟨t,D,none⟩:=by unfold Xe;rw[Y.block t V]
           rw[this];exact kn
          ·refine(⟨_,G9 Y _ _,⟨bZ hF.own (λg hg=>?_),hF.nn⟩⟩:StR l t D (chk s k i) _);have:=(jI hF.own hg).1;rw[heap_set,yCl (by show t≠g;omega)],
         mH 52 λa W d=>⟨a.eval (.tmp 52),W,by kernel_rfl,by kernel_rfl,UT _ _,d.n 10 52 (by kernel_rfl) (by kernel_rfl) (by kernel_rfl)⟩,yCm⟩
       ·intro V w5 hV hB;have hS:StR l t D (chk s k i) w5:=hV 12 (Xt (VX (by kernel_rfl))) rfl;have d:V 13=.slice (some ⟨gi,nx,none⟩) (L-f) (C-f):=hV 13 (Xt (VX (by kernel_rfl))) rfl;obtain⟨v,hw⟩:=X.out.step Q.out E.out.2.2.1 (by rw[E.out.2.2.2.1];exact hS);have K5:Hid (ad+f=offs k (i+1)/\∃vs,vs.length=i+1/\RdI w w3 w5 w.heap.size T o (sZ z k k) (sZ A k k) (fO o z 0 k A 0 k) vs (chk s k)):=by
         refine⟨by rw[kX k i f E.out.2.1,E.out.1],_,?_,hw⟩;rw[UB,E.out.2.2.2.1];rfl
        dsimp only[bU,Nat.reduceAdd];simp only[UR,Uu,Uw,Ux];rw[d];clear hV hB hS d hw X E HX;go_wp2;go_roundg (gk-1)
        case measure=>omega
        case rel=>exact⟨i+1,ad+f,nx,L-f,C-f,by omega,rfl,rfl,by omega,by omega,kf,K5⟩
     ·have k5:¬(i:Int)<(M:Int):=by omega
      obtain⟨B,vs,F,G⟩:=K.out;have kw:off=293+66*k:=by
       rw[B,show i=k+k+9 by have:=U.out;omega];exact wZ k
      have X:=Hid.mkP G;by_cases b2:0<L
      ·have d:(0:Int)<(L:Int):=by omega
       have O:=Hid.mkP (EI (cs:=zR) (by rw[G.er];exact h9.out) rfl G.bl);have r:¬nO s:=λh=>by
        have S:=I.out.1 h;omega
       clear K G B F;go_wp2_with (first|(refine U3 rfl 28 _ _ rfl w.heap.size 0 zR.toArray ?_ ?_ ?_ ?_ ?_ ?_;rfl;rfl;exact O.out.1;exact iRg;exact Cg Av;rw[show zR.toArray.toList=zR from rfl])|fail)
       refine UH (fZ 2 3 28 rfl O.out.2.1 rfl rfl uRg iRg) rfl ?_;exact U6 ⟨r,O.out.2.2,rfl⟩
      ·obtain rfl:L=0:=by omega
       have H:nO s:=I.out.2 (by omega);obtain⟨cs,l,E,Z⟩:=IJ G (by rw[F];have:=U.out;omega);have O:=Hid.mkP (EI (cs:=cs) (by rw[G.er];exact h9.out) l G.bl);have HC:=Hid.mkP E;have Y:=Hid.mkP Z;have d:=Hid.mkP l;have KR:Hid (RdR w s k (.returned (.tuple #[.agg cs.toArray,iZ 0])) (wr.setCells w.heap.size 0 cs)):=U2 ⟨H,O.out.2.2,w3,wr,T,o,z,A,vs,cs,by rw[F];have:=U.out;omega,Q.out,G,l,E,rfl,rfl⟩;obtain⟨dR,V,R⟩:=UA.1 uRg;clear K G B F E Z X;go_wp2_with (first|(refine U8 rfl 28 _ rfl o 0 ?_ cs dR ?_ ?_ ?_ ?_ ?_;rfl;exact HC.out;exact V;exact R;(rw[d.out];exact iRg);skip)|(refine U3 rfl 28 _ _ rfl w.heap.size 0 cs.toArray ?_ ?_ ?_ ?_ ?_ ?_;rfl;rfl;exact O.out.1;(rw[List.size_toArray,d.out];exact iRg);exact Cg Y.out;rw[show cs.toArray.toList=cs from rfl])|fail)
       refine UH (fZ 2 3 28 rfl O.out.2.1 rfl rfl uRg (by rw[d.out];exact iRg)) rfl ?_;exact KR.out
  ·have k9:(6:Int)<(k:Int):=by omega
   have r:¬nO s:=λh=>h6 (by rw[hk.out];exact h.2.1)
   clear hm h4 h0 hH b1 N z1;go_enter func14,ntmps14;go_wp2_with (first|(refine aY (v:=jZ w.heap.size) (w':=y) rfl (.alloc 28) rfl ?_ ?_;(rw[<-J.out];kernel_rfl))|(refine U3 rfl 28 _ _ rfl w.heap.size 0 zR.toArray ?_ ?_ ?_ ?_ ?_ ?_;rfl;rfl;exact P1.out.1;exact iRg;exact Cg Av;rw[show zR.toArray.toList=zR from rfl])|fail)
   refine UH (fZ 2 3 28 rfl P1.out.2.1 rfl rfl uRg iRg) rfl ?_;exact U6 ⟨r,P1.out.2.2,rfl⟩
 ·have d:n=0:=by omega
  have r:¬nO s:=λh=>h0 (by rw[hn.out];exact h.1)
  subst d;clear h0 hH b1 N z1;go_enter func14,ntmps14;go_wp2_with (first|(refine aY (v:=jZ w.heap.size) (w':=y) rfl (.alloc 28) rfl ?_ ?_;(rw[<-J.out];kernel_rfl))|(refine U3 rfl 28 _ _ rfl w.heap.size 0 zR.toArray ?_ ?_ ?_ ?_ ?_ ?_;rfl;rfl;exact P1.out.1;exact iRg;exact Cg Av;rw[show zR.toArray.toList=zR from rfl])|fail)
  refine UH (fZ 2 3 28 rfl P1.out.2.1 rfl rfl uRg iRg) rfl ?_;exact U6 ⟨r,P1.out.2.2,rfl⟩
def RdG(w:Ut)(s:SP.Bs)(k:Nat)(e:Ending)(W:Ut):Prop:=kZ w W/\∃(p:Rg) (d c:List Uv) (B:Nat),e=.returned (.tuple #[.agg p.cs.toArray,iZ 0])/\VL W p.l.q p.l.n d/\VL W p.r.q p.r.n c/\p.l.n=k/\p.r.n=k/\(∀b o,p.l.q=some ⟨b,o,none⟩->0<k->w.heap.size<=b)/\(∀b o,p.r.q=some ⟨b,o,none⟩->0<k->w.heap.size<=b)/\w.heap.size<=B/\B<=W.heap.size/\(∀j,j<k+k+9->∃u,(qX p d c)[j]? = some u/\FrC B (chk s k j) u W)/\(∀(j f:Nat) u i g,j<f->(qX p d c)[j]? = some u->(qX p d c)[f]? = some i->u.ownBlock=some g->i.ownBlock≠some g)
theorem JY{W:Ut}{g:Nat}(h:W'.heap[g]? = W.heap[g]?)(j:Nat):W'.cell? ⟨g,j,none⟩=W.cell? ⟨g,j,none⟩/\W'.frozen? ⟨g,j,none⟩=W.frozen? ⟨g,j,none⟩:=by
 unfold V1 Xe;rw[h];exact⟨rfl,rfl⟩
theorem Ii{k:Nat}(vs:List Uv)(h:vs.length=k+k+9):∃hd d c b,vs=hd++d++c++b/\hd.length=7/\d.length=k/\c.length=k/\b.length=2:=by
 refine⟨vs.take 7,(vs.drop 7).take k,((vs.drop 7).drop k).take k,((vs.drop 7).drop k).drop k,?_,?_,?_,?_,?_⟩
 ·rw[VC,Zj,VC,Zj,Zj]
 all_goals (simp only[WN,List.length_drop];omega)
theorem len2:∀(l:List Uv),l.length=2->∃b k,l=[b,k]
 | [b,k],_=>⟨b,k,rfl⟩
theorem TU:∀(l:List Uv),l.length=7->∃f b e k d c g,l=[f,b,e,k,d,c,g]
 | [f,b,e,k,d,c,g],_=>⟨f,b,e,k,d,c,g,rfl⟩
theorem RN:∀(l:List Uv),l.length=11->∃m c j b i g n d f e k,l=[m,c,j,b,i,g,n,d,f,e,k]
 | [m,c,j,b,i,g,n,d,f,e,k],_=>⟨m,c,j,b,i,g,n,d,f,e,k,rfl⟩
theorem II{w W:Ut}{s:SP.Bs}{k:Nat}{e:Ending}(h:RdR w s k e W)(R:nO s):RdG w s k e W:=by
 rcases h with⟨h,-⟩|⟨-,hb,w3,p,gq,E,G,H,vs,cs,hl,P,A,hc,hr,rfl,rfl⟩
 ·exact absurd R h
 have hz:=P.r;have h3:=A.sz;have Y:∀b,b<p.heap.size->b≠w.heap.size->(p.setCells w.heap.size 0 cs).heap[b]? = p.heap[b]?:=λb F N=>yAb p _ 0 cs F N
 have hM:(fO E G 0 k H 0 k).length=k+k+9:=by rw[<-kW k k,<-sJ E G 0 k H 0 k,US]
 have v:∀(j:Nat) u,vs[j]? = some u->∃x,(fO E G 0 k H 0 k)[j]? = some x/\p.cell? x.1=some u:=λj u l=>by
  obtain⟨x,hx⟩:∃x,(fO E G 0 k H 0 k)[j]? = some x:=⟨_,UI (by have:=(UG.1 l).1;omega)⟩
  exact⟨x,hx,A.st j x u hx l⟩
 have O:∀(j:Nat) u,vs[j]? = some u->∃t:Sv,u=t.v:=λj u l=>by
  obtain⟨q,c,hv⟩:∃q c,u=.slice q (Wt (chk s k j)) c:=by
   rcases(A.ow j u l).own with⟨-,⟨rfl,i⟩|⟨g,cap,cur,rfl,-⟩⟩
   ·exact⟨none,0,by rw[i]⟩
   ·exact⟨_,_,rfl⟩
  exact⟨⟨q,_,c⟩,hv⟩
 have hF:∀(j:Nat) u,vs[j]? = some u->FrC w3.heap.size (chk s k j) u (p.setCells w.heap.size 0 cs):=λj u l=>by
  have F:=A.ow j u l;exact⟨bZ F.own (λg R=>Y g (jI F.own R).2.1 (by have:=(jI F.own R).1;omega)),F.nn⟩
 have T:=A.ne;have h4:p.heap.size<=(p.setCells w.heap.size 0 cs).heap.size:=(below_setCells (B:=0) (b:=w.heap.size) (Wz _) cs 0 p (UT 0 p)).size;have J:∀(g U:Nat) (ys:List Uv),ys.length=k->(∀j,j<k->∃u x,ys[j]? = some u/\vs[U+j]? = some u/\(fO E G 0 k H 0 k)[U+j]? = some x/\x.1=⟨g,j,none⟩)->VL (p.setCells w.heap.size 0 cs) (some (aZ g)) k ys/\(0<k->w.heap.size<=g):=λg U ys hn S=>by
  refine⟨⟨hn,λe=>(by cases e),?_,λu l=>?_⟩,λL=>?_⟩
  ·by_cases L:k=0
   ·exact U6 (List.length_eq_zero_iff.1 (by omega))
   ·obtain⟨u0,D,-,-,m,z⟩:=S 0 (by omega);obtain⟨b,o,i,F,-,-,N,-⟩:=P.ad _ D m;rw[z]at i;injection i with i _ _
    subst i;refine U2 ⟨g,0,rfl,by omega,λj u r=>?_⟩;obtain⟨Q,M,n,C,I,K⟩:=S j (by have:=(UG.1 r).1;omega);rw[r]at n;obtain rfl:=UP.inj n;rw[UF,(JY (Y g (by omega) N) j).1,<-K];exact A.st _ M u I C
  ·obtain⟨j,r⟩:=List.getElem?_of_mem l;obtain⟨Q,M,n,C,-⟩:=S j (by have:=(UG.1 r).1;omega);rw[r]at n;obtain rfl:=UP.inj n;obtain⟨t,rfl⟩:=O _ u C;rfl
  ·obtain⟨u0,D,-,-,m,z⟩:=S 0 L;obtain⟨b,o,i,F,N,-⟩:=P.ad _ D m;rw[z]at i;injection i with i _ _
   subst i;exact N
 obtain⟨hd,D,C,K,rfl,Q,V,n3,n4⟩:=Ii vs hl;have X:=J G 7 D V (λj r=>by
  obtain⟨u,l⟩:∃u,D[j]? = some u:=⟨_,UI (by omega)⟩
  have hv:(hd++D++C++K)[7+j]? = some u:=by
   rw[VC,VC,U4 (by omega),Q,WH,UX (by omega)];exact l
  obtain⟨x,hx,-⟩:=v _ u hv;refine⟨u,x,l,hv,hx,?_⟩;rcases dU hx with⟨n,m⟩|⟨n,i,m⟩|⟨n,i,m⟩|⟨n,i,m⟩
  ·omega
  ·rw[m,WH];congr 1;omega
  ·omega
  ·omega)
 have Z:=J H (7+k) C n3 (λj r=>by
  obtain⟨u,l⟩:∃u,C[j]? = some u:=⟨_,UI (by omega)⟩
  have hv:(hd++D++C++K)[7+k+j]? = some u:=by
   rw[VC,U4 (by rw[UB];omega),UB,Q,V,WH,UX (by omega)];exact l
  obtain⟨x,hx,-⟩:=v _ u hv;refine⟨u,x,l,hv,hx,?_⟩;rcases dU hx with⟨n,m⟩|⟨n,i,m⟩|⟨n,i,m⟩|⟨n,i,m⟩
  ·omega
  ·omega
  ·rw[m];congr 1;omega
  ·omega)
 have hT:∀j,j<2->∀u,K[j]? = some u->p.cell? ⟨E,9+j,none⟩=some u/\∃t:Sv,u=t.v:=λj r u l=>by
  have hv:(hd++D++C++K)[7+k+k+j]? = some u:=by
   rw[U4 (by rw[UB,UB];omega),UB,UB,Q,V,n3,WH];exact l
  refine⟨?_,O _ u hv⟩;obtain⟨x,hx,z⟩:=v _ u hv;rcases dU hx with⟨n,m⟩|⟨n,i,m⟩|⟨n,i,m⟩|⟨n,i,m⟩
  ·omega
  ·omega
  ·omega
  ·rw[m,show 7+k+k+j-7-k-k=j by omega]at z;exact z
 have I:∀j,j<7->∀u,hd[j]? = some u->p.cell? ⟨E,j,none⟩=some u/\∃t:Sv,u=t.v:=λj r u l=>by
  have hv:(hd++D++C++K)[j]? = some u:=by
   rw[VC,VC,UX (by omega)];exact l
  refine⟨?_,O _ u hv⟩;obtain⟨x,hx,z⟩:=v _ u hv;rcases dU hx with⟨n,m⟩|⟨n,i,m⟩|⟨n,i,m⟩|⟨n,i,m⟩
  ·rw[m]at z;exact z
  ·omega
  ·omega
  ·omega
 have i:∀j u,cs[j]? = some u->p.cell? ⟨E,j,none⟩=some u:=λj u r=>by
  have:=hr j u r;rw[UF]at this;exact this
 have c7:=A.c7;have c8:=A.c8;clear v J A P hr O;obtain⟨v0,v1,v2,v3,v4,v5,v6,rfl⟩:=TU hd Q;obtain⟨x,y,rfl⟩:=len2 K n4;obtain⟨z0,z1,z2,z3,z4,z5,z6,z7,z8,z9,m,rfl⟩:=RN cs hc;obtain⟨q0,a,rfl⟩:=I 0 (by omega) v0 rfl;obtain⟨q1,b,rfl⟩:=I 1 (by omega) v1 rfl;obtain⟨q2,c,rfl⟩:=I 2 (by omega) v2 rfl;obtain⟨q3,d,rfl⟩:=I 3 (by omega) v3 rfl;obtain⟨q4,e,rfl⟩:=I 4 (by omega) v4 rfl;obtain⟨q5,f,rfl⟩:=I 5 (by omega) v5 rfl;obtain⟨q6,g,rfl⟩:=I 6 (by omega) v6 rfl;obtain⟨q9,M,rfl⟩:=hT 0 (by omega) x rfl;obtain⟨n,z,rfl⟩:=hT 1 (by omega) y rfl;obtain rfl:=UP.inj ((i 0 z0 rfl).symm.trans q0);obtain rfl:=UP.inj ((i 1 z1 rfl).symm.trans q1);obtain rfl:=UP.inj ((i 2 z2 rfl).symm.trans q2);obtain rfl:=UP.inj ((i 3 z3 rfl).symm.trans q3);obtain rfl:=UP.inj ((i 4 z4 rfl).symm.trans q4);obtain rfl:=UP.inj ((i 5 z5 rfl).symm.trans q5);obtain rfl:=UP.inj ((i 6 z6 rfl).symm.trans q6);obtain rfl:=UP.inj ((i 7 z7 rfl).symm.trans c7);obtain rfl:=UP.inj ((i 8 z8 rfl).symm.trans c8);obtain rfl:=UP.inj ((i 9 z9 rfl).symm.trans q9);obtain rfl:=UP.inj ((i 10 m rfl).symm.trans n);refine⟨hb,⟨a,b,c,d,e,f,g,⟨some (aZ G),k,k⟩,⟨some (aZ H),k,k⟩,M,z⟩,D,C,w3.heap.size,rfl,X.1,Z.1,rfl,rfl,λb o e L=>by injection e with e;injection e with e _ _;subst e;exact X.2 L,λb o e L=>by injection e with e;injection e with e _ _;subst e;exact Z.2 L,by omega,by omega,λj r=>?_,T⟩;obtain⟨u,l⟩:∃u,([a.v,b.v,c.v,d.v,e.v,f.v,g.v]++D++C++[M.v,z.v])[j]? = some u:=⟨_,UI (by omega)⟩
 exact⟨u,l,hF j u l⟩
theorem Mo{W:Ut}{B:Nat}{u:Uv}{b:SP.Bs}(h:W.ownsRow B 5 1 u b.size (bC b)):Pt W u b:=by
 rcases id h with⟨-,⟨rfl,k⟩|⟨g,cap,cur,rfl,-⟩⟩
 ·exact⟨none,0,by rw[k],U6 k⟩
 ·exact⟨some (aZ g),cap,rfl,U2 ⟨g,0,rfl,(jI h rfl).2.1,DC h⟩⟩
theorem CS(p:Rg)(c b:List Uv)(k:Nat)(i:c.length=k)(l:b.length=k)(j:Nat)(m:j<k+k+9):(p.all c b)[j]? = (qX p c b)[if j<k+k+2 then 7+j else j-(k+k+2)]?:=by
 have g:p.all c b=(c++b++[p.x.v,p.y.v])++[p.a.v,p.b.v,p.c.v,p.d.v,p.e.v,p.f.v,p.g.v]:=rfl;have f:qX p c b=[p.a.v,p.b.v,p.c.v,p.d.v,p.e.v,p.f.v,p.g.v]++(c++b++[p.x.v,p.y.v]):=by unfold qX;simp only[VC]
 have d:(c++b++[p.x.v,p.y.v]).length=k+k+2:=by rw[UB,UB,i,l];rfl
 rw[g,f];have e:[p.a.v,p.b.v,p.c.v,p.d.v,p.e.v,p.f.v,p.g.v].length=7:=rfl;generalize c++b++[p.x.v,p.y.v]=M at d;generalize [p.a.v,p.b.v,p.c.v,p.d.v,p.e.v,p.f.v,p.g.v]=H at e;split
 ·rw[UX (by omega),U4 (by omega),e,WH]
 ·rw[U4 (by omega),UX (by omega),d]
structure RdB(t:Nat)(BB:List SP.Bs)(e:Uv)(W:Ut):Prop where
 ex:∃(p:Rg) (l1 l2:List Uv),e=.agg p.cs.toArray/\VL W p.l.q p.l.n l1/\VL W p.r.q p.r.n l2/\p.l.n=t/\p.r.n=t/\∀j,j<t+t+9->∃u b,(qX p l1 l2)[j]? = some u/\BB[j]? = some b/\Pt W u b
theorem IH{BB:List SP.Bs}(k:mL t t BB)(W:Ut)(g c:Nat)(i:Pt W (sZ g (Wt (eW t BB (t+t+9))) c) (eW t BB (t+t+9)))(n:Wt (eW t BB (t+t+9))<=c):UK prog 14 #[sZ g (Wt (eW t BB (t+t+9))) c] W (rZ W λe W'=>∃e',e=.tuple #[e',iZ 0]/\RdB t BB e' W'):=by
 have F:=k.2.1;have H:=nI k;have d:=vH k (t+t+9) (Uy _);rw[wZ]at d;obtain⟨f,hG⟩:=JZ k;have l:∀j b,BB[j]? = some b->chk (eW t BB (t+t+9)) t j=b:=λj b=>MX k
 generalize eW t BB (t+t+9)=s at d f hG l i n;obtain⟨q,I,e,h|⟨G,o,v,a,r⟩⟩:=i
 ·omega
 injection e with e1 e2 e3
 rw[v]at e1;injection e1 with e1
 injection e1 with e1 e4 e5
 subst e1 e4;have:=LN s g c (by omega) n (by omega) W a r;rw[f]at this;refine this.mono λe W' h=>?_
 obtain⟨A,p,z,y,B,rfl,v1,v2,x,D,-,-,-,-,E,-⟩:=II h hG;refine⟨_,rfl,A,_,rfl,⟨p,z,y,rfl,v1,v2,x,D,λj w=>?_⟩⟩;obtain⟨u,C,hf⟩:=E j w;have m:BB[j]? = some BB[j]:=UI (by omega);refine⟨u,_,C,m,?_⟩;have:=Mo hf.own;rw[l j _ m]at this;exact this
theorem RgA.same{C:Nat}{B Rb:Nat->SP.Bs}{o u:SP.Bs}{e':Uv}{W:Ut}(h:RgA C t p B Rb o u e W)(D:0<t)(J:t<=6)(G:RdB t (rgB t p B Rb o u) e' W):UK prog 7 #[e,e'] W (Ret λe W'=>e=.bool true/\kZ W W'):=by
 obtain⟨q,c,k,K,M,rfl,x,n,-,v1,v2,N,L,r⟩:=h.rg D;obtain⟨y,f,g,rfl,w,s,E,H,I⟩:=G.ex;refine(BQ q y W v1 v2 w s (by omega) (by omega) (by omega) (by omega) λj m=>?_).mono ?_
 ·rw[x,n]at m;rw[CS q c k t (by rw[v1.len,x]) (by rw[v2.len,n]) j m,CS y f g t (by rw[w.len,E]) (by rw[s.len,H]) j m];obtain⟨i,z⟩:∃i,(if j<t+t+2 then 7+j else j-(t+t+2))=i:=⟨_,rfl⟩
  have l:i<t+t+9:=by
   rw[<-z];split<;>omega
  rw[z];obtain⟨v,b,hv,d,pv⟩:=I i l;have F:i<(qX q c k).length:=by rw[<-r.1];exact(UG.1 d).1
  have a:=UI F;exact⟨_,v,b,a,hv,r.2 i _ b a d,pv⟩
 ·rintro e W' ⟨rfl,d⟩;exact⟨_,rfl,rfl,d⟩
end
section
open Go.RowKit Go.Sort Go.Deep SPA
variable {P:Nat}[NeZero P]{N:Nat}
theorem Ag{P:VD}(w:Ut)(i sT m c:Vb)(b o k d:Nat)(t:ByteArray)(q:P.underlying i=some (.slice c))(l:∀w,(Go.sizeOf c).run P w=.ok 1 w)
 (n:∀j,j<k->(w.cell? ⟨b,o+j,none⟩).isSome=true) (hf:∀j,j<k->w.frozen? ⟨b,o+j,none⟩=false) :
 (Ya #[i,sT] m #[.slice (some ⟨b,o,none⟩) k d,.string t]).run P w=.ok (goInt (XV t.size k)) (w.setCells b o ((t.data.toList.take k).map λx=>V2 .u8 (x.toNat:Int))):=by
 by_cases f:t.size<=k
 ·rw[run_copy_string w i sT m c b o k d t q l f (λj e=>n j (by omega)) (λj e=>hf j (by omega)),show XV t.size k=t.size from yBw f,Zi (by rw[<-yB3];exact f)]
 ·have e:XV t.size k=k:=Nat.min_eq_right (by omega);have p:((t.data.toList.take k).map λx=>V2 .u8 (x.toNat:Int)).length=k:=by rw[US,WN,<-yB3];omega
  have g:=run_storeCells_cells (P:=P) b o ((t.data.toList.take k).map λx=>V2 .u8 (x.toNat:Int)) 0 w (by rw[p];simpa using n) (by rw[p];simpa using hf) (by
   intro v hv;obtain⟨x,_,rfl⟩:=Vn.1 hv;rfl)
  rw[e];simp[Ya,run_underlying q,Builtin.lenOf,Builtin.firstCells,l,e];rw[List.map_take]at g;rw[g];rfl
def fnB(f:Nat->UInt8):Bs:=Array.ofFn (n:=32) λi=>f i.val
theorem bJ(f:Nat->UInt8):(fnB f).size=32:=by unfold fnB;simp
theorem gC(f:Nat->UInt8)(j:Nat)(k:j<32):(fnB f)[j]! = f j:=by
 rw[getElem!_pos (fnB f) j (by rw[bJ];exact k)];unfold fnB;simp
def nm1(s:ByteArray)(j:Nat):UInt8:=if 2<=j/\j<30 then s.data.toList.getD (j-2) 0 else 0
def nm2(s:ByteArray)(n j:Nat):UInt8:=if j=30 then UQ n else nm1 s j
def nm3(s:ByteArray)(n j:Nat):UInt8:=if j=31 then UQ s.size else nm2 s n j
def nmB(s:ByteArray)(n:Nat):Bs:=fnB (nm3 s n)
theorem Qc(r:List UInt8)(h:r.length=30):beV (0 :: 0 :: r)<2^240:=by
 have e:beV (0 :: 0 :: r)=beV r:=rfl;rw[e];have:=Ei r;rw[h]at this;exact Uz this (by decide)
theorem O8(s:ByteArray)(n:Nat):beV (nmB s n).toList<2^240:=by
 have e:(nmB s n).toList=nm3 s n 0 :: nm3 s n 1 :: List.ofFn (n:=30) λi=>nm3 s n (i.val+2):=by
  unfold nmB fnB;rw[ZE,yBx,yBx];rfl
 have b:nm3 s n 0=0:=rfl;have k:nm3 s n 1=0:=rfl;rw[e,b,k];exact Qc _ (by simp)
theorem iU8:(prog.info? 5).map (·.size)=some 1:=by kernel_rfl
theorem Rl(s:ByteArray)(n:Nat)(w:Ut):UK prog 10 #[.string s,iZ n] w (rZ w λe w'=>ElQ (w.heap.size<=·) 32 w' e (nmB s n)):=by
 have v:=yBK (P:=prog) 23 5 (.int .u8 0) 1 SP.slice22 SP.info5 rfl .i64 .i64 32 (by omega) (by omega) w;have f:Holds encB (w.alloc (.cells (madeCells #[.int .u8 0] 32) 5)) w.heap.size 0 (UM 32 0):=SP.Holds.made (enc:=encB) w 5 32 0;obtain⟨k,r⟩:∃k,Hid (w.heap.size=k):=⟨_,rfl⟩
 have m:w.heap.size<(w.alloc (.cells (madeCells #[.int .u8 0] 32) 5)).heap.size:=by rw[UD];exact XZ _
 obtain⟨z,d⟩:∃W,Hid (w.alloc (.cells (madeCells #[.int .u8 0] 32) 5)=W):=⟨_,rfl⟩
 have b1:kZ w z:=by rw[<-d.out];exact aC _ _
 have C:(Instr.makeSlice 23 (iZ 32) (iZ 32)).run prog w=.ok (sZ k 32 32) z:=by rw[<-d.out,<-r.out];exact v
 rw[d.out,r.out]at f;rw[d.out,r.out]at m;clear v;have B:=Ag (P:=prog) z 23 9 3 5 k 2 28 30 s SP.slice22 SP.size5
  (λj b=>by rw[<-UF (2+j),(f (2+j) (by rw[UO];omega)).1];rfl) (λj b=>by rw[<-UF (2+j)];exact(f (2+j) (by rw[UO];omega)).2)
 obtain⟨A,g⟩:∃W,Hid (z.setCells k 2 ((s.data.toList.take 28).map λx=>V2 .u8 (x.toNat:Int))=W):=⟨_,rfl⟩
 have q:Holds encB A k 0 (fnB (nm1 s)):=by
  rw[<-g.out];refine SP.Holds.setCells (o:=0) (p:=2) f _ (by rw[bJ,UO]) (by rw[US,WN,UO];omega) (λj b=>?_) (λj b c=>?_)
  ·rw[US,WN]at b;rw[gC _ _ (by omega),Xi,yA1];unfold nm1;rw[yCk (by omega),WH,VW,UI (by omega)];rfl
  ·rw[UO]at b;rw[US,WN]at c;rw[gC _ _ b,SP.rep_at 32 j b];unfold nm1;split
   ·rw[VW,WE (by omega)];rfl
   ·rfl
 obtain⟨a,l⟩:∃W,Hid (A.setCells k 30 [.int .u8 (XF.wrap (n:Int))]=W):=⟨_,rfl⟩
 have t:Holds encB a k 0 (fnB (nm2 s n)):=by
  rw[<-l.out];refine SP.Holds.setCells (o:=0) (p:=30) q _ (by rw[bJ,bJ]) (by rw[bJ];exact VX rfl) (λj b=>?_) (λj b c=>?_)
  ·have:j=0:=by simpa using b
   subst this;rw[gC _ _ (by decide),Ho];rfl
  ·rw[bJ]at b;rw[gC _ _ b,gC _ _ b];unfold nm2;rw[yCl (by simp at c;omega)]
 obtain⟨u,i⟩:∃W,Hid (a.setCells k 31 [.int .u8 (XF.wrap (s.size:Int))]=W):=⟨_,rfl⟩
 have y:Holds encB u k 0 (nmB s n):=by
  rw[<-i.out];refine SP.Holds.setCells (o:=0) (p:=31) t _ (by rw[show nmB s n=fnB (nm3 s n) from rfl,bJ,bJ]) (by rw[bJ];exact VX rfl) (λj b=>?_) (λj b c=>?_)
  ·have:j=0:=by simpa using b
   subst this;rw[show nmB s n=fnB (nm3 s n) from rfl,gC _ _ (by decide),Ho];rfl
  ·rw[bJ]at b;rw[show nmB s n=fnB (nm3 s n) from rfl,gC _ _ b,gC _ _ b];unfold nm3;rw[yCl (by simp at c;omega)]
 have D:kZ w u:=by
  rw[<-i.out,<-l.out,<-g.out];exact RG.below_setCells (by rw[r.out];exact Uy _) _ _ _ (RG.below_setCells (by rw[r.out];exact Uy _) _ _ _ (RG.below_setCells (by rw[r.out];exact Uy _) _ _ _ b1))
 have sz:k<u.heap.size:=by rw[<-i.out,<-l.out,<-g.out,setCells_size,setCells_size,setCells_size];exact m
 rw[g.out]at B;have T3:Hid (A.there k 30 1/\a.there k 31 1):=⟨λj b=>by
  have c:j=0:=by omega
  subst c;have:=q 30 (by rw[bJ];decide);exact⟨by rw[show(30+0:Nat)=0+30 from rfl,this.1];rfl,this.2⟩,λj b=>by
  have c:j=0:=by omega
  subst c;have:=t 31 (by rw[bJ];decide);exact⟨by rw[show(31+0:Nat)=0+31 from rfl,this.1];rfl,this.2⟩⟩
 have c:Hid (kZ w u/\ElQ (w.heap.size<=·) 32 u (sZ k 32 32) (nmB s n)):=⟨D,k,32,rfl,Uy _,bJ _,Nat.le_of_eq r.out,sz,y⟩
 clear f q t y D sz m b1 d g;go_enter func10,ntmps10;go_wp2_with (first|(refine fW rfl 5 (.tmp 14) _ rfl k 30 (.int .u8 (XF.wrap (n:Int))) ?_ ?_ rfl rfl T3.out.1 iU8 ?_;rfl;rfl;rw[l.out])|(refine fW rfl 5 (.tmp 19) _ rfl k 31 (.int .u8 (XF.wrap (s.size:Int))) ?_ ?_ rfl rfl T3.out.2 iU8 ?_;rfl;rfl;rw[i.out])|fail)
 go_ret;exact⟨_,rfl,c.out.1,c.out.2⟩
theorem ME(x n:Nat)(hx:x<18446744073709551616)(b:n<64):(Xg 64 (x:Int) &&& Xg 64 ((2^n-1:Nat):Int)).toNat=x%2^n:=by
 have k:2^n-1<2^64:=Uz (Nat.sub_lt (Nat.two_pow_pos n) (by decide)) (VN (by decide) (by omega));rw[Zm,Zm,BitVec.toNat_and,YP,YP,UU (show x<2^64 from hx),UU k,Nat.and_two_pow_sub_one_eq_mod]
def vbF(v i j:Nat):UInt8:=if 31-j<i then UQ (v/2^(8*(31-j))) else 0
theorem Qx(v:Nat)(hv:v<18446744073709551616):fnB (vbF v 8)=bx v:=by
 apply yBV;unfold bx;rw[An,UU hv,XA hv,XA (show v<340282366920938463463374607431768211456 by omega),XA (show v<6277101735386680763835789423207666416102355444464034512896 by omega)];have e:UQ v=UQ (v/1):=by rw[Nat.div_one]
 rw[e];unfold fnB;rw[ZE];rfl
theorem Lc(v:Nat):fnB (vbF v 0)=UM 32 0:=by
 apply yBV;unfold fnB;rw[ZE];rfl
theorem Ld{W:Ut}{k v:Nat}(e:i<8)(h:Holds encB W k 0 (fnB (vbF v i))):Holds encB (W.setCells k (31-i) [.int .u8 (XF.wrap ((v/2^(8*i):Nat):Int))]) k 0 (fnB (vbF v (i+1))):=by
 rw[show 31-i=0+(31-i) by omega];refine SP.Holds.setCells (o:=0) (p:=31-i) h _ (by rw[bJ,bJ]) (by rw[bJ];simp only[Vg,WO];omega) (λj d=>?_) (λj d c=>?_)
 ·have:j=0:=by simpa using d
  subst this;rw[gC _ _ (by omega),Ho];unfold vbF;rw[yCk (by omega),show 31-(31-i+0)=i by omega];rfl
 ·rw[bJ]at d;rw[gC _ _ d,gC _ _ d];simp only[Vg,WO]at c;unfold vbF;by_cases b:31-j<i
  ·rw[yCk b,yCk (by omega)]
  ·rw[yCl b,yCl (by omega)]
theorem Rm{N:Nat}(O:Ord N)(f:2^240<=N)(s:ByteArray)(n:Nat):∃k:Fin N,nmB s n=bx k.val:=by
 have c:=Uz (O8 s n) f;have e:(nmB s n).size=32:=bJ _;generalize nmB s n=b at c e;obtain⟨m,d⟩:∃m,beV b.toList=m:=⟨_,rfl⟩
 rw[d]at c;exact⟨⟨m,c⟩,(SG e (Uz c O.le) d).symm⟩
theorem wd4(z:Int)(k:¬z<0):∃t:Nat,3<=t/\t<=6/\(z%4).toNat=t-3/\wrap64 (8*2^(z%4).toNat)=((2^t:Nat):Int):=by
 refine⟨(z%4).toNat+3,by omega,by omega,by omega,?_⟩;have:(z%4).toNat<4:=by omega
 generalize (z%4).toNat=t at this;match t,this with
 | 0,_=>decide +kernel
 | 1,_=>decide +kernel
 | 2,_=>decide +kernel
 | 3,_=>decide +kernel
 | n+4,h=>omega
def sdF(s:ByteArray)(j:Nat):UInt8:=s.data.toList.getD j 0
theorem sd_holds{W:Ut}{k:Nat}(s:ByteArray)(h:Holds encB W k 0 (UM 32 0)):Holds encB (W.setCells k 0 ((s.data.toList.take 32).map λx=>V2 .u8 (x.toNat:Int))) k 0 (fnB (sdF s)):=by
 refine SP.Holds.setCells (o:=0) (p:=0) h _ (by rw[bJ,UO]) (by rw[US,WN,UO];omega) (λj c=>?_) (λj c b=>?_)
 ·rw[US,WN]at c;rw[gC _ _ (by omega),Xi,yA1];unfold sdF;rw[UF,VW,UI (by omega)];rfl
 ·rw[UO]at c;rw[US,WN]at b;rw[gC _ _ c,SP.rep_at 32 j c];unfold sdF;rw[VW,WE (by omega)];rfl
def TrK(b:Bs)(m:List UInt8)(n t x:Nat):Prop:=∃(V:Bs) (f:Rp) (l Rb:Nat->Bs) (d j:Bs),
 (∀(v0 v1:Uv) (W:Ut),Arg W v0 (bx x)->Arg W v1 b->UK prog 11 #[v0,v1] W (rZ W λe W'=>∃g c,e=.tuple #[sZ g 33 c,iZ 0]/\Arg33 W' (sZ g 33 c) V)) /\
 (∀(i:Option Wv) (sc:Nat) (v1:Uv) (w:Ut),Arg w v1 b->PartOk w (.slice i 32 sc) m->UK prog 5 #[uZ x,v1,iZ n,.slice i 32 sc] w (rZ w λe w'=>∃e' k,e=.tuple #[e',iZ 0]/\w.heap.size<=k/\RgA k t f l Rb d j e' w')) /\
 ∀(k:Nat) (e v0:Uv) (w:Ut),Arg33 w v0 V->RgA k t f l Rb d j e w->UK prog 12 #[v0,iZ n,e] w (rZ w λe w'=>e=.bool true)
theorem SA{P:Nat}[NeZero P]{N:Nat}(C:Fld P)(O:Ord N){n m:Nat}{k:Bs}(f:rq N b=some n)(l:rq N k=some m)(v0 v1:Uv)(W:Ut)(a0:Arg W v0 b)(j:Arg W v1 k):UK prog 11 #[v0,v1] W (rZ W λe W'=>∃g c,e=.tuple #[sZ g 33 c,iZ 0]/\Arg33 W' (sZ g 33 c) (wr (cmt P n m))):=by
 refine(C3 C O.gap O.le v0 v1 b k W a0 j).mono ?_;rintro e W' ⟨v,rfl,o,hR⟩;unfold Bu at hR;rw[f,l]at hR;obtain⟨g,c,rfl,d,q,i,p⟩:=hR;exact⟨_,rfl,o,g,c,rfl,some (aZ g),33,c,rfl,aT _,λ_=>⟨g,0,rfl,d,i,p⟩⟩
theorem trk{P:Nat}[NeZero P]{N:Nat}[NeZero N](C:Fld P)(O:Ord N)(b:∀r:EC.Pt P,On r->mul N r=none)(j:IsP N)(i:2^240<=N)(s:ByteArray)(g:List UInt8){n:Nat}(e:Wd n t)(x:Nat)(hx:x<2^n):TrK (nmB s 0) g n t x:=by
 have c:18446744073709551616<=N:=UE (by decide) i;have f:n<=64:=by rw[e.1];exact UE (VN (by decide) e.2.2) (by decide)
 have d:x<18446744073709551616:=Uz hx (UE (VN (by decide) f) (by decide));obtain⟨k,p⟩:=Rm O i s 0;rw[p];obtain⟨V,o,a,Rb,l,u,z,m,w⟩:=Lz C O b j c e x hx k g;have q:(ofF N x).val=x:=UU (Uz d c);have y:wr (cmt P x k.val)=V:=by rw[z,<-yB C b (ofF N x) k,q]
 refine⟨V,o,a,Rb,l,u,λv0 v1 W a0 v=>?_,m,w⟩;rw[<-y];exact SA C O (kL O (Uz d c)) (kL O k.isLt) v0 v1 W a0 v
end
section
open Go.RowKit Go.Sort Go.Deep SPA
section
variable {P:VD}{Q:Exit->Act->Ut->Prop}{a:Act}{w:Ut}{c y:Code}
theorem Hp(C:Int->Prop)(h:c.wp P (λe b w'=>e=.normal/\w'=w/\∃z p q r,C z/\b=(((a.put (some 26) p).put (some 27) q).put (some 28) r).put (some 1) (iZ z)) a w)(k:∀z p q r,C z->y.wp P Q ((((a.put (some 26) p).put (some 27) q).put (some 28) r).put (some 1) (iZ z)) w):c.wp P (Exit.then (y.wp P Q) Q) a w:=
 wp_mono h λe b w' ⟨g,f,z,p,q,r,d,i⟩=>by
  subst g f i;exact k z p q r d
theorem Hq(C:Nat->Prop)(h:c.wp P (λe b w'=>e=.normal/\w'=w/\∃x p q r s u,C x/\b=(((((a.put (some 34) p).put (some 35) q).put (some 36) r).put (some 37) s).put (some 38) u).put (some 0) (uZ ((x:Nat):Int))) a w)(k:∀x p q r s u,C x->y.wp P Q ((((((a.put (some 34) p).put (some 35) q).put (some 36) r).put (some 37) s).put (some 38) u).put (some 0) (uZ ((x:Nat):Int))) w):c.wp P (Exit.then (y.wp P Q) Q) a w:=
 wp_mono h λe b w' ⟨g,f,x,p,q,r,s,u,d,i⟩=>by
  subst g f i;exact k x p q r s u d
theorem Ht(C:Nat->Prop)(h:c.wp P (λe b w'=>e=.normal/\w'=w/\∃n p q r,C n/\b=(((a.put (some 29) p).put (some 30) q).put (some 31) r).put (some 9) (iZ ((n:Nat):Int))) a w)(k:∀n p q r,C n->y.wp P Q ((((a.put (some 29) p).put (some 30) q).put (some 31) r).put (some 9) (iZ ((n:Nat):Int))) w):c.wp P (Exit.then (y.wp P Q) Q) a w:=
 wp_mono h λe b w' ⟨g,f,z,p,q,r,d,i⟩=>by
  subst g f i;exact k z p q r d
theorem wL(x n:Nat)(hx:x<18446744073709551616)(k:n<64):(yCb .and .u64 (x:Int) ((2^n-1:Nat):Int)).run P w=.ok (uZ ((x%2^n:Nat):Int)) w:=by
 have e:yCb .and .u64 (x:Int) ((2^n-1:Nat):Int)=pure (uZ (Vw.wrap ((Xg 64 (x:Int) &&& Xg 64 ((2^n-1:Nat):Int)).toNat:Int))):=rfl;rw[e,ME x n hx k,wrapN _ (Nat.lt_of_le_of_lt (Nat.mod_le _ _) hx)];rfl
end
theorem RdB.below{BB:List Bs}{W:Ut}(h:RdB t BB e W)(k:kZ W W'):RdB t BB e W':=by
 obtain⟨p,l,i,n,v1,v2,g,o,q⟩:=h.ex;refine⟨p,l,i,n,v1.below k,v2.below k,g,o,λj f=>?_⟩;obtain⟨u,b,d,m,c⟩:=q j f;exact⟨u,b,d,m,c.below k⟩
theorem RdB.cl{BB:List Bs}{W:Ut}(h:RdB t BB e W):∃cs:List Uv,Hid (.agg cs.toArray=e)/\cs.length=11/\cs.toArray.all (·.oneCell')=true:=by
 obtain⟨p,b,k,rfl,-⟩:=h.ex;exact⟨p.cs,rfl,rfl,by simp only[XP,Rg.cs,rgC,Sv.v,ZC,ZR];rfl⟩
theorem RgA.cl{b:Nat}{l:Nat->Bs}{k i:Bs}{W:Ut}(h:RgA b t p l Rb k i e W)(d:0<t):∃cs:List Uv,Hid (.agg cs.toArray=e)/\cs.length=11/\cs.toArray.all (·.oneCell')=true/\∃q c,cs[0]? = some (.slice q 33 c):=by
 obtain⟨q,g,f,m,n,rfl,-,-,j,-⟩:=h.rg d;exact⟨q.cs,rfl,rfl,by simp only[XP,Rg.cs,rgC,Sv.v,ZC,ZR];rfl,q.a.q,q.a.c,by rw[<-j];rfl⟩
theorem LP{P:VD}{w:Ut}(x m:Nat)(k:m<=64):(Op.shift .shr .u64 (x:Int) .i64 (m:Int)).run P w=.ok (uZ ((x/2^m:Nat):Int)) w:=by
 have e:(x:Int).fdiv (2^min (m:Int).toNat 64)=((x/2^m:Nat):Int):=by
  rw[Int.toNat_natCast,yBw k,Int.fdiv_eq_ediv_of_nonneg _ (Int.pow_nonneg (by decide))];simp
 unfold Op.shift;rw[yCl (by omega)];show(pure (uZ ((x:Int).fdiv (2^min (m:Int).toNat 64))):Sem Uv).run P w=_;rw[e];rfl
theorem TW(k j:Nat)(c:j<32)(w:Ut):(Vj 23 (sZ k 32 32) (iZ j)).run prog w=.ok (oZ k j) w:=by
 have d:¬(j:Int)<0:=by omega
 have b:(j:Int)<32:=by omega
 go_simp
theorem uSb:(prog.underlying 23).map (·.isRow)=some false:=kR
theorem Ox(s sd:ByteArray)(l:Nat)(y:l<18446744073709551616)(z0:Int)(ka:-9223372036854775808<=z0)(h7:z0<=9223372036854775807)(w:Ut)(hK:∀n t x,Wd n t->x<2^n->TrK (nmB s 0) (fnB (sdF sd)).toList n t x):
 UK prog 4 #[uZ l,iZ z0,.string s,.string sd] w (rZ w λe w'=>e=.bool true):=by
 have HK:=mk1 hK;clear hK;go_enter func4,ntmps4;refine UC ?_;refine PW.begin ?_;refine PW.va (.bool false) ?_;refine PW.dn ?_;refine UC ?_;refine UC ?_;refine PW.begin ?_;refine PW.mv ?_;refine PW.va (.bool (decide (z0<0))) ?_;refine PW.dn ?_;refine Hp (λz=>¬z<0/\z<=9223372036854775807) ?_ ?_
 ·by_cases hz:z0<0
  ·rw[decide_eq_true hz];go_wp2;omega
  ·rw[decide_eq_false hz];go_wp2
 clear ka h7;rintro z kp kt ko ⟨hz,h7⟩;simp only[UR,Uu,Uw,Ux];obtain⟨t,k6,C,-,h9⟩:=wd4 z hz;have hw:Wd (2^t) t:=⟨rfl,k6,C⟩
 obtain⟨n,hn⟩:=hE (2^t);rw[hn.out]at h9 hw;refine UC ?_;refine Ht (λm=>m=n) ?_ ?_
 ·go_wp2
 clear h9 hz h7;intro m km kg kd hm;rw[hm];clear hm m;simp only[UR,Uu,Uw,Ux];refine UC ?_;refine UC ?_;refine PW.begin ?_;refine PW.mv ?_;refine PW.va (.bool (decide ((n:Int)<64))) ?_;refine PW.dn ?_;refine Hq (λx=>x<2^n) ?_ ?_
 ·rcases(show t=3\/t=4\/t=5\/t=6 by omega)with rfl|rfl|rfl|rfl
  ·obtain rfl:n=8:=hn.out.symm;refine VH rfl ?_;refine PW.begin ?_;refine PW.mv ?_;refine PW.mv ?_;refine PW.va (uZ 256) ?_;refine PW.va (uZ 255) ?_;refine PW.ns (wL l 8 y (by decide)) ?_;refine PW.va (uZ ((l%2^8:Nat):Int)) ?_;refine PW.dn ?_;exact⟨rfl,rfl,l%2^8,_,_,_,_,_,V6 _ (by decide),rfl⟩
  ·obtain rfl:n=16:=hn.out.symm;refine VH rfl ?_;refine PW.begin ?_;refine PW.mv ?_;refine PW.mv ?_;refine PW.va (uZ 65536) ?_;refine PW.va (uZ 65535) ?_;refine PW.ns (wL l 16 y (by decide)) ?_;refine PW.va (uZ ((l%2^16:Nat):Int)) ?_;refine PW.dn ?_;exact⟨rfl,rfl,l%2^16,_,_,_,_,_,V6 _ (by decide),rfl⟩
  ·obtain rfl:n=32:=hn.out.symm;refine VH rfl ?_;refine PW.begin ?_;refine PW.mv ?_;refine PW.mv ?_;refine PW.va (uZ 4294967296) ?_;refine PW.va (uZ 4294967295) ?_;refine PW.ns (wL l 32 y (by decide)) ?_;refine PW.va (uZ ((l%2^32:Nat):Int)) ?_;refine PW.dn ?_;exact⟨rfl,rfl,l%2^32,_,_,_,_,_,V6 _ (by decide),rfl⟩
  ·obtain rfl:n=64:=hn.out.symm;refine VJ rfl ?_;refine WQ ?_;exact⟨rfl,rfl,l,_,_,_,_,_,y,rfl⟩
 clear y hn;intro x kn ke kh kf kk hx;simp only[UR,Uu,Uw,Ux];have ha:n<=64:=by rw[hw.1];exact UE (VN (by decide) hw.2.2) (by decide)
 have k7:x<18446744073709551616:=Uz hx (UE (VN (by decide) ha) (by decide));obtain⟨V,pz,Lb,Rb,Ab,Bb,hC,hP,hV⟩:=HK.out n t x hw hx;have HC:=mk3 hC hP hV;clear hC hP hV HK hx hw ha;refine UC ?_;refine PW.begin ?_;refine PW.mv ?_;refine PW.ca (Rl s 0 w) ?_;rintro x1 o ⟨h6,hk⟩;simp only[UR,Uu,Uw,Ux];refine PW.va x1 ?_;refine PW.dn ?_;refine hG o.heap.size λp f=>?_
 refine hG (o.alloc (.cells (madeCells #[.int .u8 0] 32) 5)) λW2 hr=>?_
 have m2:=Rz o;have g:Holds encB (o.alloc (.cells (madeCells #[.int .u8 0] 32) 5)) o.heap.size 0 (UM 32 0):=SP.Holds.made (enc:=encB) o 5 32 0;have b2:=aC o (.cells (madeCells #[.int .u8 0] 32) 5);have s2:o.heap.size<(o.alloc (.cells (madeCells #[.int .u8 0] 32) 5)).heap.size:=by rw[UD];exact XZ _
 rw[hr.out]at m2 g b2 s2;rw[f.out]at m2 g;refine UC ?_;refine PW.begin ?_;refine PW.ns m2 ?_;refine PW.va (sZ p 32 32) ?_;refine PW.dn ?_;clear m2;have cp:=Ag (P:=prog) W2 23 9 3 5 p 0 32 32 sd SP.slice22 SP.size5 (λj hj=>by rw[(g j (by rw[UO];exact hj)).1];rfl) (λj hj=>(g j (by rw[UO];exact hj)).2);have h4:=sd_holds sd g;refine hG (W2.setCells p 0 ((sd.data.toList.take 32).map λx=>V2 .u8 (x.toNat:Int))) λb H=>?_
 have b3:kZ o b:=by rw[<-H.out];exact RG.below_setCells (by rw[f.out];exact Uy _) _ _ _ b2
 have s3:p<b.heap.size:=by rw[<-H.out,setCells_size,<-f.out];exact s2
 rw[H.out]at cp h4;refine UC ?_;refine PW.begin ?_;refine PW.mv ?_;refine PW.mv ?_;refine PW.ns cp ?_;refine PW.dn ?_;clear cp g;have aK:=hk.argS.below b3;have pK:=qW h4 (bJ _);have hp:=h6.trans (b3.mono h6.size);have A3:=mk3 aK pK hp;clear aK pK hp hk h6 b2 b3 s2 s3 h4 f hr H;refine hG b.heap.size λk q=>?_
 refine hG (b.alloc (.cells (madeCells #[.int .u8 0] 32) 5)) λW4 hb=>?_
 have m4:=Rz b;have a:Holds encB (b.alloc (.cells (madeCells #[.int .u8 0] 32) 5)) b.heap.size 0 (UM 32 0):=SP.Holds.made (enc:=encB) b 5 32 0;have b4:=aC b (.cells (madeCells #[.int .u8 0] 32) 5);have s4:b.heap.size<(b.alloc (.cells (madeCells #[.int .u8 0] 32) 5)).heap.size:=by rw[UD];exact XZ _
 rw[hb.out]at m4 a b4 s4;rw[q.out]at m4 a;refine UC ?_;refine PW.begin ?_;refine PW.ns m4 ?_;refine PW.va (sZ k 32 32) ?_;refine PW.dn ?_;have K0:Hid (kZ b W4/\k<W4.heap.size/\Holds encB W4 k 0 (fnB (vbF x 0))):=⟨b4,by rw[<-q.out];exact s4,by rw[Lc];exact a⟩
 clear m4 a b4 s4 hb;refine UC ?_;refine UC ?_;refine PW.begin ?_;refine PW.va (iZ 0) ?_;refine PW.dn ?_;refine wp_block ?_;go_loopg [13] 8 (λgk s13 wr=>∃i:Nat,i+gk=8/\s13=iZ i/\Hid (kZ b wr/\k<wr.heap.size/\Holds encB wr k 0 (fnB (vbF x i))))
 case atStart=>exact⟨0,by omega,rfl,K0⟩
 case round =>
  clear K0;obtain⟨i,k8,rfl,W⟩:=hrel;by_cases hi:i<8
  ·have E:(i:Int)<8:=by omega
   have u:VY.wrap (31-(i:Int))=((31-i:Nat):Int):=by rw[Yp];omega
   have A:VY.wrap (8*(i:Int))=((8*i:Nat):Int):=by rw[Yp];omega
   have v:VY.wrap ((i:Int)+1)=((i+1:Nat):Int):=by rw[Yp];omega
   have r:=TW k (31-i) (by omega) wr;have d:=LP (P:=prog) (w:=wr) x (8*i) (by omega);have th:wr.there k (31-i) 1:=λj hj=>by
    obtain rfl:j=0:=by omega
    have:=W.out.2.2 (31-i) (by rw[bJ];omega);rw[UF]at this;exact⟨by rw[Xm,this.1];rfl,this.2⟩
   refine hG (wr.setCells k (31-i) [.int .u8 (XF.wrap ((x/2^(8*i):Nat):Int))]) λB c=>?_
   have D:Hid (kZ b B/\k<B.heap.size/\Holds encB B k 0 (fnB (vbF x (i+1)))):=by
    rw[<-c.out];exact⟨RG.below_setCells (by rw[q.out];exact Uy _) _ _ _ W.out.1,by rw[setCells_size];exact W.out.2.1,Ld hi W.out.2.2⟩
   clear W;refine UC ?_;refine UC ?_;refine PW.begin ?_;refine PW.mv ?_;refine PW.va (.bool (decide ((i:Int)<8))) ?_;rw[decide_eq_true E];refine PW.dn ?_;refine VH rfl ?_;refine WQ ?_;refine UC ?_;refine wp_block ?_;refine PW.begin ?_;refine PW.mv ?_;refine PW.mv ?_;refine PW.va (iZ (VY.wrap (31-(i:Int)))) ?_;rw[u];refine PW.mv ?_;refine PW.mv ?_;refine PW.va (iZ (VY.wrap (8*(i:Int)))) ?_;rw[A];refine PW.ns d ?_;refine PW.va (.int .u8 (XF.wrap ((x/2^(8*i):Nat):Int))) ?_;refine PW.ns r ?_;refine fW rfl 5 _ _ rfl k (31-i) (.int .u8 (XF.wrap ((x/2^(8*i):Nat):Int))) rfl rfl rfl rfl th iU8 ?_;rw[c.out];refine PW.dn ?_;refine PW.begin ?_;refine PW.mv ?_;refine PW.va (iZ (VY.wrap ((i:Int)+1))) ?_;rw[v];go_wp2;go_roundg (gk-1)
   case measure=>omega
   case rel=>exact⟨i+1,by omega,rfl,D⟩
  ·have E:¬(i:Int)<8:=by omega
   refine UC ?_;refine UC ?_;refine PW.begin ?_;refine PW.mv ?_;refine PW.va (.bool (decide ((i:Int)<8))) ?_;rw[decide_eq_false E];refine PW.dn ?_;refine VJ rfl ?_;refine wp_exit ?_;have h0:0<t:=by omega
   have O:Hid (Arg wr (sZ k 32 32) (bx x)/\Arg wr x1 (nmB s 0)/\PartOk wr (sZ p 32 32) (fnB (sdF sd)).toList/\kZ w wr):=by
    obtain⟨c,r,d⟩:=W.out;rw[show i=8 by omega,Qx x k7]at d;exact⟨⟨_,32,32,rfl,eE _,λ_=>⟨k,0,rfl,Uy _,r,d⟩⟩,A3.out.1.below c,A3.out.2.1.below c,A3.out.2.2.trans (c.mono A3.out.2.2.size)⟩
   clear W A3 k8 hi E;refine UC (P:=prog) ?_;refine PW.begin ?_;refine PW.mv ?_;refine PW.mv ?_;refine PW.ca (HC.out.1 _ _ wr O.out.1 O.out.2.1) ?_;rintro e W6 ⟨G,ht,hg,rfl,hu⟩;simp only[UR,Uu,Uw,Ux];refine PW.mv ?_;refine PW.va (sZ ht 33 hg) ?_;refine PW.va (iZ 0) ?_;refine PW.va (sZ ht 33 hg) ?_;refine PW.va (iZ 0) ?_;refine PW.dn ?_;have A6:=mk3 (O.out.2.1.below G) (O.out.2.2.1.below G) (O.out.2.2.2.trans (G.mono O.out.2.2.2.size));clear O;refine UC ?_;refine PW.begin ?_;refine PW.mv ?_;refine PW.mv ?_;refine PW.mv ?_;refine PW.mv ?_;refine PW.ca (HC.out.2.1 _ _ _ W6 A6.out.1 A6.out.2.1) ?_;rintro e W7 ⟨R,e7,B0,rfl,-,hR⟩;simp only[UR,Uu,Uw,Ux];obtain⟨cs,A,X,k5,q0,c0,k2⟩:=hR.cl h0;have a7:=hu.below R;have B7:=mk1 (A6.out.2.2.trans (R.mono A6.out.2.2.size));clear A6 G R hu;refine hG W7.heap.size λk1 L=>?_
   refine hG (W7.alloc (.cells z11.toArray 28)) λW8 Y=>?_
   refine hG (W8.setCells k1 0 cs) λW9 Q=>?_
   have K8:=mk1 ((Mp.start W7).new L Y);have K9:=mk1 (K8.out.put 0 Q rfl (by rw[X];rfl));have F:(prog.info? 28).map (·.size)=some cs.length:=by rw[X];exact iAr
   refine PW.mv ?_;refine PW.va e7 ?_;refine PW.va (iZ 0) ?_;refine PW.al L Y ?_;refine PW.st Q A (K8.out.th 0 rfl (by rw[X];rfl)) F k5 ?_;refine PW.va (iZ 0) ?_;refine PW.dn ?_;refine UC ?_;refine PW.begin ?_;refine PW.mv ?_;refine PW.mv ?_;refine PW.ro (K9.out.at_ 0).2.1 A uAr F ?_;refine PW.gi (HC.out.2.2 B0 e7 _ W9 (a7.below K9.out.bl) (hR.below K9.out.bl)) λkl M=>?_
   have B:=mk1 (K9.out.grow M);clear K8 K9 M HC a7 Y Q;refine PW.va (.bool true) ?_;refine PW.dn ?_;have u:=hR.below B.out.bl;refine UC ?_;refine PW.begin ?_;refine PW.ro (B.out.at_ 0).2.1 A uAr F ?_;refine PW.ca (u.put h0 C) ?_;rintro e k3 ⟨N,kj,rfl,hpt,h5,Z,rfl,I⟩;have T:=IH (u.good C) k3 h5 Z hpt I;generalize Wt (eW t (rgB t pz Lb Rb Ab Bb) (t+t+9))=hs at T;clear hpt I u;have he:=mk1 (B.out.grow N);clear B N;simp only[UR,Uu,Uw,Ux];refine PW.mv ?_;refine PW.va (sZ h5 hs Z) ?_;refine PW.va (iZ 0) ?_;refine PW.va (sZ h5 hs Z) ?_;refine PW.va (iZ 0) ?_;refine PW.dn ?_;refine UC ?_;refine PW.begin ?_;refine PW.mv ?_;refine PW.ca T ?_;rintro e S ⟨J,kb,rfl,hD⟩;simp only[UR,Uu,Uw,Ux];have hq:=mk1 (he.out.grow J);clear he J T;obtain⟨ds,h8,D,k4⟩:=hD.cl;refine hG S.heap.size λkc v=>?_
   refine hG (S.alloc (.cells z11.toArray 28)) λk9 c=>?_
   refine hG (k9.setCells kc 0 ds) λkr d=>?_
   have U:=mk1 (hq.out.new v c);have r:=mk1 (U.out.put 1 d rfl (by rw[D];rfl));have k0:(prog.info? 28).map (·.size)=some ds.length:=by rw[D];exact iAr
   have hl:=hD.below ((((Mp.start S).new v c).put 0 d rfl (by rw[D];rfl)).bl);refine PW.mv ?_;refine PW.va kb ?_;refine PW.va (iZ 0) ?_;refine PW.al v c ?_;refine PW.st d h8 (U.out.th 1 rfl (by rw[D];rfl)) k0 k4 ?_;refine PW.va (iZ 0) ?_;refine PW.dn ?_;have hc:=(hR.below r.out.bl).same h0 C hl;clear hq U hD hl hR c d;refine UC ?_;refine PW.begin ?_;refine PW.ro (r.out.at_ 0).2.1 A uAr F ?_;refine PW.ro (r.out.at_ 1).2.1 h8 uAr k0 ?_;refine PW.ca hc ?_;rintro e ki ⟨rfl,K⟩;have hy:=mk1 (r.out.grow K);clear r K hc;simp only[UR,Uu,Uw,Ux];refine PW.va (.bool true) ?_;refine PW.dn ?_;refine UC ?_;refine PW.begin ?_;refine PW.mv ?_;refine PW.va (.bool true) ?_;refine PW.mv ?_;refine PW.gd ?_;refine PW.mv ?_;refine PW.gd ?_;refine PW.va (.bool true) ?_;refine PW.va (.bool true) ?_;refine PW.mv ?_;refine PW.gd ?_;refine PW.mv ?_;refine PW.gd ?_;refine PW.va (.bool true) ?_;refine PW.va (.bool true) ?_;refine PW.mv ?_;refine PW.gd ?_;refine PW.mv ?_;refine PW.gd ?_;refine PW.va (.bool true) ?_;refine PW.va (.bool true) ?_;refine PW.mv ?_;refine PW.gd ?_;refine PW.va (jZ k1) ?_;refine PW.gd ?_;refine PW.ce ((hy.out.at_ 0).2.1 0 _ k2) uSb ?_;refine PW.gd ?_;refine PW.va (iZ 33) ?_;refine PW.gd ?_;refine PW.va (.bool true) ?_;refine PW.va (.bool true) ?_;refine PW.mv ?_;refine PW.gd ?_;refine PW.mv ?_;refine PW.va (.bool true) ?_;refine PW.mv ?_;refine PW.gd ?_;refine PW.mv ?_;refine PW.va (.bool true) ?_;refine PW.va (.bool true) ?_;refine PW.dn ?_;go_wp2;go_ret;exact⟨_,rfl,B7.out.trans (hy.out.bl.mono B7.out.size),rfl⟩
end
section
open Go.RowKit Go.Sort Go.Deep
variable {P:Nat}[NeZero P]{N:Nat}
theorem fld:∃(P:Nat) (_:NeZero P),Fld P:=by
 obtain⟨P,g,i,f⟩:=cur;have j:P=Go.Proofs.YtdoammpgchejcaaGreat.p0:=by rw[i];decide +kernel
 have c:=Ua;have e:2<=Go.Proofs.YtdoammpgchejcaaGreat.p0%18446744073709551616:=by decide +kernel
 have b:Go.Proofs.YtdoammpgchejcaaGreat.p0/4%18446744073709551616<18446744073709551615:=by decide +kernel
 have d:Go.Proofs.YtdoammpgchejcaaGreat.p0%4=3:=by decide +kernel
 have k:7<Go.Proofs.YtdoammpgchejcaaGreat.p0:=by decide +kernel
 rw[<-j]at c e b d k;exact⟨P,g,⟨c,f,e,b,d,k⟩⟩
end
namespace EC
variable {P:Nat}[NeZero P]
def fo{α:Type}(x:Fin P)(f:Fin P->α):α:=
 match x.val with
 | 0=>f (Xr P 0)
 | n+1=>f (Xr P (n+1))
theorem Sk{α:Type}(x:Fin P)(f:Fin P->α):fo x f=f x:=by
 have hx:Xr P x.val=x:=Fin.ext (UU x.isLt);unfold fo;split
 ·next h=>rw[h]at hx;rw[hx]
 ·next n h=>rw[h]at hx;rw[hx]
def runs(u v:Fin P)(e:Nat):Nat->Fin P->Fin P->Fin P->Bool
 | 0,_,_,z=>decide (z=0)
 | k+1,x,y,z=>fo (twX x y) λX=>fo (twY x y) λY=>fo (twZ y z) λZ =>
  if e/2^k%2=1 then
   if Z=0 then false else
   fo (cN X 1) λd=>fo (eK Y 1) λf=>fo (cN u Z) λbx=>fo (eK v Z) λg =>
   if d=bx/\f=g then false else
   fo (plX d f bx g) λa=>fo (plY d f bx g) λb=>fo (plZ Z 1 d bx) λc=>runs u v e k a b c
  else runs u v e k X Y Z
theorem DJ(C:Cur P):(1:Fin P)≠0:=λh=>C.two (by
 calc (2:Fin P)=2*1:=by grobner
  _=0:=by rw[h];grobner)
theorem AL(C:Cur P){u v:Fin P}(c:On (some (u,v)))(e:Nat):∀(k m:Nat) (x y z:Fin P),Jac x y z (mul m (some (u,v)))->runs u v e k x y z=true->mul (m*2^k+e%2^k) (some (u,v))=none
 | 0,m,x,y,z,hj,h=>by
  have b:=of_decide_eq_true h;rw[Nat.pow_zero,yA6,Nat.mul_one,Xm];exact hj.zero C b
 | k+1,m,x,y,z,hj,h=>by
  have p:=cG C c m;have f:=hj.twice C p;rw[<-mul_add C c]at f;have o:e%2^(k+1)=e/2^k%2*2^k+e%2^k:=by
   rw[V8,Nat.mod_mul,Vv (2^k) (e/2^k%2),Nat.add_comm]
  have n:2^(k+1)=2*2^k:=by rw[V8,Vv]
  unfold runs at h;simp only[Sk]at h;by_cases b:e/2^k%2=1
  ·rw[yCk b]at h;by_cases g:twZ y z=0
   ·rw[yCk g]at h;cases h
   ·rw[yCl g]at h;have i:Jac u v 1 (some (u,v)):=⟨DJ C,by grobner,by grobner⟩
    rcases f.plus C (cG C c _) i c g (DJ C)with⟨l,d,-⟩|⟨l,d⟩
    ·rw[yCk ⟨l,d⟩]at h;cases h
    ·rw[yCl l]at h;have j:=AL C c e k (m+m+1) _ _ _ d h;rw[o,b,n];rw[show m*(2*2^k)+(1*2^k+e%2^k)=(m+m+1)*2^k+e%2^k by
      rw[XH,XH,<-XK,Vv m 2,yBW,XH];omega]
     exact j
  ·rw[yCl b]at h;have d:e/2^k%2=0:=oM;have j:=AL C c e k (m+m) _ _ _ f h;rw[o,d,n];rw[show m*(2*2^k)+(0*2^k+e%2^k)=(m+m)*2^k+e%2^k by
    rw[<-XK,Vv m 2,yBW];omega]
   exact j
def pL:Nat:=115792089237316195423570985008687907853269984665640564039457584007908834671663
def nL:Nat:=115792089237316195423570985008687907852837564279074904382605163141518161494337
instance:NeZero pL:=⟨dK⟩
theorem OQ:runs (P:=pL) (Xr pL 55066263022277343669578718895168534326250603453777594175500187360389116729240) (Xr pL 32670510020758816978083085130507043184471273380659243275938904335757337482424) nL 255 (Xr pL 55066263022277343669578718895168534326250603453777594175500187360389116729240) (Xr pL 32670510020758816978083085130507043184471273380659243275938904335757337482424) 1=true:=dK
theorem LI:2*pL+1<3*nL:=dK
theorem Py:1*2^255+nL%2^255=nL:=dK
theorem order(C:Cur P)(b:P=pL)(k:On (some (Xr P 55066263022277343669578718895168534326250603453777594175500187360389116729240,Xr P 32670510020758816978083085130507043184471273380659243275938904335757337482424))){r:Pt P}(c:On r):mul nL r=none:=by
 subst b;refine IW C (n:=nL) NT.pN LI k (λh=>by cases h) ?_ c;have h:=AL C k nL 255 1 _ _ 1 (by
  show Jac _ _ 1 (add none _);rw[jL];exact⟨DJ C,by grobner,by grobner⟩) OQ
 rwa[Py]at h
end EC
section
theorem IQ:Go.Proofs.YtdoammpgchejcaaGreat.p1=nL:=dK
variable {P:Nat}[NeZero P]
theorem order2(C:Fld P)(r:EC.Pt P)(k:On r):mul Go.Proofs.YtdoammpgchejcaaGreat.p1 r=none:=by
 rw[IQ];have b:P=EC.pL:=by
  rw[C.eq];rfl
 exact order C.cur b (Cu C) k
end
section
open Go.RowKit Go.Sort Go.Deep SPA
variable {P:Nat}[NeZero P]{N:Nat}
theorem Rj:Ord Go.Proofs.YtdoammpgchejcaaGreat.p1:=⟨T9,QX,by decide +kernel,by decide +kernel⟩
theorem Mg:IsP Go.Proofs.YtdoammpgchejcaaGreat.p1:=by
 rw[IQ];exact NT.pN
theorem Ia(x:Int)(f:0<=x)(hx:x<18446744073709551616)(z:Int)(k:-9223372036854775808<=z)(b:z<=9223372036854775807)(s c:ByteArray)(w:Ut):
 UK prog 4 #[uZ x,iZ z,.string s,.string c] w λe w'=>e=.returned (.bool true)/\kZ w w':=by
 obtain⟨P,g,C⟩:=fld;have i:NeZero Go.Proofs.YtdoammpgchejcaaGreat.p1:=⟨by decide +kernel⟩
 obtain⟨n,rfl⟩:=Int.eq_ofNat_of_zero_le f;refine(Ox s c n (by omega) z k b w λm t v d hv=>trk C Rj (order2 C) Mg (by decide +kernel) s _ d v hv).mono ?_;rintro e w' ⟨v,rfl,h,rfl⟩;exact⟨rfl,h⟩
end
/-
  THE ROW OF 'SpanTrue' round its walk; the frame by the guide's program (howto/shells), the world behind the call told by 'Below'.
-/
namespace spanTrue
open Go.ChangeShapes Go.WideShapes Go.ChangeAt Go.RowKit
open Go.ChangeMaps (open_string shut_string)
theorem own:ownKnob prog.godebug=none:=by kernel_rfl
theorem lifted(x:Os)(b:x.Started)(H:Type)(enc:Vb × Uv->H):
 ReturnsInHanded {} Tryz.checked x 4 .any (Rows.spanTrueSpec.pre6 enc prog Tryz.f4 Rows.spanTrueRow.domain false) (Rows.spanTrueSpec.post enc prog Tryz.f4 false true false false):=by
 refine returnsInHanded_of_change (C:=Tryz.checked) own b (by kernel_rfl) func4
  (ChangeSpec.witness6 (enc:=enc) (C:=Tryz.checked) false ⟨#[],#[uZ 0,iZ 0,.string yAF,.string yAF],[]⟩ 8 (by kernel_rfl) (by kernel_rfl) (by kernel_rfl) (by kernel_rfl)) ?_
 intro W f args L gs i c y s _;have k:∀(j:Nat) t v,Tryz.f4.params[j]? = some t->args[j]? = some v->Value.okWide prog W .any f t v:=c;have n:=y;obtain⟨p,q,g,X,rfl,a,G⟩:=y;have r:DataW.TrodAll enc prog W 0 (λ_=>true) true Tryz.f4.params.toList args.toList L p:=g;rw[params4]at r k;obtain⟨v0,Q,d0,E,p0,q0,l,rfl,rfl,F,P⟩:=trodAll_cons r;obtain⟨v1,I,d1,R,p1,q1,rfl,rfl,rfl,D,V⟩:=trodAll_cons P;obtain⟨v2,Y,d2,M,p2,q2,rfl,rfl,rfl,U,z⟩:=trodAll_cons V;obtain⟨u,T,d3,S,Z,q3,rfl,rfl,rfl,A,J⟩:=trodAll_cons z;obtain⟨rfl,rfl,rfl⟩:=trodAll_nil J;obtain rfl:args=#[v0,v1,v2,u]:=by cases args;simp_all
 obtain⟨rfl,rfl⟩:=trodVars_none X;obtain⟨a0,rfl,rfl,rfl,o⟩:=open_int underlying22 (k 0 22 v0 rfl rfl) F;obtain⟨m,rfl,rfl,rfl,w⟩:=open_int underlying3 (k 1 3 v1 rfl rfl) D;obtain⟨a2,rfl,rfl,rfl,N⟩:=open_string underlying9 (k 2 9 v2 rfl rfl) U;obtain⟨B,rfl,rfl,rfl,O⟩:=open_string underlying9 (k 3 9 u rfl rfl) A;clear g c;have d:-9223372036854775808<=m/\m<=9223372036854775807:=by
  have h:=w;have e:VY.min = -9223372036854775808:=by decide
  have e':VY.max=9223372036854775807:=by decide
  simp[Lit.wf,e,e']at h;omega
 have hx:0<=a0/\a0<18446744073709551616:=by
  have h:=o;have e:Vw.min=0:=by decide
  have e':Vw.max=18446744073709551615:=by decide
  simp[Lit.wf,e,e']at h;omega
 refine(Ia a0 hx.1 hx.2 m d.1 d.2 a2 B W).mono λe W' ⟨K,bel⟩=>?_
 subst K;exact⟨_,rfl,_,_,_,[],_,[],n,YW (shut_bool underlying4 _) trodAll_mk0,YW (shut_int underlying22 o) (YW (shut_int underlying3 w) (YW (shut_string underlying9 N) (YW (shut_string underlying9 O) trodAll_mk0))),rfl,bel.frame _,λh=>by cases h⟩
theorem over:Rows.spanTrueRow.holds Tryz.pinned (OpenSpec.ofChange Rows.spanTrueSpec):=
 OpenClaim.holds_of_wide 4 Tryz.f4 rfl rfl rfl rfl rfl rfl rfl ⟨rfl,rfl,rfl,rfl,rfl⟩ rfl rfl rfl rfl rfl (by kernel_rfl) func4 (by kernel_rfl)
  (of_decide_eq_true (by kernel_rfl)) (by unfold Func.isWrapper;first|(rw[yCk (by decide +kernel)];kernel_rfl)|(rw[yCl (by decide +kernel)];exact⟨rfl,rfl⟩))
  (λb k H enc _=>lifted b k H enc)
theorem proved:Rows.SpanTrueSaid:=
 over
end spanTrue
section
theorem spanTrue_holds:Rows.SpanTrueSaid:=spanTrue.proved
#print axioms spanTrue_holds
end
end Go.Proofs.YtdoammpgchejcaaGreat
