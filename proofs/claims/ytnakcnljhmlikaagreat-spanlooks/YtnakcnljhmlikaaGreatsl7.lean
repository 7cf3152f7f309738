import Derived.Lib.AppendZeros
import Derived.Deep.AppendSrc
import Derived.Lib.ConvBytes
import Derived.Laws.MathBits
import Derived.Deep.LoopGhost
import Derived.Test.YtnakcnljhmlikaaGreatsl6
set_option linter.unusedVariables false
set_option linter.constructorNameAsVariable false
set_option linter.unusedSimpArgs false
set_option maxRecDepth 1000000
set_option maxHeartbeats 4000000
namespace Go.Proofs.YtnakcnljhmlikaaGreat
open _root_.And renaming intro->Tj
open _root_.Array renaming all_eq_true'->Up,getD_eq_getD_getElem?->Sz,getElem?_eq_getElem->SS,getElem?_eq_some_iff->SZ,length_toList->Sx,replicate->So,size_append->Tw,size_replicate->SB,toArray_toList->UQ
open _root_.Bool renaming and_eq_true->SC
open _root_.ByteArray renaming size_append->ZZ
open _root_.Classical renaming byContradiction->TQ
open _root_.Fin renaming ext->Vx,ofNat->Ua,val_add->ZY,val_mul->U6
open _root_.Go.Act renaming put->Tt
open _root_.Go.Builtin renaming append_->UG,zeroCells->UB
open _root_.Go.Code renaming region->TX
open _root_.Go.Instr renaming box->TF,build->VA,indexAt->To,makeSlice->Uc,sureAddr->VZ
open _root_.Go.IntKind renaming i64->TA,wrap_i64->Ym
open _root_.Go.Lib renaming bytesCells->Vl,bytesWorld->V7,bytesWorld_size->WS
open _root_.Go.Next renaming value->UP
open _root_.Go.Oper renaming semAt_some->XK,wp->TZ
open _root_.Go.Operand renaming tmp->Z5
open _root_.Go.Question renaming cut->ZV
open _root_.Go.Region renaming binds->TR
open _root_.Go.Result renaming andThen_ok->Tr
open _root_.Go.RowKit.Below renaming heap_alloc->YP,refl->SE
open _root_.Go.RowKit.Hid renaming out->XI
open _root_.Go.Sem renaming run_bind->SK,run_pure->Ux
open _root_.Go.Value renaming agg->SX
open _root_.Go.World renaming cell?_of_block->SR,freeze->Wj,frozen?_of_block->Uf,rangeAt_setCells_apart->Ul,rangeAt_setCells_same->Uq,size_alloc->Sq,there->ZB,there_setCells->U8
open _root_.Int renaming natCast_add->Zq,natCast_mul->Uh,toNat_natCast->Vd
open _root_.List renaming append_nil->U7,drop->U0,filter_sublist->Yt,finRange->Zx,flatMap_append->WH,getElem?_eq_getElem->SH,getElem?_eq_some_iff->SI,getElem_mem->Tu,length_append->Su,length_cons->Tc,length_map->SO,mem_append->UT,mem_cons->TP,mem_cons_of_mem->S8,mem_cons_self->Ti,mem_filter->Xu,mem_finRange->YM,mem_flatMap->Xj,mem_map->Tq,mem_singleton->VX,mem_toArray->Vj,nodup_cons->VR,nodup_finRange->Wz,not_mem_nil->SL,pairwise_map->YL,prefix_rfl->Zb,range->TD,range_succ->XF,setIfInBounds_toArray->Sw,set_cons_succ->SN,set_cons_zero->SQ,size_toArray->Tf,take->UY,take_length->YV
open _root_.List.Pairwise renaming imp->XH
open _root_.Nat renaming div_add_mod->Ww,le_of_ble_eq_true->TY,le_refl->Se,le_trans->SD,lt_of_lt_of_le->Si,lt_of_succ_le->UX,lt_succ_self->Vt,mod_eq_of_lt->SA,mod_lt->Ug,mul_comm->S9,mul_le_mul->T9,mul_succ->V0,not_lt_zero->UI,one_mul->UL,pos_of_neZero->VQ,reduceAdd->TG,zero_add->Sj,zero_le->Us,zero_mod->VG
open _root_.Option renaming isSome_iff_exists->SU,map_eq_some_iff->Sf
open _root_.Or renaming inl->SY,inr->SJ
open _root_.Prod renaming fst->WO,mk->Ud,snd->WN
open _root_.Subtype renaming ext->VF
open _root_.UInt8 renaming ofNat->Sy
open Go.Proofs.Tryz (prog)
namespace EC
variable {P:Nat}[NeZero P]
def pts(P:Nat)[NeZero P]:List (Pt P):=
 none :: (Zx P).flatMap λx=>((Zx P).filter λy=>decide (y^2=x^3+7)).map λy=>some (x,y)
theorem lC(a:Pt P):a∈pts P↔On a:=by
 unfold pts;rcases a with _|⟨x,y⟩
 ·exact⟨λ_=>trivial,λ_=>Ti⟩
 ·rw[TP,Xj];constructor
  ·rintro(h|⟨u,-,h⟩)
   ·cases h
   ·obtain⟨v,hv,e⟩:=Tq.1 h;cases e
    have h2:=(Xu.1 hv).2;exact(decide_eq_true_iff (p:=y^2=x^3+7)).1 h2
  ·intro h;have h:=h;exact SJ ⟨x,YM x,Tq.2 ⟨y,Xu.2 ⟨YM y,decide_eq_true h⟩,rfl⟩⟩
theorem yB:(pts P).Nodup:=by
 unfold pts;refine VR.2 ⟨λh=>?_,?_⟩
 ·obtain⟨u,-,h⟩:=Xj.1 h;obtain⟨v,-,e⟩:=Tq.1 h;cases e
 ·refine List.pairwise_flatMap.2 ⟨λx _=>YL.2 ?_,?_⟩
  ·refine XH ?_ ((Wz P).sublist Yt);intro a b h e;exact h (by cases e;rfl)
  ·refine XH ?_ (Wz P);intro a b h u hu v hv e;obtain⟨c,-,rfl⟩:=Tq.1 hu;obtain⟨d,-,rfl⟩:=Tq.1 hv;exact h (by cases e;rfl)
theorem JZ{u v c:Fin P}(hu:u^2=c)(hv:v^2=c):(u-v)*(u+v)=0:=by grobner
theorem KU{a b d:Fin P}(e1:a+b=0)(e2:a+d=0):b=d:=by grobner
theorem E4(C:Cur P){c:Fin P}:∀l:List (Fin P),l.Nodup->(∀y,y∈l->y^2=c)->l.length<=2
 | [],_,_=>Us _
 | [_],_,_=>Nat.le_succ _
 | [_,_],_,_=>Se _
 | a :: b :: d :: l,hn,h=>by
  exfalso;have ha:=h a (by simp);have hb:=h b (by simp);have hd:=h d (by simp);have n1:a≠b:=λe=>(VR.1 hn).1 (by rw[e];simp)
  have n2:a≠d:=λe=>(VR.1 hn).1 (by rw[e];simp)
  have n3:b≠d:=λe=>(VR.1 (VR.1 hn).2).1 (by rw[e];simp)
  have f:∀u v:Fin P,u^2=c->v^2=c->u≠v->u+v=0:=λu v hu hv hn=>by
   exact TQ λhs=>bD C.pr (lT hn) hs (JZ hu hv)
  have e1:=f a b ha hb n1;have e2:=f a d ha hd n2;exact n3 (KU e1 e2)
theorem Bv{α β:Type}(f:α->List β)(k:Nat)(h:∀a,(f a).length<=k):∀l:List α,(l.flatMap f).length<=k*l.length
 | []=>Us _
 | a :: l=>by
  rw[List.flatMap_cons,Su,Tc,V0,Nat.add_comm];exact Nat.add_le_add (Bv f k h l) (h a)
theorem Ll(C:Cur P):(pts P).length<=2*P+1:=by
 unfold pts;rw[Tc];refine Nat.succ_le_succ (SD (Bv _ 2 (λx=>?_) _) (by rw[List.length_finRange];exact Se _));rw[SO];exact E4 C (c:=x^3+7) _ ((Wz P).sublist Yt) λy hy=>of_decide_eq_true (Xu.1 hy).2
theorem Kx:0<(pts P).length:=Nat.succ_pos _
def tB:List (Pt P)->Pt P
 | []=>none
 | a :: l=>add a (tB l)
theorem tP(C:Cur P):∀l:List (Pt P),(∀a,a∈l->On a)->On (tB l)
 | [],_=>fV
 | a :: l,h=>C.on (h a Ti) (tP C l λb hb=>h b (S8 _ hb))
theorem Fy(C:Cur P){l m:List (Pt P)}(p:l.Perm m):(∀a,a∈l->On a)->tB l=tB m:=by
 induction p with
 | nil=>intro _;rfl
 | cons x _ ih =>
  intro h;show add x _=add x _;rw[ih λb hb=>h b (S8 _ hb)]
 | swap x y l =>
  intro h;have hy:=h y Ti;have hx:=h x (S8 _ Ti);have hl:=tP C l λb hb=>h b (S8 _ (S8 _ hb))
  show add y (add x (tB l))=add x (add y (tB l));rw[<-C.assoc hy hx hl,C.comm hy hx,C.assoc hx hy hl]
 | trans p _ ih1 ih2 =>
  intro h;rw[ih1 h,ih2 λa ha=>h a (p.mem_iff.2 ha)]
theorem vJ(C:Cur P){r:Pt P}(hr:On r):∀l:List (Pt P),(∀a,a∈l->On a)->tB (l.map λa=>add a r)=add (tB l) (mul l.length r)
 | [],_=>rfl
 | a :: l,h=>by
  have ha:=h a Ti;have hl:∀b,b∈l->On b:=λb hb=>h b (S8 _ hb)
  show add (add a r) (tB (l.map _))=add (add a (tB l)) (add (mul l.length r) r);rw[vJ C hr l hl,C.comm (cD C hr _) hr,C.swap ha hr (tP C l hl) (cD C hr _)]
theorem wV(C:Cur P){a b r:Pt P}(ha:On a)(hb:On b)(hr:On r)(e:add a r=add b r):a=b:=by
 have:add (add a r) (neg r)=add (add b r) (neg r):=by rw[e]
 rwa[C.assoc ha hr (b8 hr),C.assoc hb hr (b8 hr),add_neg,bE,bE]at this
theorem uE(C:Cur P){r:Pt P}(hr:On r):((pts P).map λa=>add a r).Perm (pts P):=by
 refine(List.perm_ext_iff_of_nodup ?_ yB).2 λa=>?_
 ·refine YL.2 (List.Pairwise.imp_of_mem ?_ (yB (P:=P)));intro a b ha hb h e;exact h (wV C ((lC a).1 ha) ((lC b).1 hb) hr e)
 ·rw[lC,Tq];constructor
  ·rintro⟨b,hb,rfl⟩;exact C.on ((lC b).1 hb) hr
  ·intro ha;refine⟨add a (neg r),(lC _).2 (C.on ha (b8 hr)),?_⟩;rw[C.assoc ha (b8 hr) hr,C.neg_l hr,bE]
theorem Eh(C:Cur P){r:Pt P}(hr:On r):mul (pts P).length r=none:=by
 have h0:∀a,a∈pts P->On a:=λa ha=>(lC a).1 ha
 have h1:=vJ C hr (pts P) h0;rw[Fy C (uE C hr) λa ha=>(lC a).1 ((uE C hr).mem_iff.1 ha)]at h1;have hs:=tP C (pts P) h0;have hm:=cD C hr (pts P).length;have h2:add (mul (pts P).length r) (tB (pts P))=add none (tB (pts P)):=by
  rw[C.comm hm hs,<-h1,kF]
 exact wV C hm fV hs h2
theorem lB(C:Cur P){a:Pt P}(ha:On a)(m:Nat):∀n,mul (m*n) a=mul n (mul m a)
 | 0=>rfl
 | n+1=>by
  rw[V0,mul_add C ha,lB C ha m n];rfl
theorem mG:∀n,mul n (none:Pt P)=none
 | 0=>rfl
 | n+1=>by
  show add (mul n none) none=none;rw[mG n];rfl
theorem BX(C:Cur P){a:Pt P}(ha:On a)(e:add a a=none):a=none:=by
 rcases a with _|⟨x,y⟩
 ·rfl
 ·exfalso;have ho:=C.opp_ne ha;rw[bT C.pr C.two ha ha ho (bI C.pr C.two ha ha ho)]at e;cases e
theorem H9(C:Cur P){n:Nat}(hn:NT.IsP n)(h3:2*P+1<3*n){g:Pt P}(hg:On g)(h0:g≠none)(hz:mul n g=none){r:Pt P}(hr:On r):mul n r=none:=by
 have hd:n ∣ (pts P).length:=TQ λhd=>by
  have h1:=hn.fermat1 _ hd;have h2:mul ((pts P).length^(n-1)) g=none:=by
   have:n-1=(n-2)+1:=by have:=hn.1;omega
   rw[this,Nat.pow_succ,S9,lB C hg,Eh C hg,mG]
  have h4:=Ww ((pts P).length^(n-1)) n;rw[h1]at h4;rw[<-h4,mul_add C hg,lB C hg,hz,mG,kF]at h2;exact h0 h2
 obtain⟨c,hc⟩:=hd;have hl:=Ll C;have hp:=Kx (P:=P);have hm:=Eh C hr;rw[hc]at hl hp hm;have hc3:c<3:=Nat.lt_of_mul_lt_mul_left (a:=n) oM;match c,hc3 with
 | 0,_=>omega
 | 1,_=>rwa[Nat.mul_one]at hm
 | 2,_ =>
  rw[lB C hr]at hm;exact BX C (cD C hr n) hm
end EC
section
open Go.RowKit Go.Sort Go.Deep
variable {P:Nat}[NeZero P]{N:Nat}
def fZ(P:Nat)[NeZero P](b:Bs):EC.Pt P:=match rd P b with|some p=>pt p|none=>none
theorem kM(C:Fld P){X:EC.Pt P}(h:EC.On X):fZ P (wr X)=X:=by
 obtain⟨p,h1,h2⟩:=DZ C h;unfold fZ;rw[h1];exact h2
def fK(P:Nat)[NeZero P]:List (Nat × Bs)->EC.Pt P
 | []=>none
 | x :: r=>EC.add (EC.mul x.1 (fZ P x.2)) (fK P r)
def PtsL(P:Nat)[NeZero P](l:List (Nat × Bs)):Prop:=∀x∈l,∃X:EC.Pt P,EC.On X/\x.2=wr X
theorem PtsL.on(C:Fld P){l:List (Nat × Bs)}(h:PtsL P l){x:Nat × Bs}(hx:x∈l):EC.On (fZ P x.2):=by
 obtain⟨X,h1,h2⟩:=h x hx;rw[h2,kM C h1];exact h1
theorem mV(C:Fld P):∀ {l:List (Nat × Bs)},PtsL P l->EC.On (fK P l)
 | [],_=>EC.fV
 | x :: r,h=>C.cur.on (EC.cD C.cur (h.on C Ti) _) (mV C λy hy=>h y (S8 _ hy))
theorem xO(C:Fld P)(y:Nat × Bs)(hy:EC.On (fZ P y.2)):∀ {l:List (Nat × Bs)},PtsL P l->fK P (l++[y])=EC.add (fK P l) (EC.mul y.1 (fZ P y.2))
 | [],_=>EC.bE _
 | x :: r,h=>by
  have hr:PtsL P r:=λz hz=>h z (S8 _ hz)
  show EC.add (EC.mul x.1 (fZ P x.2)) (fK P (r++[y]))=_;rw[xO C y hy hr];exact(C.cur.assoc (EC.cD C.cur (h.on C Ti) _) (mV C hr) (EC.cD C.cur hy _)).symm
theorem yY:∀l:List (Nat × Bs),fK P (LF l)=fK P l
 | []=>rfl
 | x :: r=>by
  unfold LF;rw[List.filter_cons];by_cases h:x.1=0
  ·rw[if_neg (by simp[h])];show fK P (LF r)=EC.add (EC.mul x.1 (fZ P x.2)) (fK P r);rw[h,yY r];rfl
  ·rw[if_pos (by simp[h])];show EC.add _ (fK P (LF r))=EC.add _ (fK P r);rw[yY r]
theorem mul_mod(C:Fld P)(hord:∀r:EC.Pt P,EC.On r->EC.mul N r=none){X:EC.Pt P}(hX:EC.On X)(n:Nat):EC.mul (n%N) X=EC.mul n X:=by
 have h:=EC.mul_add C.cur hX (N*(n/N)) (n%N);rw[Ww,EC.lB C.cur hX N (n/N),hord X hX,EC.mG,EC.kF]at h;exact h.symm
theorem xP(C:Fld P)(hord:∀r:EC.Pt P,EC.On r->EC.mul N r=none)(n:Nat)(p:Bs)(hp:EC.On (fZ P p)):∀ {l:List (Nat × Bs)},PtsL P l->fK P (fB N l n p)=EC.add (fK P l) (EC.mul n (fZ P p))
 | [],_=>EC.bE _
 | (s,q) :: r,h=>by
  have hr:PtsL P r:=λz hz=>h z (S8 _ hz)
  have hq:=h.on C (x:=(s,q)) Ti;have h1:=EC.cD C.cur hq s;have h2:=mV C hr;have h3:=EC.cD C.cur hp n;unfold fB;by_cases e:p=q
  ·rw[if_pos e];subst e;show EC.add (EC.mul (sPl N s n) (fZ P p)) (fK P r)=EC.add (EC.add (EC.mul s (fZ P p)) (fK P r)) (EC.mul n (fZ P p));unfold sPl;rw[mul_mod C hord hp,EC.mul_add C.cur hp,C.cur.assoc h1 h3 h2,C.cur.assoc h1 h2 h3,C.cur.comm h3 h2]
  ·rw[if_neg e];show EC.add (EC.mul s (fZ P q)) (fK P (fB N r n p))=EC.add (EC.add (EC.mul s (fZ P q)) (fK P r)) (EC.mul n (fZ P p));rw[xP C hord n p hp hr,C.cur.assoc h1 h2 h3]
theorem EV{n:Nat}{p:Bs}(hp:∃X:EC.Pt P,EC.On X/\p=wr X):∀ {l:List (Nat × Bs)},PtsL P l->PtsL P (fB N l n p)
 | [],_=>λx hx=>by
  have:x=(n,p):=by simpa[fB]using hx
  rw[this];exact hp
 | (s,q) :: r,h=>by
  have hr:PtsL P r:=λz hz=>h z (S8 _ hz)
  unfold fB;split
  ·intro x hx;rcases TP.1 hx with rfl|hx
   ·exact h (s,q) Ti
   ·exact hr x hx
  ·intro x hx;rcases TP.1 hx with rfl|hx
   ·exact h (s,q) Ti
   ·exact EV hp hr x hx
theorem zN(ns:Nat->Nat)(X:Nat->EC.Pt P){k:Nat}(hX:∀j,j<k->EC.On (X j)):∀i,i<=k->PtsL P (mrg N ns (λj=>wr (X j)) i)
 | 0,_=>λx hx=>by cases hx
 | i+1,hi=>EV ⟨X i,hX i oM,rfl⟩ (zN ns X hX i oM)
theorem Ei(C:Fld P)(hord:∀r:EC.Pt P,EC.On r->EC.mul N r=none)(ns:Nat->Nat)(X:Nat->EC.Pt P){k:Nat}(hX:∀j,j<k->EC.On (X j)):∀i,i<=k->fK P (mrg N ns (λj=>wr (X j)) i)=EC.tot X i (λj=>(ns j:Int))
 | 0,_=>rfl
 | i+1,hi=>by
  have hi':=hX i oM;show fK P (fB N (mrg N ns (λj=>wr (X j)) i) (ns i) (wr (X i)))=EC.add (EC.tot X i (λj=>(ns j:Int))) (EC.mul (ns i) (X i));rw[xP C hord _ _ (by rw[kM C hi'];exact hi') (zN ns X hX i oM),Ei C hord ns X hX i oM,kM C hi']
theorem uA(C:Fld P)(l:List (Nat × Bs))(h:PtsL P l):∀i,i<=l.length->EC.tot (λj=>fZ P ((l[j]?).getD (0,#[])).2) i (λj=>(((l[j]?).getD (0,#[])).1:Int))=fK P (l.take i)
 | 0,_=>by rw[List.take_zero];rfl
 | i+1,hi=>by
  have hlt:i<l.length:=oM;show EC.add (EC.tot _ i _) (EC.mul ((l[i]?).getD (0,#[])).1 (fZ P ((l[i]?).getD (0,#[])).2))=_;rw[uA C l h i oM,List.take_add_one,SH hlt];exact(xO C (l[i]) (h.on C (Tu hlt)) λx hx=>h x (List.mem_of_mem_take hx)).symm
theorem Cb(C:Fld P)(O:Ord N)(hord:∀r:EC.Pt P,EC.On r->EC.mul N r=none)(g k c:Nat)(hk0:0<k)(hk:k<=512)(ns:Nat->Nat)(X:Nat->EC.Pt P)(hn:∀j,j<k->ns j<N)(hX:∀j,j<k->EC.On (X j))(w:World)(hg:g<w.heap.size)(hr:∀j,j<k->w.rangeAt g (37*j) (wn (ns j)++aA (wr (X j)))):
 Calls prog 34 #[.slice (some (aZ g)) k c] w (rZ w λe w'=>e=pvl (wr (EC.tot X k (λj=>(ns j:Int))))):=by
 have hM:=zN (N:=N) ns X hX k (Se _);have hlt:=CO O ns (λj=>wr (X j)) hn k (Se _);have hsz:=vC (N:=N) ns (λj=>wr (X j)) (k:=k) (λj _=>dB _) k (Se _);have hle:=zO (N:=N) ns (λj=>wr (X j)) k;have hsum:=Ei C hord ns X hX k (Se _);have hpos:0<(mrg N ns (λj=>wr (X j)) k).length:=by
  obtain⟨k',rfl⟩:∃k',k=k'+1:=⟨k-1,oM⟩
  show 0<(fB N _ _ _).length;cases mrg N ns (λj=>wr (X j)) k' with
  | nil=>exact Vt 0
  | cons x r=>unfold fB;split<;>simp
 have hmer:=λW (hb:Below w.heap.size w W)=>Im O (λe w'=>Below W.heap.size W w'/\∃q cap,e=.slice q (LF (mrg N ns (λj=>wr (X j)) k)).length cap/\TmL w' q (LF (mrg N ns (λj=>wr (X j)) k))) g k c oM ns (λj=>wr (X j)) (λj _=>dB _) hn W (Si hg hb.size) (λj hj=>RG.range_below (hr j hj) hb hg) (λW' v hMx=>by
  refine(I0 _ hpos oM hsz (λx hx=>Si (hlt x hx) O.le) W.heap.size v W' hMx.bl.size hMx.ow).mono ?_;rintro e w' ⟨u,rfl,hb',hT⟩;exact⟨_,rfl,hMx.bl.trans hb',hT⟩)
 generalize mrg N ns (λj=>wr (X j)) k=L at hM hlt hsz hle hsum hpos hmer;have hF:PtsL P (LF L):=λx hx=>hM x (An hx)
 have hFl:(LF L).length<=L.length:=List.length_filter_le _ _;refine(Ca C O _ w (LF L).length oM (λj=>(((LF L)[j]?).getD (0,#[])).1) (λj=>fZ P (((LF L)[j]?).getD (0,#[])).2) (λj hj=>by rw[SH hj];exact hlt _ (An (Tu hj))) (λj hj=>by rw[SH hj];exact hF.on C (Tu hj)) λW hb=>?_).mono ?_
 ·refine(hmer W hb).mono ?_;rintro e w' ⟨u,rfl,hb',q,cap,rfl,hT⟩;refine⟨_,rfl,hb',q,cap,rfl,λh0=>?_⟩;obtain⟨g',e1,e2,e3⟩:=hT h0;refine⟨g',e1,e2,λj hj=>?_⟩;have h5:=e3 j hj;obtain⟨Y,y1,y2⟩:=hF _ (Tu hj);show w'.rangeAt g' (37*j) (wn (((LF L)[j]?).getD (0,#[])).1++aA (wr (fZ P (((LF L)[j]?).getD (0,#[])).2)));rw[SH hj];show w'.rangeAt g' (37*j) (wn ((LF L)[j]).1++aA (wr (fZ P ((LF L)[j]).2)));rw[y2,kM C y1,<-y2];exact h5
 ·rintro e w' ⟨u,rfl,hb',rfl⟩;refine⟨_,rfl,hb',?_⟩;rw[uA C (LF L) hF _ (Se _),YV,yY,hsum]
theorem QO:prog.underlying 3=some (.int .i64):=kR
theorem atB(k o n c i:Nat)(hi:i<n)(w:World):(To 22 (.slice (some ⟨k,o,none⟩) n c) (iZ i)).run prog w=.ok (.pointer (some ⟨k,o+1*i,none⟩)) w:=by
 go_simp
end
section
open Go.RowKit Go.Sort Go.Deep Go.Shelf
attribute [local go_sem] XK
variable {P:Nat}[NeZero P]
theorem zU{w w':World}(h:Below w.heap.size w w')(row:Option Nat):w.grownBy w' row:=⟨h.os,h.tape,h.output,h.size,λk hk _=>h.block k hk⟩
theorem IA{w:World}{g o:Nat}{bs:Bs}(h:Holds encB w g o bs)(hs:0<bs.size):g<w.heap.size:=by
 obtain⟨ob,ho,-⟩:=cells_of_cell (h 0 hs).1;exact(SZ.1 ho).1
noncomputable def cand (P:Nat) [NeZero P] (lab:ByteArray) (b:List UInt8) (i:Nat):Option (Fin P × Fin P):=
 if beV (SP.i9 ((⟨#[112,111,105,110,116,32]⟩:ByteArray)++lab).data.toList [b,[Sy i]]).toList<P then
  (rt (Ua P (beV (SP.i9 ((⟨#[112,111,105,110,116,32]⟩:ByteArray)++lab).data.toList [b,[Sy i]]).toList)*Ua P (beV (SP.i9 ((⟨#[112,111,105,110,116,32]⟩:ByteArray)++lab).data.toList [b,[Sy i]]).toList)*Ua P (beV (SP.i9 ((⟨#[112,111,105,110,116,32]⟩:ByteArray)++lab).data.toList [b,[Sy i]]).toList)+7)).map λy=>(Ua P (beV (SP.i9 ((⟨#[112,111,105,110,116,32]⟩:ByteArray)++lab).data.toList [b,[Sy i]]).toList),y)
 else none
noncomputable def cands (P:Nat) [NeZero P] (lab:ByteArray) (b:List UInt8) (i:Nat):List (Fin P × Fin P):=(TD i).filterMap (cand P lab b)
theorem eY(lab:ByteArray)(b:List UInt8)(i:Nat):cands P lab b (i+1)=cands P lab b i++(cand P lab b i).toList:=by
 unfold cands;rw[XF,List.filterMap_append];cases h:cand P lab b i<;>simp[h]
theorem yG(lab:ByteArray)(b:List UInt8){i j:Nat}(h:i<=j):cands P lab b i <+: cands P lab b j:=by
 induction j with
 | zero=>rw[Nat.le_zero.1 h];exact Zb
 | succ j ih =>
  rcases Nat.lt_or_ge i (j+1)with h1|h1
  ·rw[eY];exact(ih oM).trans (List.prefix_append _ _)
  ·rw[show i=j+1 by omega];exact Zb
theorem FZ(lab:ByteArray)(b:List UInt8)(i:Nat):(cands P lab b i).length<=i:=by
 unfold cands;exact SD (List.length_filterMap_le _ _) (by rw[List.length_range];exact Se _)
end
section
open Go.RowKit Go.Sort Go.Deep Go.Shelf
attribute [local go_sem] XK
section
variable {F:Fence}{n:Nat}{P:Program}{ops:Array Oper}{rest:List Oper}{op:Oper}{a:Act}{w:World}{Q:Exit->Act->World->Prop}
theorem nH(hgd:Region.wanted op (yielded ops a.tmps)=true)(ty:TypeId)(x:Operand)(ho:op.op=.load ty x)(b o:Nat)(hx:a.eval x=.pointer (some ⟨b,o,none⟩))(cs:List Value)(d:TypeDesc)(hc:w.rangeAt b o cs)
 (hu:P.underlying ty=some d) (hd:d.isRow=true) (hi:(P.info? ty).map (·.size)=some cs.length) (h:wpListIn F n P ops Q rest (a.put op.dst (.agg cs.toArray)) w):wpListIn F n P ops Q (op :: rest) a w:=
 wpListIn_step λK hK=>by
  rw[hgd,if_pos rfl];refine⟨λf hf=>(by unfold Oper.about at hf;rw[ho]at hf;cases hf),?_⟩;rw[Oper.semAt_eq _ _ _ (λc=>by rw[ho];intro e;cases e)];unfold execOp;simp only[ho,hx,Instr.loadAt,VZ,SK,Ux,Tr,run_loadVar_mid w b o ty cs d hc hu hd hi];exact hK _ _ h
end
variable {P:Nat}[NeZero P]
theorem Hid.mk{p:Prop}(h:p):Hid p:=h
theorem Od(C:Fld P)(lab:ByteArray)(vb:Value)(b:List UInt8)(k1 k2:Nat)(w:World)(hlab:lab.size<=1000000)(h1:w.cell? ⟨k1,0,none⟩=some (.string lab))(h2:w.cell? ⟨k2,0,none⟩=some vb)(l1:k1<w.heap.size)(l2:k2<w.heap.size)(hb:SP.PartOk w vb b)(n:Nat):
 SeqStopsK Fence.wide n prog 155 #[pZ k1,pZ k2] (λx:Fin P × Fin P=>#[pv x.1 x.2]) (Below w.heap.size) (λxs=>xs=cands P lab b 256) (λpre=>pre <+: cands P lab b 256) 256 w:=by
 have HP:=hb;obtain⟨a0,sb,so,cap,bs,rfl,-,-,-,-⟩:=hb;intro l J Jx W hW hJ hJx hY h0;refine callsIn_of_wp Tryz.func155 rfl trivial ?_ rfl;simp only[Tryz.ntmps155,Tf,Tc,List.length_nil,TG,Nat.reduceSub,Array.replicate_succ,Array.replicate_zero,List.push_toArray,List.append_toArray,List.nil_append,List.cons_append]
 gi_wp2
 gi_loopw [10] (λp wr=>∃i:Nat,i<=256/\p=iZ i/\J (cands P lab b i) wr/\Below w.heap.size w wr/\W.heap.size<=wr.heap.size) (λp wr=>256-(intOf p).toNat)
 case atStart =>
  exact⟨0,dC,rfl,h0,hW,Se _⟩
 case round =>
  obtain⟨i,hi,rfl,hJi,hB,hsz⟩:=hrel;have hB':=hB;by_cases he:i=256
  ·subst he
   gi_wp2
   go_end0
   exact⟨⟨_,rfl⟩,.inl ⟨_,rfl,hJi⟩⟩
  ·have hlt:(i:Int)<256:=oM;have c1:wr.cell? ⟨k1,0,none⟩=some (.string lab):=(SR (hB.block k1 l1)).trans h1;have c2:wr.cell? ⟨k2,0,none⟩=some (.slice a0 bs.size cap):=(SR (hB.block k2 l2)).trans h2;have hM1:=RG.Made.alloc wr [.int .u8 i] 5;have hM2:=RG.Made.alloc (wr.alloc (.cells #[.int .u8 i] 5)) [.slice a0 bs.size cap,.slice (some ⟨wr.heap.size,0,none⟩) 1 1] 23;rw[Sq]at hM2;have hub:ub (Sy i)=(i:Int):=by
    show(((Sy i).toNat:Nat):Int)=_;rw[UInt8.toNat_ofNat',SA oM]
   obtain⟨W1,hW1⟩:∃W1,W1=(wr.alloc (.cells #[.int .u8 i] 5)).alloc (.cells #[.slice a0 bs.size cap,.slice (some ⟨wr.heap.size,0,none⟩) 1 1] 23):=⟨_,rfl⟩
   have hb1:Below wr.heap.size wr W1:=by rw[hW1];exact((SE _ wr).alloc (Se _) _).alloc (by rw[Sq];omega) _
   have hP:SP.PartsOk W1 (some ⟨wr.heap.size+1,0,none⟩) [b,[Sy i]]:=by
    have hm2:W1.rangeAt (wr.heap.size+1) 0 [.slice a0 bs.size cap,.slice (some ⟨wr.heap.size,0,none⟩) 1 1]:=by rw[hW1];exact hM2.range
    refine SJ ⟨_,_,rfl,λj hj=>?_⟩;have hj2:j=0\/j=1:=by simp at hj;omega
    rcases hj2 with rfl|rfl
    ·exact⟨_,hm2 0 _ rfl,(HP.below hB').below hb1⟩
    ·refine⟨_,hm2 1 _ rfl,some ⟨wr.heap.size,0,none⟩,wr.heap.size,0,1,#[Sy i],rfl,rfl,Se _,TY rfl,SJ ⟨rfl,?_⟩⟩;have hm1:=hM1.range;have hc:wr.heap.size<(wr.alloc (.cells #[.int .u8 i] 5)).heap.size:=by rw[Sq];omega
     intro j hj;have hj0:j=0:=by simp at hj;omega
     subst hj0;have hq:W1.heap[wr.heap.size]? = (wr.alloc (.cells #[.int .u8 i] 5)).heap[wr.heap.size]?:=by rw[hW1];exact YP _ _ _ hc
     refine⟨?_,?_⟩
     ·rw[SR (a:=⟨wr.heap.size,0+0,none⟩) hq];show _=some (Value.int .u8 (ub (Sy i)));rw[hub];exact hm1 0 _ rfl
     ·rw[Uf (a:=⟨wr.heap.size,0+0,none⟩) hq];exact(hM1.there 0 (Se _)).2
   have hTag:=SP.Am ((⟨#[112,111,105,110,116,32]⟩:ByteArray)++lab) (some ⟨wr.heap.size+1,0,none⟩) 2 [b,[Sy i]] W1 (by rw[ZZ];show 6+lab.size<=_;omega) (TY rfl) hP
   gi_wp2_with fail
   rw[<-hW1];refine⟨trivial,λh=>(by cases h),(callsIn_wide.2 hTag).mono ?_⟩;rintro e w2 ⟨r,rfl,hr1,hb2,hH2⟩;clear hTag hP c1 c2 hM1 hM2 hlt;obtain⟨T,hT⟩:∃T,Hid (SP.i9 ((⟨#[112,111,105,110,116,32]⟩:ByteArray)++lab).data.toList [b,[Sy i]]=T):=⟨_,rfl⟩
   rw[hT.out]at hH2
   gi_wp2_with fail
   refine⟨trivial,λh=>(by cases h),(callsIn_wide.2 (bM _)).mono ?_⟩;rintro e w3 ⟨v,rfl,hb3,rfl⟩;have hrl:r<w2.heap.size:=IA hH2 (by rw[<-hT.out,SP.eG];decide);have hTs:T.size=32:=by rw[<-hT.out];exact SP.eG _ _
   have hH3:Holds encB w3 r 0 T:=Holds.below hH2 hb3 hrl;have hrl3:r<w3.heap.size:=Si hrl hb3.size;have hb03:Below wr.heap.size wr w3:=(hb1.trans (hb2.mono hb1.size)).trans (hb3.mono (SD hb1.size hb2.size));by_cases hx:beV T.toList<P
   ·obtain⟨x,hxv⟩:∃x:Fin P,Hid (beV T.toList=x.val):=⟨Ua P (beV T.toList),(SA hx).symm⟩
    have hfx:Hid (Ua P (beV T.toList)=x):=Vx (by show beV T.toList%P=_;rw[SA hx];exact hxv.out);have hx:Hid (beV T.toList<P):=hx
    gi_wp2_with fail
    refine⟨trivial,λh=>(by cases h),(callsIn_wide.2 (Jq C hTs (Se _) hxv.out hrl3 hH3)).mono ?_⟩;rintro e w4 ⟨v,rfl,hb4,rfl⟩;have hth4:=(RG.Made.alloc w4 [uZ 0,uZ 0,uZ 0,uZ 0] 41).there;have hb04:=hb03.trans (hb4.mono hb03.size);have hra4:=Uq _ _ 0 (ws x) hth4;obtain⟨d,hd1,hd2⟩:=Sf.1 u85;clear hth4 hra4 hTs hH3 hrl hrl3 hb3 hb4 hH2 hr1 hb2 hb1;obtain⟨w5,hw5⟩:∃w5,Hid ((w4.alloc (.cells #[uZ 0,uZ 0,uZ 0,uZ 0] 41)).setCells w4.heap.size 0 (ws x)=w5):=⟨_,rfl⟩
    have hb05:Hid (Below wr.heap.size wr w5):=by rw[<-hw5.out];exact RG.below_setCells hb04.size _ _ _ (hb04.alloc hb04.size _)
    have hra5:w5.rangeAt w4.heap.size 0 (ws x):=by rw[<-hw5.out];exact Uq _ _ 0 (ws x) (RG.Made.alloc w4 [uZ 0,uZ 0,uZ 0,uZ 0] 41).there
    gi_wp2_with (first|(refine bH rfl 41 _ _ rfl w4.heap.size 0 (ws x).toArray rfl rfl (RG.Made.alloc w4 [uZ 0,uZ 0,uZ 0,uZ 0] 41).there i85 kR ?_;rw[show(ws x).toArray.toList=ws x from rfl,hw5.out])|refine jB rfl 41 _ rfl w4.heap.size 0 rfl (ws x) d hra5 hd1 hd2 i85 ?_)
    refine⟨trivial,λh=>(by cases h),?_⟩;clear hra5 hd1 hd2;have hdum:True:=trivial;obtain⟨d8,hd81,hd82⟩:=Sf.1 g9;cases hrt:rt (x*x*x+7) with
    | none =>
     obtain⟨z,hz⟩:∃z:Fin P,Hid (z=0):=⟨_,rfl⟩
     have habove:=yP C x hrt w5;rw[<-hz.out]at habove;obtain⟨vz,hvz⟩:∃vz,Hid (pv z z=vz):=⟨_,rfl⟩
     rw[hvz.out]at habove;refine(callsIn_wide.2 habove).mono ?_;clear habove;rintro e w6 ⟨v,rfl,hb6,rfl⟩;have hcand:Hid (cand P lab b i=none):=by
      show cand P lab b i=none;unfold cand;rw[hT.out,if_pos hx.out,hfx.out,hrt];rfl
     clear hrt;have hbA:Hid (Below wr.heap.size wr ((w6.alloc (.cells #[uZ 0,uZ 0,uZ 0,uZ 0,uZ 0,uZ 0,uZ 0,uZ 0] 114)).setCells w6.heap.size 0 (ws z++ws z))):=
      have h6:=hb05.trans (hb6.mono hb05.size)
      RG.below_setCells h6.size _ _ _ (h6.alloc h6.size _)
     clear hb6;have hs8:(ws z++ws z).toArray.size=8:=kR;have hth6:Hid <| (w6.alloc (.cells #[uZ 0,uZ 0,uZ 0,uZ 0,uZ 0,uZ 0,uZ 0,uZ 0] 114)).there w6.heap.size 0 (ws z++ws z).toArray.size:=by show ZB _ _ _ _;rw[hs8];exact(RG.Made.alloc w6 [uZ 0,uZ 0,uZ 0,uZ 0,uZ 0,uZ 0,uZ 0,uZ 0] 114).there
     have hi8:Hid ((prog.info? 114).map (·.size)=some (ws z++ws z).toArray.size):=by show _=_;rw[hs8];exact i109
     clear hs8;obtain⟨w7,hw7⟩:∃w7,Hid ((w6.alloc (.cells #[uZ 0,uZ 0,uZ 0,uZ 0,uZ 0,uZ 0,uZ 0,uZ 0] 114)).setCells w6.heap.size 0 (ws z++ws z)=w7):=⟨_,rfl⟩
     rw[hw7.out]at hbA
     gi_wp2_with (refine bH rfl 114 _ _ rfl w6.heap.size 0 (ws z++ws z).toArray ?_ ?_ ?_ ?_ ?_ ?_;rfl;exact hvz.symm;exact hth6.out;exact hi8.out;kernel_rfl;rw[show(ws z++ws z).toArray.toList=ws z++ws z from rfl,hw7.out];refine XI ?_)
     clear hth6 hi8 hvz hz hw7 hb05 hfx hxv hx hT;show wpListIn _ _ _ _ _ _ _ _
     gi_wp2_with fail
     refine⟨λ_ h=>(by cases h),?_⟩
     gi_wp2_with fail
     refine⟨⟨i+1,oM,rfl,?_,hB.trans (hbA.mono hB.size),SD hsz hbA.size⟩,?_⟩
     ·rw[eY,hcand.out];exact hJ _ wr _ none (by simpa using hJi) (zU hbA.out none) (λ_ e=>by cases e)
     ·simp[intOf];omega
    | some y =>
     have habove:=yO C x y hrt w5;obtain⟨vz,hvz⟩:∃vz,Hid (pv x y=vz):=⟨_,rfl⟩
     rw[hvz.out]at habove;refine(callsIn_wide.2 habove).mono ?_;clear habove;rintro e w6 ⟨v,rfl,hb6,rfl⟩;have hcand:Hid (cand P lab b i=some (x,y)):=by
      show cand P lab b i=some (x,y);unfold cand;rw[hT.out,if_pos hx.out,hfx.out,hrt];rfl
     clear hrt;obtain⟨w7,hw7⟩:∃w7,Hid ((w6.alloc (.cells #[uZ 0,uZ 0,uZ 0,uZ 0,uZ 0,uZ 0,uZ 0,uZ 0] 114)).setCells w6.heap.size 0 (ws x++ws y)=w7):=⟨_,rfl⟩
     have hb07:Hid (Below wr.heap.size wr w7):=by
      rw[<-hw7.out];have h6:=hb05.trans (hb6.mono hb05.size);exact RG.below_setCells h6.size _ _ _ (h6.alloc h6.size _)
     clear hb6;have hra7:w7.rangeAt w6.heap.size 0 (ws x++ws y):=by rw[<-hw7.out];exact Uq _ _ 0 (ws x++ws y) (RG.Made.alloc w6 [uZ 0,uZ 0,uZ 0,uZ 0,uZ 0,uZ 0,uZ 0,uZ 0] 114).there
     have hJ7:Hid (J (cands P lab b i) w7):=hJ _ wr _ none (by simpa using hJi) (zU hb07.out none) (λ_ e=>by cases e);have hs8:(ws x++ws y).toArray.size=8:=kR;have hth6:Hid <| (w6.alloc (.cells #[uZ 0,uZ 0,uZ 0,uZ 0,uZ 0,uZ 0,uZ 0,uZ 0] 114)).there w6.heap.size 0 (ws x++ws y).toArray.size:=by show ZB _ _ _ _;rw[hs8];exact(RG.Made.alloc w6 [uZ 0,uZ 0,uZ 0,uZ 0,uZ 0,uZ 0,uZ 0,uZ 0] 114).there
     have hi8:Hid ((prog.info? 114).map (·.size)=some (ws x++ws y).toArray.size):=by show _=_;rw[hs8];exact i109
     clear hs8;obtain⟨fn,tmps,assign,body,hy,hR⟩:=hY (cands P lab b i) (x,y) w7 hJ7.out (Nat.lt_of_le_of_lt (FZ lab b i) oM);dsimp only at hy;obtain⟨va,hva⟩:∃va,Hid (SX (ws x++ws y).toArray=va):=⟨_,rfl⟩
     rw[show pv x y=va from hva.out]at hy
     gi_wp2_with (refine bH rfl 114 _ _ rfl w6.heap.size 0 (ws x++ws y).toArray ?_ ?_ ?_ ?_ ?_ ?_;rfl;exact hvz.symm;exact hth6.out;exact hi8.out;kernel_rfl;rw[show(ws x++ws y).toArray.toList=ws x++ws y from rfl,hw7.out];refine XI ?_)
     clear hth6 hi8 hw7 hb05 hfx hxv hx hT;have hR2:=Hid.mk hR;have hra8:=Hid.mk hra7;have hd8:=Hid.mk hd81;have hd9:=Hid.mk hd82;clear hR hra7 hd81 hd82;show wpListIn _ _ _ _ _ _ _ _
     gi_wp2_with (refine nH rfl 114 _ rfl w6.heap.size 0 ?_ (ws x++ws y) d8 ?_ ?_ ?_ ?_ ?_;rfl;exact hra8.out;exact hd8.out;exact hd9.out;exact i109;rw[hva.out];refine XI ?_)
     clear hra8 hd8 hd9 hva hvz;show wpListIn _ _ _ _ _ _ _ _
     gi_wp2_with fail
     refine⟨λh=>(by cases h),hR2.mono ?_⟩;clear hR2 hy;rintro e W8 (⟨rfl,hJ8,hk8⟩|⟨rfl,hJx8⟩)
     ·gi_wp2_with fail
      refine⟨⟨i+1,oM,rfl,?_,(hB.trans (hb07.mono hB.size)).trans hk8,SD hsz (SD hb07.size hk8.size)⟩,?_⟩
      ·rw[eY,hcand.out];exact hJ8
      ·simp[intOf];omega
     ·gi_wp2_with fail
      refine bodyPost_ret (results_none rfl _ _ _) rfl ?_;refine⟨⟨_,rfl⟩,.inr ⟨_,?_,hJx8⟩⟩;have hp:=yG (P:=P) lab b (i:=i+1) (j:=256) oM;rw[eY,hcand.out]at hp;exact hp
   ·have hcand:cand P lab b i=none:=by
     unfold cand;rw[hT.out,if_neg hx]
    gi_wp2_with fail
    refine⟨trivial,λh=>(by cases h),(callsIn_wide.2 (Jr C hTs (Se _) hx hrl3 hH3)).mono ?_⟩;rintro e w4 ⟨v,rfl,hb4,rfl⟩;have hth4:Hid ((w4.alloc (.cells #[uZ 0,uZ 0,uZ 0,uZ 0] 41)).there w4.heap.size 0 4):=(RG.Made.alloc w4 [uZ 0,uZ 0,uZ 0,uZ 0] 41).there;have hb04:=hb03.trans (hb4.mono hb03.size);have hbA:Hid (Below wr.heap.size wr ((w4.alloc (.cells #[uZ 0,uZ 0,uZ 0,uZ 0] 41)).setCells w4.heap.size 0 (ws (0:Fin P)))):=RG.below_setCells hb04.size _ _ _ (hb04.alloc hb04.size _);have hcand:Hid (cand P lab b i=none):=hcand;obtain⟨w7,hw7⟩:∃w7,Hid ((w4.alloc (.cells #[uZ 0,uZ 0,uZ 0,uZ 0] 41)).setCells w4.heap.size 0 (ws (0:Fin P))=w7):=⟨_,rfl⟩
    rw[hw7.out]at hbA
    gi_wp2_with (refine bH rfl 41 _ _ rfl w4.heap.size 0 (ws (0:Fin P)).toArray ?_ ?_ ?_ ?_ ?_ ?_;rfl;rfl;exact hth4.out;exact i85;kernel_rfl;rw[show(ws (0:Fin P)).toArray.toList=ws (0:Fin P) from rfl,hw7.out];refine XI ?_)
    clear hth4 hb04 hb03 hb4 hT hw7;show wpListIn _ _ _ _ _ _ _ _
    gi_wp2_with fail
    refine⟨⟨i+1,oM,rfl,?_,hB.trans (hbA.mono hB.size),SD hsz hbA.size⟩,?_⟩
    ·rw[eY,hcand.out];exact hJ _ wr _ none (by simpa using hJi) (zU hbA.out none) (λ_ e=>by cases e)
    ·simp[intOf];omega
end
section
open Go.RowKit Go.Sort Go.Deep Go.Shelf
variable {P:Nat}[NeZero P]{N:Nat}
theorem Cw(lab:ByteArray)(a:Option Addr)(m c:Nat)(w:World):
 Calls prog 125 #[.string lab,.slice a m c] w (Ret λe w'=>e=.func (.func 155) #[] #[.pointer (some ⟨w.heap.size,0,none⟩),.pointer (some ⟨w.heap.size+1,0,none⟩)]/\w'=(w.alloc (.cells #[.string lab] 9)).alloc (.cells #[.slice a m c] 23)):=by
 go_enter Tryz.func125,Tryz.ntmps125;go_wp2;go_ret;exact⟨_,rfl,rfl,rfl⟩
noncomputable def hpt (P:Nat) [NeZero P] (lab:ByteArray) (b:List UInt8):Fin P × Fin P:=(cands P lab b 256).headD (gX P,gY P)
theorem LP{lab:ByteArray}{b:List UInt8}{i:Nat}{x:Fin P × Fin P}(h:cand P lab b i=some x):x.2*x.2=x.1*x.1*x.1+7:=by
 unfold cand at h;split at h
 ·obtain⟨y,hy,rfl⟩:=Sf.1 h;exact AG hy
 ·cases h
theorem I9{lab:ByteArray}{b:List UInt8}{n:Nat}{x:Fin P × Fin P}(h:x∈cands P lab b n):x.2*x.2=x.1*x.1*x.1+7:=by
 unfold cands at h;obtain⟨i,-,hi⟩:=List.mem_filterMap.1 h;exact LP hi
theorem CX(C:Fld P)(lab:ByteArray)(b:List UInt8):EC.On (.some (hpt P lab b):EC.Pt P):=by
 unfold hpt;cases h:cands P lab b 256 with
 | nil=>exact II C
 | cons x r=>exact yA (x:=x.1) (y:=x.2) (I9 (by rw[h];exact Ti))
theorem J3(C:Fld P)(q:Fin P × Fin P)(h:EC.On (.some q:EC.Pt P)):xH q.1 q.2=wr (.some q:EC.Pt P):=EO C ⟨rfl,rfl⟩ h
theorem Og(C:Fld P)(lab:ByteArray)(b:List UInt8):xH (hpt P lab b).1 (hpt P lab b).2=wr (.some (hpt P lab b):EC.Pt P):=J3 C _ (CX C lab b)
theorem FN(C:Fld P)(lab:ByteArray)(a:Option Addr)(m c:Nat)(b:List UInt8)(w:World)(hlab:lab.size<=1000000)(hb:SP.PartOk w (.slice a m c) b):
 Calls prog 124 #[.func (.func 155) #[] #[.pointer (some ⟨w.heap.size,0,none⟩),.pointer (some ⟨w.heap.size+1,0,none⟩)]] ((w.alloc (.cells #[.string lab] 9)).alloc (.cells #[.slice a m c] 23)) (rZ w λe w'=>e=pv (hpt P lab b).1 (hpt P lab b).2):=by
 have hM1:=RG.Made.alloc w [.string lab] 9;have hM2:=RG.Made.alloc (w.alloc (.cells #[.string lab] 9)) [.slice a m c] 23;have hB1:Below w.heap.size w ((w.alloc (.cells #[.string lab] 9)).alloc (.cells #[.slice a m c] 23)):=((SE _ w).alloc (Se _) _).alloc (by rw[Sq];omega) _;have hs:((w.alloc (.cells #[.string lab] 9)).alloc (.cells #[.slice a m c] 23)).heap.size=w.heap.size+2:=by rw[Sq,Sq]
 have h1:((w.alloc (.cells #[.string lab] 9)).alloc (.cells #[.slice a m c] 23)).cell? ⟨w.heap.size,0,none⟩=some (.string lab):=by
  rw[SR (a:=⟨w.heap.size,0,none⟩) (YP _ _ _ (by rw[Sq];exact Vt _))];exact hM1.range 0 _ rfl
 have h2:((w.alloc (.cells #[.string lab] 9)).alloc (.cells #[.slice a m c] 23)).cell? ⟨w.heap.size+1,0,none⟩=some (.slice a m c):=by
  have:=hM2.range 0 _ rfl;rwa[Sq]at this
 refine(LC C _ (cands P lab b 256) 256 _ (λn=>Od C lab (.slice a m c) b w.heap.size (w.heap.size+1) _ hlab h1 h2 oM oM (hb.below hB1) n)).mono ?_;rintro e w' ⟨v,rfl,hb2,rfl⟩;exact⟨_,rfl,hB1.trans (hb2.mono hB1.size),rfl⟩
theorem Jy(C:Fld P)(lab:ByteArray)(a:Option Addr)(m c:Nat)(b:List UInt8)(w:World)(hlab:lab.size<=1000000)(hb:SP.PartOk w (.slice a m c) b):
 Calls prog 79 #[.string lab,.slice a m c] w (rZ w λe w'=>Jw w (wr (.some (hpt P lab b):EC.Pt P)) e w'):=by
 have hF:=FN C lab a m c b w hlab hb;have hBt:∀w,Calls prog 121 #[pv (hpt P lab b).1 (hpt P lab b).2] w (rZ w λe w'=>sE w (xH (hpt P lab b).1 (hpt P lab b).2) e w'):=EN C _ _;rw[Og C]at hBt;go_enter Tryz.func79,Tryz.ntmps79;go_wp2_with fail
 refine(Cw lab a m c w).mono ?_;rintro e w1 ⟨v,rfl,rfl,rfl⟩;go_wp2_with fail
 refine hF.mono ?_;rintro e w2 ⟨v,rfl,hb2,rfl⟩;have HB2:=mk1 (hb2);go_wp2_with fail
 refine(hBt _).mono ?_;rintro e w3 ⟨v,rfl,hb3,g,cap3,rfl,hc3,hg3,hlt3,hH3⟩;have HB3:=mk1 (HB2.trans (hb3.mono HB2.size));have HO:Hid (Jw w (wr (.some (hpt P lab b):EC.Pt P)) (.tuple #[.slice (some (aZ g)) 33 cap3,iZ 0]) w3):=⟨g,cap3,rfl,hc3,SD HB2.size hg3,hlt3,hH3⟩
 go_wp2
 go_ret2
 exact⟨_,rfl,HB3.out,HO.out⟩
end
section
open Go.RowKit Go.Sort Go.Deep
variable {P:Nat}[NeZero P]{N:Nat}
theorem EM(C:Fld P)(lb:ByteArray)(hlb:lb.size<=1000000)(ta:Option Addr)(tl tc:Nat)(tx:List UInt8)(w:World)(hP:SP.PartOk w (.slice ta tl tc) tx):
 Calls prog 38 #[.string lb,.slice ta tl tc] w (rZ w λe w'=>e=pvl (wr (.some (hpt P lb tx):EC.Pt P))):=by
 obtain⟨T,hT⟩:=hE (wr (.some (hpt P lb tx):EC.Pt P));have hTs:T.size=33:=by rw[<-hT.out];exact dB _
 rw[hT.out];have HC:=mk1 (C);have HP:=Hid.mk' hP;have HL:=Hid.mk' hlb;obtain⟨w1,hw1⟩:=hE (w.alloc (.cells z33.toArray 35));have K1:Hid (Row w1 w.heap.size z33/\Below w.heap.size w w1):=by rw[<-hw1.out];exact⟨aD w _ _,aB w _⟩
 obtain⟨d,hd1,hd2⟩:=Sf.1 uCP;have HD:=mk2 hd1 hd2;go_enter Tryz.func38,Tryz.ntmps38;go_wp2_with (refine bG (v:=.pointer (some ⟨w.heap.size,0,none⟩)) (w':=w1) rfl (.alloc 35) rfl ?_ ?_;(rw[<-hw1.out];kernel_rfl))
 refine(Jy HC.out lb ta tl tc tx w1 HL.out (HP.below K1.2)).mono ?_;rintro e w2 ⟨vv,rfl,hb2,g,cg,rfl,-,-,k3,k4⟩;rw[hT.out]at k4;have K2:=mk3 (K1.1.below hb2) (K1.2.trans (hb2.mono K1.2.size)) (G4 k4 k3);have harr:=MJ g cg;obtain⟨w3,hw3⟩:=hE (w2.setCells w.heap.size 0 (aA T));have hlen:=aH hTs;have K3:Hid (Row w3 w.heap.size (aA T)/\Below w.heap.size w w3):=by rw[<-hw3.out];exact⟨K2.1.put (by rw[hlen];rfl),RG.below_setCells (Se _) _ _ _ K2.2.1⟩
 obtain⟨vt,hvt⟩:=hE (SX (aA T).toArray);have HI:Hid ((prog.info? 35).map (·.size)=some (aA T).length/\w2.there w.heap.size 0 (aA T).toArray.size/\(prog.info? 35).map (·.size)=some (aA T).toArray.size):=by
  have e:(aA T).toArray.size=33:=by rw[Tf];exact hlen
  refine⟨by rw[hlen];exact eC,by rw[e];exact K2.1.2.2,by rw[e];exact eC⟩
 go_wp2_with (first|(refine wpList_load_mid rfl 35 _ rfl g 0 ?_ (aA T) d ?_ ?_ ?_ ?_ ?_;rfl;exact K2.2.2.2.1;exact HD.1;exact HD.2;exact HI.1;rw[hvt.out])|(refine wpList_store_mid rfl 35 _ _ rfl w.heap.size 0 (aA T).toArray ?_ ?_ ?_ ?_ ?_ ?_;rfl;exact hvt.symm;exact HI.2.1;exact HI.2.2;exact kJ T;rw[show(aA T).toArray.toList=aA T from rfl,hw3.out]))
 refine bodyPost_ret (aP 4 35 rfl K3.1 rfl uCP HI.1) rfl ?_;exact⟨_,rfl,K3.2,rfl⟩
theorem Mo:Gives 39 #[uZ 1] (nv 1):=by
 intro w;go_enter Tryz.func39,Tryz.ntmps39;refine RG.M.enter [(0,.v (uZ 1))] 6 kR ?_;intro a0 M0;repeat refine wp_seq ?_
 refine M0.T [.m 0] [(0,RG.z 4)] [] [RG.z 4] [0,2] ⟨RG.mk 0 43,trivial⟩ ?_;intro k a1 w1 M1;repeat refine wp_seq ?_
 refine M1.T [.x (uZ 1),.x (nv 1),.x (nv 1),.u 0] [] [(0,3,wn 1)] [wn 1] [2] ⟨RG.st,RG.st,RG.st,RG.pt i40,trivial⟩ ?_;intro a2 w2 M2;refine wp_ret ?_;refine bodyPost_ret (v:=nv 1) (RG.aE M2.st 2 43 rfl 0 _ rfl (M2.at (s:=(.p 0 0))) u40 i40) M2.sl.defers ?_;exact⟨_,rfl,M2.st.bel.below,rfl⟩
def Sm(B:Nat)(W:World)(v:Value)(l:List (Nat × Bs)):Prop:=∃g c,v=.slice (some (aZ g)) l.length c/\l.length<=c/\B<=g/\g<W.heap.size/\W.rangeAt g 0 (aO l)
theorem Sm.grow{B:Nat}{W W':World}{v:Value}{l:List (Nat × Bs)}(h:Sm B W v l)(hb:Below W.heap.size W W'):Sm B W' v l:=by
 obtain⟨g,c,h1,h2,h3,h4,h5⟩:=h;exact⟨g,c,h1,h2,h3,Si h4 hb.size,RG.range_below h5 hb h4⟩
theorem cellsT_one'(n:Nat)(a:Bs):aO [(n,a)]=wn n++aA a:=by rw[fG];exact U7 _
theorem Sm.one{B W k n}{w:World}{a:Bs}(h:Row w k (wn n++aA a))(hB:B<=k)(hW:w=W):Sm B W (.slice (some (aZ k)) 1 1) [(n,a)]:=by
 subst hW;exact⟨k,1,rfl,Se _,hB,h.1,by rw[cellsT_one'];exact h.2.1⟩
theorem infoT':(prog.info? 128).map (λi=>(i.size,i.bytes,i.zero.map λz=>z.cells.size))=some (37,72,some 37):=kR
theorem Es(n:Nat)(hn:n<=10000000)(w:World):Calls prog 109 #[.slice none 0 0,iZ n] w (rZ w λe w'=>w'.ownsRow w.heap.size 128 37 e 0 []):=by
 by_cases h0:n=0
 ·subst h0;go_enter Tryz.func109,Tryz.ntmps109;go_wp2;go_ret;exact⟨_,rfl,SE _ _,World.ownsRow_nil _ _ _ _⟩
 ·obtain⟨i,hi,he⟩:=Sf.1 infoT';simp only[Ud.injEq]at he;obtain⟨h1,h2,h3⟩:=he;obtain⟨z,hz,hz2⟩:=Sf.1 h3;have hr:=Lib.run_append_nil_zeros (P:=prog) w 57 3 57 128 i z .i64 .i64 BW QO hi hz n oM oM oM (by rw[h2];omega);have hcap:=grownCap_ge w n 0 128;have hcap2:=grownCap_le_maxLen w n 0 128 (by unfold maxLen;omega);have hcs:(UB z.cells n++UB z.cells (grownCap w n 0 128-n)).size=grownCap w n 0 128*37:=by rw[Tw,size_zeroCells,size_zeroCells,hz2];omega
  generalize grownCap w n 0 128=cp at hr hcap hcap2 hcs;generalize UB z.cells n++UB z.cells (cp-n)=cur at hr hcs;obtain⟨w1,hw1⟩:∃w1,Hid (w.drew.alloc (.cells cur 128)=w1):=⟨_,rfl⟩
  rw[hw1.out]at hr;have HR:=Hid.mk' hr;have K:Hid (Below w.heap.size w w1/\w1.ownsRow w.heap.size 128 37 (.slice (some ⟨w.heap.size,0,none⟩) 0 cp) 0 []):=by
   rw[<-hw1.out];exact⟨(SE _ _).drew.alloc (Se _) _,World.ownsRow_made w.drew cur cp (Se _) hcap2 hcs⟩
  go_enter Tryz.func109,Tryz.ntmps109;go_wp2_with (at_builtin;refine Lib.wpList_append_run _ rfl _ _ _ _ rfl _ _ rfl rfl _ _ HR.out ?_)
  go_ret;exact⟨_,rfl,K.1,K.2⟩
theorem Dk(l m:List (Nat × Bs)):aO (l++m)=aO l++aO m:=by unfold aO;rw[WH]
theorem FY(l:List (Nat × Bs)):∀u∈aO l,u.oneCell'=true:=λu hu=>by
 unfold aO at hu;obtain⟨x,-,hx⟩:=Xj.1 hu;exact cells_one x.1 x.2 u hx
theorem nZ:∀ {l:List (Nat × Bs)},(∀x∈l,x.2.size=33)->(aO l).length=l.length*37
 | [],_=>rfl
 | x :: r,h=>by
  rw[fG,Su,gU (h x Ti),nZ λy hy=>h y (S8 _ hy),Tc];omega
theorem A2{base B:Nat}{W:World}{v x:Value}{l m:List (Nat × Bs)}(hown:W.ownsRow base 128 37 v l.length (aO l))(hm:∀y∈m,y.2.size=33)(hx:Sm B W x m)(hn:l.length+m.length<=1000000)(hb:base<=W.heap.size):
 ∃v' W',(UG #[57,57] 57 #[v,x]).run prog W=.ok v' W'/\W'.ownsRow base 128 37 v' (l++m).length (aO (l++m))/\W.grownBy W' v.ownBlock:=by
 obtain⟨i,hi,he⟩:=Sf.1 infoT';simp only[Ud.injEq]at he;obtain⟨h1,h2,h3⟩:=he;obtain⟨z,hz,hz2⟩:=Sf.1 h3;obtain⟨k,c,rfl,e1,e2,e3,e4⟩:=hx;obtain⟨v',W',r1,r2,r3,-⟩:=run_append_own (P:=prog) W base 57 57 128 i z 37 72 BW hi hz h1 h2 hz2 dC v l.length (aO l) hown (aZ k) m.length c (aO m) (nZ hm)
  (λj u hj=>by
   have:=e4 j u hj;rw[Sj]at this;rw[add0];exact this) (FY m) (by unfold maxLen;omega) oM hb
 exact⟨v',W',r1,by rw[Su,Dk];exact r2,r3⟩
theorem atS(k o n c i:Nat)(hi:i<n)(w:World):(To 55 (.slice (some ⟨k,o,none⟩) n c) (iZ i)).run prog w=.ok (.pointer (some ⟨k,o+1*i,none⟩)) w:=by
 go_simp
def eO(L:Nat->List (Nat × Bs))(k:Nat):List (Nat × Bs):=(TD k).flatMap L
theorem dO(L:Nat->List (Nat × Bs))(i:Nat):eO L (i+1)=eO L i++L i:=by
 unfold eO;rw[XF,WH];simp
theorem Ag(L:Nat->List (Nat × Bs)){k m:Nat}(hs:∀j,j<k->(L j).length<=m):∀i,i<=k->(eO L i).length<=m*i
 | 0,_=>Se _
 | i+1,hi=>by
  have h1:=Ag L hs i oM;have h2:=hs i oM;rw[dO,Su,V0];omega
theorem FQ(g k c:Nat)(L:Nat->List (Nat × Bs))(hk:k<=1000)(hs:∀j,j<k->(L j).length<=600)(h33:∀j,j<k->∀x∈L j,x.2.size=33)(w:World)(hg:g<w.heap.size)(hL:∀j,j<k->∃x,w.cell? ⟨g,j,none⟩=some x/\Sm 0 w x (L j)):
 Calls prog 63 #[.slice (some (aZ g)) k c] w (rZ w λe w'=>w'.ownsRow w.heap.size 128 37 e (eO L k).length (aO (eO L k))):=by
 have HL:=Hid.mk' hL;have HS:=mk1 (Ag L hs);have HG:=Hid.mk' hg;have H3:=Hid.mk' h33;go_enter Tryz.func63,Tryz.ntmps63;go_wp2_with fail
 go_loopg [3,11] k (λm s3 s11 W=>∃i:Nat,i+m=k/\s11=iZ i/\s3=iZ ((eO L i).length:Int)/\w=W)
 case atStart=>exact⟨0,oM,rfl,rfl,rfl⟩
 case round =>
  obtain⟨i,hik,rfl,rfl,rfl⟩:=hrel;by_cases hi:i<k
  ·have hi':(i:Int)<(k:Int):=oM;obtain⟨x,hc,hE⟩:=HL.out i hi;obtain⟨kx,cx,rfl,h1,-⟩:=hE;have hix:=atS g 0 k c i hi;rw[show 0+1*i=i by omega]at hix;have hlen:(eO L (i+1)).length=(eO L i).length+(L i).length:=by rw[dO,Su]
   have hb1:=HS.out i oM;have hb2:=HS.out (i+1) oM;obtain⟨a,ha⟩:=hE ((eO L i).length);obtain⟨b,hb⟩:=hE ((L i).length);rw[ha.out]at hlen hb1;rw[hb.out]at hlen h1;rw[ha.out];rw[hb.out]at hc;go_wp2;go_roundg (gk-1)
   case measure=>omega
   case rel=>exact⟨i+1,oM,rfl,by rw[hlen,Zq],rfl⟩
  ·have hi':¬(i:Int)<(k:Int):=oM;obtain rfl:i=k:=oM;go_wp2_with fail
   refine(Es (eO L i).length (by have:=HS.out i (Se _);omega) w).mono ?_;rintro e w1 ⟨v,rfl,hb1,ho1⟩;have K1:=mk2 hb1 ho1;go_wp2_with fail
   go_loopg [6,27] i (λm s6 s27 W=>∃j:Nat,j+m=i/\s27=iZ j/\Hid (Below w.heap.size w W/\W.ownsRow w.heap.size 128 37 s6 (eO L j).length (aO (eO L j))))
   case atStart=>exact⟨0,oM,rfl,K1⟩
   case round =>
    obtain⟨j,hjk,rfl,KM⟩:=hrel;by_cases hj:j<i
    ·have hj':(j:Int)<(i:Int):=oM;obtain⟨x,hc0,hE0⟩:=HL.out j hj;have hc:wr.cell? ⟨g,j,none⟩=some x:=by rw[KM.1.cell (p:=⟨g,j,none⟩) HG.out];exact hc0
     have hE:=hE0.grow KM.1;have hb2:=HS.out (j+1) oM;have hlen:(eO L (j+1)).length=(eO L j).length+(L j).length:=by rw[dO,Su]
     obtain⟨v',W',r1,r2,r3⟩:=A2 KM.2 (H3 j hj) hE (by rw[<-hlen];omega) KM.1.size;rw[<-dO]at r2;have KN:Hid (Below w.heap.size w W'/\W'.ownsRow w.heap.size 128 37 v' (eO L (j+1)).length (aO (eO L (j+1)))):=⟨KM.1.grown r3 KM.1.size (λk hk=>(KM.2.lt k hk).1),r2⟩
     have HAP:=Hid.mk' r1;obtain⟨kx,cx,rfl,-⟩:=hE;have hix:=atS g 0 i c j hj;rw[show 0+1*j=j by omega]at hix;clear r1 r2 r3 hlen hb2 KM hE0 hc0;go_wp2_with (first|(refine iN (x:=u6) (y:=.slice (some (aZ kx)) (L j).length cx) (v:=v') (w':=W') rfl _ _ 57 rfl ?_ ?_ ?_ ?_;rfl;rfl;exact HAP.out)|fail)
     go_roundg (gk-1)
     case measure=>omega
     case rel=>exact⟨j+1,oM,rfl,KN⟩
    ·have hj':¬(j:Int)<(i:Int):=oM;obtain rfl:j=i:=oM;go_wp2;go_ret;exact⟨_,rfl,KM.1,KM.2⟩
theorem Ed{W:World}{base:Nat}{v:Value}{l:List (Nat × Bs)}(h:W.ownsRow base 128 37 v l.length (aO l))(hl:0<l.length):Sm base W v l:=by
 have h0:=λ{g:Nat}=>h.cells (g:=g)
 rcases h.2 with⟨-,h2⟩|⟨g,cap,cur,rfl,h1,hc,hn,-⟩
 ·omega
 ·refine⟨g,cap,rfl,hn,h1,(SZ.1 hc).1,λj u hu=>?_⟩;have:=h0 (g:=g) rfl j u hu;rw[add0]at this;rw[Sj];exact this
theorem qV(B:Nat)(s t:Value)(l m:List (Nat × Bs))(hl0:0<l.length)(hl:l.length<=500)(hm:m.length<=500)(hl3:∀x∈l,x.2.size=33)(hm3:∀x∈m,x.2.size=33)(w:World)(h1:Sm B w s l)(h2:Sm B w t m):
 Calls prog 28 #[s,t] w (rZ w λe w'=>Sm w.heap.size w' e (l++m)):=by
 have hb0:=hl0;obtain⟨g1,c1,e1,-⟩:=id h1;obtain⟨g2,c2,e2,-⟩:=id h2;subst e1;subst e2;obtain⟨w1,hw1⟩:=hE (w.alloc (.cells #[.slice (some (aZ g1)) l.length c1,.slice (some (aZ g2)) m.length c2] 57));have hb:Below w.heap.size w w1:=by rw[<-hw1.out];exact aB _ _
 have hlt:w.heap.size<w1.heap.size:=by rw[<-hw1.out,Sq];omega
 have hM:w1.rangeAt w.heap.size 0 [.slice (some (aZ g1)) l.length c1,.slice (some (aZ g2)) m.length c2]:=by rw[<-hw1.out];exact(RG.Made.alloc w [.slice (some (aZ g1)) l.length c1,.slice (some (aZ g2)) m.length c2] 57).range
 have HC:=Hid.mk' (FQ w.heap.size 2 2 (λj=>if j=0 then l else m) dC (λj _=>by show(if j=0 then l else m).length<=600;split<;>omega) (λj _=>by
  show ∀x∈(if j=0 then l else m),x.2.size=33;split
  ·exact hl3
  ·exact hm3) w1 hlt (λj hj=>by
  have hz:∀ {v:Value}{l:List (Nat × Bs)},Sm B w v l->Sm 0 w1 v l:=λh=>by
   obtain⟨g,c,q1,q2,-,q4,q5⟩:=h.grow hb;exact⟨g,c,q1,q2,Us _,q4,q5⟩
  have hj2:j=0\/j=1:=oM;rcases hj2 with rfl|rfl
  ·exact⟨_,hM 0 _ rfl,hz h1⟩
  ·exact⟨_,hM 1 _ rfl,hz h2⟩))
 have hcat:eO (λj=>if j=0 then l else m) 2=l++m:=by rw[dO,dO];rfl
 have HB:=Hid.mk' hb;have HK:Hid (eO (λj=>if j=0 then l else m) 2=l++m/\0<(l++m).length):=⟨hcat,by rw[Su];omega⟩
 go_enter Tryz.func28,Tryz.ntmps28;go_wp2_with fail
 rw[hw1.out];refine HC.mono ?_;rintro e w2 ⟨vv,rfl,hb2,ho⟩;rw[HK.1]at ho;have K2:Hid (Below w.heap.size w w2/\Sm w.heap.size w2 vv (l++m)):=by
  obtain⟨g,c,q1,q2,q3,q4,q5⟩:=Ed ho HK.2;exact⟨HB.trans (hb2.mono HB.size),g,c,q1,q2,SD HB.size q3,q4,q5⟩
 go_wp2;go_ret;exact⟨_,rfl,K2.1,K2.2⟩
theorem Sm.point(C:Fld P)(O:Ord N)(hord:∀r:EC.Pt P,EC.On r->EC.mul N r=none){B:Nat}{w:World}{v:Value}{l:List (Nat × Bs)}(h:Sm B w v l)(hl0:0<l.length)(hl:l.length<=512)(hn:∀x∈l,x.1<N)(hp:PtsL P l):
 Calls prog 34 #[v] w (rZ w λe w'=>e=pvl (wr (fK P l))):=by
 obtain⟨g,c,rfl,-,-,hg,hr⟩:=h;have h33:∀x∈l.map (·.2),x.size=33:=λx hx=>by
  obtain⟨y,hy,rfl⟩:=Tq.1 hx;obtain⟨X,-,e⟩:=hp y hy;rw[e];exact dB _
 have hm:∀j (hj:j<l.length),((l[j]?).getD (0,#[]))=l[j]:=λj hj=>by rw[SH hj];rfl
 have hX:∀j,j<l.length->EC.On (fZ P ((l[j]?).getD (0,#[])).2):=λj hj=>by rw[hm j hj];exact hp.on C (Tu hj)
 refine(Cb C O hord g l.length c hl0 hl (λj=>((l[j]?).getD (0,#[])).1) (λj=>fZ P ((l[j]?).getD (0,#[])).2) (λj hj=>by rw[hm j hj];exact hn _ (Tu hj)) hX w hg (λj hj=>?_)).mono ?_
 ·rw[hm j hj];obtain⟨X,x1,x2⟩:=hp _ (Tu hj);rw[x2,kM C x1,<-x2];intro t u hu;have ht:t<37:=by
   have:=(SI.1 hu).1;rw[gU (h33 _ (Tq.2 ⟨_,Tu hj,rfl⟩))]at this;exact this
  have:=hr (37*j+t) u (by rw[kH l h33 j hj t ht];exact hu);rw[Sj]at this;exact this
 ·rintro e w' ⟨u,rfl,hb,rfl⟩;refine⟨_,rfl,hb,?_⟩;rw[uA C l hp _ (Se _),YV]
theorem uY(C:Fld P){a b:EC.Pt P}(ha:EC.On a)(hb:EC.On b):∀n,EC.mul n (EC.add a b)=EC.add (EC.mul n a) (EC.mul n b)
 | 0=>rfl
 | n+1=>by
  show EC.add (EC.mul n (EC.add a b)) (EC.add a b)=EC.add (EC.add (EC.mul n a) a) (EC.add (EC.mul n b) b);rw[uY C ha hb n];exact C.cur.swap (EC.cD C.cur ha n) (EC.cD C.cur hb n) ha hb
def SmZ(B:Nat)(W:World)(v:Value)(l:List (Nat × Bs)):Prop:=(v=.slice none 0 0/\l=[])\/Sm B W v l
theorem SmZ.grow{B:Nat}{W W':World}{v:Value}{l:List (Nat × Bs)}(h:SmZ B W v l)(hb:Below W.heap.size W W'):SmZ B W' v l:=by
 rcases h with h|h
 ·exact SY h
 ·exact SJ (h.grow hb)
theorem SmZ.form{B:Nat}{W:World}{v:Value}{l:List (Nat × Bs)}(h:SmZ B W v l):∃q c,v=.slice q l.length c/\l.length<=c:=by
 rcases h with⟨rfl,rfl⟩|⟨g,c,h1,h2,-⟩
 ·exact⟨none,0,rfl,Se _⟩
 ·exact⟨_,_,h1,h2⟩
theorem OU:∀W:World,(UG #[57,57] 57 #[.slice none 0 0,.slice none 0 0]).run prog W=.ok (.slice none 0 0) W:=λW=>kR
theorem H7{base B:Nat}{W:World}{v x:Value}{l m:List (Nat × Bs)}(hown:W.ownsRow base 128 37 v l.length (aO l))(hm:∀y∈m,y.2.size=33)(hx:SmZ B W x m)(hn:l.length+m.length<=1000000)(hb:base<=W.heap.size):
 ∃v' W',(UG #[57,57] 57 #[v,x]).run prog W=.ok v' W'/\W'.ownsRow base 128 37 v' (l++m).length (aO (l++m))/\W.grownBy W' v.ownBlock:=by
 rcases hx with⟨rfl,rfl⟩|hx
 ·rw[U7];rcases id hown.2 with⟨rfl,h0⟩|⟨g,cap,cur,rfl,h1,h2,h3,-⟩
  ·exact⟨_,_,OU W,hown,⟨rfl,rfl,rfl,Se _,λ_ _ _=>rfl⟩⟩
  ·obtain⟨i,hi,he⟩:=Sf.1 infoT';have:=run_append_room_src (P:=prog) W 57 57 57 128 i BW hi g 0 l.length cap (.slice none 0 0) 0 [] (Src.ofNil (e':=128) _ BW 0) oM (λj hj=>by cases hj) (λj hj=>by cases hj);exact⟨_,_,this,hown,⟨rfl,rfl,rfl,Se _,λ_ _ _=>rfl⟩⟩
 ·exact A2 hown hm hx hn hb
theorem FO(g k c:Nat)(L:Nat->List (Nat × Bs))(hk:k<=1000)(hs:∀j,j<k->(L j).length<=600)(h33:∀j,j<k->∀x∈L j,x.2.size=33)(w:World)(hg:g<w.heap.size)(hL:∀j,j<k->∃x,w.cell? ⟨g,j,none⟩=some x/\SmZ 0 w x (L j)):
 Calls prog 63 #[.slice (some (aZ g)) k c] w (rZ w λe w'=>w'.ownsRow w.heap.size 128 37 e (eO L k).length (aO (eO L k))):=by
 have HL:=Hid.mk' hL;have HS:=mk1 (Ag L hs);have HG:=Hid.mk' hg;have H3:=Hid.mk' h33;go_enter Tryz.func63,Tryz.ntmps63;go_wp2_with fail
 go_loopg [3,11] k (λm s3 s11 W=>∃i:Nat,i+m=k/\s11=iZ i/\s3=iZ ((eO L i).length:Int)/\w=W)
 case atStart=>exact⟨0,oM,rfl,rfl,rfl⟩
 case round =>
  obtain⟨i,hik,rfl,rfl,rfl⟩:=hrel;by_cases hi:i<k
  ·have hi':(i:Int)<(k:Int):=oM;obtain⟨x,hc,hE⟩:=HL.out i hi;obtain⟨kx,cx,rfl,h1⟩:=hE.form;have hix:=atS g 0 k c i hi;rw[show 0+1*i=i by omega]at hix;have hlen:(eO L (i+1)).length=(eO L i).length+(L i).length:=by rw[dO,Su]
   have hb1:=HS.out i oM;have hb2:=HS.out (i+1) oM;obtain⟨a,ha⟩:∃a,Hid ((eO L i).length=a):=⟨_,rfl⟩
   obtain⟨b,hb⟩:∃b,Hid ((L i).length=b):=⟨_,rfl⟩
   rw[ha.out]at hlen hb1;rw[hb.out]at hlen h1;rw[ha.out];rw[hb.out]at hc;go_wp2;go_roundg (gk-1)
   case measure=>omega
   case rel=>exact⟨i+1,oM,rfl,by rw[hlen,Zq],rfl⟩
  ·have hi':¬(i:Int)<(k:Int):=oM;obtain rfl:i=k:=oM;go_wp2_with fail
   refine(Es (eO L i).length (by have:=HS.out i (Se _);omega) w).mono ?_;rintro e w1 ⟨v,rfl,hb1,ho1⟩;have K1:=mk2 hb1 ho1;go_wp2_with fail
   go_loopg [6,27] i (λm s6 s27 W=>∃j:Nat,j+m=i/\s27=iZ j/\Hid (Below w.heap.size w W/\W.ownsRow w.heap.size 128 37 s6 (eO L j).length (aO (eO L j))))
   case atStart=>exact⟨0,oM,rfl,K1⟩
   case round =>
    obtain⟨j,hjk,rfl,KM⟩:=hrel;by_cases hj:j<i
    ·have hj':(j:Int)<(i:Int):=oM;obtain⟨x,hc0,hE0⟩:=HL.out j hj;have hc:wr.cell? ⟨g,j,none⟩=some x:=by rw[KM.1.cell (p:=⟨g,j,none⟩) HG.out];exact hc0
     have hE:=hE0.grow KM.1;have hb2:=HS.out (j+1) oM;have hlen:(eO L (j+1)).length=(eO L j).length+(L j).length:=by rw[dO,Su]
     obtain⟨v',W',r1,r2,r3⟩:=H7 KM.2 (H3 j hj) hE (by rw[<-hlen];omega) KM.1.size;rw[<-dO]at r2;have KN:Hid (Below w.heap.size w W'/\W'.ownsRow w.heap.size 128 37 v' (eO L (j+1)).length (aO (eO L (j+1)))):=⟨KM.1.grown r3 KM.1.size (λk hk=>(KM.2.lt k hk).1),r2⟩
     have HAP:=Hid.mk' r1;obtain⟨kx,cx,rfl,-⟩:=hE.form;have hix:=atS g 0 i c j hj;rw[show 0+1*j=j by omega]at hix;clear r1 r2 r3 hlen hb2 KM hE0 hc0;go_wp2_with (first|(refine iN (x:=u6) (y:=.slice kx (L j).length cx) (v:=v') (w':=W') rfl _ _ 57 rfl ?_ ?_ ?_ ?_;rfl;rfl;exact HAP.out)|fail)
     go_roundg (gk-1)
     case measure=>omega
     case rel=>exact⟨j+1,oM,rfl,KN⟩
    ·have hj':¬(j:Int)<(i:Int):=oM;obtain rfl:j=i:=oM;go_wp2;go_ret;exact⟨_,rfl,KM.1,KM.2⟩
theorem kO(B:Nat)(s t:Value)(l m:List (Nat × Bs))(hl0:0<(l++m).length)(hl:l.length<=500)(hm:m.length<=500)(hl3:∀x∈l,x.2.size=33)(hm3:∀x∈m,x.2.size=33)(w:World)(h1:SmZ B w s l)(h2:SmZ B w t m):
 Calls prog 28 #[s,t] w (rZ w λe w'=>Sm w.heap.size w' e (l++m)):=by
 obtain⟨g1,c1,e1,-⟩:=h1.form;obtain⟨g2,c2,e2,-⟩:=h2.form;subst e1;subst e2;obtain⟨w1,hw1⟩:=hE (w.alloc (.cells #[.slice g1 l.length c1,.slice g2 m.length c2] 57));have hb:Below w.heap.size w w1:=by rw[<-hw1.out];exact aB _ _
 have hlt:w.heap.size<w1.heap.size:=by rw[<-hw1.out,Sq];omega
 have hM:w1.rangeAt w.heap.size 0 [.slice g1 l.length c1,.slice g2 m.length c2]:=by rw[<-hw1.out];exact(RG.Made.alloc w [.slice g1 l.length c1,.slice g2 m.length c2] 57).range
 have HC:=Hid.mk' (FO w.heap.size 2 2 (λj=>if j=0 then l else m) dC (λj _=>by show(if j=0 then l else m).length<=600;split<;>omega) (λj _=>by
  show ∀x∈(if j=0 then l else m),x.2.size=33;split
  ·exact hl3
  ·exact hm3) w1 hlt (λj hj=>by
  have hz:∀ {v:Value}{l:List (Nat × Bs)},SmZ B w v l->SmZ 0 w1 v l:=λh=>by
   rcases h.grow hb with h|⟨g,c,q1,q2,-,q4,q5⟩
   ·exact SY h
   ·exact SJ ⟨g,c,q1,q2,Us _,q4,q5⟩
  have hj2:j=0\/j=1:=oM;rcases hj2 with rfl|rfl
  ·exact⟨_,hM 0 _ rfl,hz h1⟩
  ·exact⟨_,hM 1 _ rfl,hz h2⟩))
 have hcat:eO (λj=>if j=0 then l else m) 2=l++m:=by rw[dO,dO];rfl
 have HB:=Hid.mk' hb;have HK:=mk2 hcat hl0;go_enter Tryz.func28,Tryz.ntmps28;go_wp2_with fail
 rw[hw1.out];refine HC.mono ?_;rintro e w2 ⟨vv,rfl,hb2,ho⟩;rw[HK.1]at ho;have K2:Hid (Below w.heap.size w w2/\Sm w.heap.size w2 vv (l++m)):=by
  obtain⟨g,c,q1,q2,q3,q4,q5⟩:=Ed ho HK.2;exact⟨HB.trans (hb2.mono HB.size),g,c,q1,q2,SD HB.size q3,q4,q5⟩
 go_wp2;go_ret;exact⟨_,rfl,K2.1,K2.2⟩
def Nw(B:Nat)(c:List Value)(v:Value)(W:World):Prop:=∃k,v=pZ k/\B<=k/\Row W k c
section
variable (w:World) (k6 k8 k9 k10 x kk c z B0:Nat) (A F:Bs) (v1:Value)
def R5:Nat->Value->World->Prop
 | 0,v,_=>v=nv kk
 | 1,v,_=>v=pvl A
 | 2,v,_=>v=pvl F
 | 3,v,W=>Nw B0 z33 v W
 | _,_,_=>True
def Two(v:Value)(W:World):Prop:=∃k y,v=.slice (some (aZ k)) 2 2/\k<W.heap.size/\W.cell? ⟨k,0,none⟩=some (.slice (some (aZ k9)) 33 33)/\W.cell? ⟨k,1,none⟩=some y/\El 32 W y (bx z)
end
theorem gI{P:Program}{fn:Func}{tmps:Array Value}{W:World}{k:Nat}{vs:List Value}{v:Value}(t u:Tmp)(T:TypeId)(hr:fn.results=#[.cell t T,.tmp u])(h:Row W k vs)(ht:tmps[t]? = some (pZ k))(hv:tmps[u]? = some v)
 (hu:(P.underlying T).map (·.isRow)=some true) (hi:(P.info? T).map (·.size)=some vs.length):(results fn tmps).run P W=.ok (.tuple #[.agg vs.toArray,v]) W:=by
 obtain⟨d,hu,hd⟩:=Sf.1 hu;have h1:=run_loadVar_mid (P:=P) W k 0 T vs d h.2.1 hu hd hi;have h2:tmps.getD t undef=pZ k:=by rw[Sz,ht];rfl
 have h3:tmps.getD u undef=v:=by rw[Sz,hv];rfl
 unfold results;rw[hr];simp only[Array.mapM_eq_mapM_toList,List.mapM_cons,List.mapM_nil,h2,h3,asAddr];simp[SK,h1]
theorem MG(w:World):(VA 35 #[]).run prog w=.ok (.agg z33.toArray) w:=kR
theorem OT(g o cg:Nat)(w:World):(Instr.arrayAt 35 (.slice (some ⟨g,o,none⟩) 33 cg)).run prog w=.ok (.pointer (some ⟨g,o,none⟩)) w:=kR
theorem AU{bs:Bs}{p:Fin P × Fin P}(h:rd P bs=some p):bs.size=33:=by
 unfold rd at h;split at h
 ·assumption
 ·cases h
theorem FD{W:World}{g o:Nat}{b:Bs}(h:Holds encB W g o b):W.rangeAt g o (aA b):=λj u hu=>by
 unfold aA at hu;rw[List.getElem?_map]at hu;obtain⟨x,hx,rfl⟩:=Sf.1 hu;have hj:j<b.size:=by have:=(SI.1 hx).1;simpa using this
 rw[(h j hj).1,getElem!_pos b j hj];rw[Array.getElem?_toList,SS hj]at hx;rw[Option.some.inj hx]
theorem EK(C:Fld P)(v:Value)(bs:Bs)(p:Fin P × Fin P)(w:World)(hv:Arg33 w v bs)(hr:rd P bs=some p):Calls prog 9 #[v] w (rZ w λe w'=>e=.tuple #[pvl bs,.bool true]):=by
 have hs:=AU hr;have HG:Hid (∀W,Below w.heap.size w W->Calls prog 22 #[v] W (rZ W λe w'=>e=.bool true)):=λW hb=>by
  have h:=Bq C v bs W (hv.below hb);rw[hr]at h;exact h
 obtain⟨q,n,cap,rfl,e1,e2⟩:=hv;rw[hs]at e1;subst e1;obtain⟨g,o,rfl,-,hg,hH⟩:=e2 rfl;have HH:=mk2 (FD hH) hg;obtain⟨w1,hw1⟩:=hE (w.alloc (.cells z33.toArray 35));have K1:Hid (Row w1 w.heap.size z33/\Below w.heap.size w w1):=by rw[<-hw1.out];exact⟨aD w _ _,aB w _⟩
 obtain⟨d,hd1,hd2⟩:=Sf.1 uCP;have HD:=mk2 hd1 hd2;have HS:=Hid.mk' hs;have harr:=OT g o cap;go_enter Tryz.func9,Tryz.ntmps9;go_wp2_with (first|(refine bG (v:=.pointer (some ⟨w.heap.size,0,none⟩)) (w':=w1) rfl (.alloc 35) rfl ?_ ?_;(rw[<-hw1.out];kernel_rfl))|fail)
 refine(HG w1 K1.2).mono ?_;rintro e w2 ⟨vv,rfl,hb2,rfl⟩;have K2:=mk3 (K1.1.below hb2) (K1.2.trans (hb2.mono K1.2.size)) (RG.range_below HH.1 (K1.2.trans (hb2.mono K1.2.size)) HH.2);obtain⟨w3,hw3⟩:=hE (w2.setCells w.heap.size 0 (aA bs));have hlen:=aH HS.out;have K3:Hid (Row w3 w.heap.size (aA bs)/\Below w.heap.size w w3):=by rw[<-hw3.out];exact⟨K2.1.put (by rw[hlen];rfl),RG.below_setCells (Se _) _ _ _ K2.2.1⟩
 obtain⟨vt,hvt⟩:=hE (SX (aA bs).toArray);have HI:Hid ((prog.info? 35).map (·.size)=some (aA bs).length/\w2.there w.heap.size 0 (aA bs).toArray.size/\(prog.info? 35).map (·.size)=some (aA bs).toArray.size):=by
  have e:(aA bs).toArray.size=33:=by rw[Tf];exact hlen
  refine⟨by rw[hlen];exact eC,by rw[e];exact K2.1.2.2,by rw[e];exact eC⟩
 go_wp2_with (first|(refine wpList_load_mid rfl 35 _ rfl g o ?_ (aA bs) d ?_ ?_ ?_ ?_ ?_;rfl;exact K2.2.2;exact HD.1;exact HD.2;exact HI.1;rw[hvt.out])|(refine wpList_store_mid rfl 35 _ _ rfl w.heap.size 0 (aA bs).toArray ?_ ?_ ?_ ?_ ?_ ?_;rfl;exact hvt.symm;exact HI.2.1;exact HI.2.2;exact kJ bs;rw[show(aA bs).toArray.toList=aA bs from rfl,hw3.out])|fail)
 refine bodyPost_ret (gI 2 3 35 rfl K3.1 rfl rfl uCP HI.1) rfl ?_;exact⟨_,rfl,K3.2,rfl⟩
theorem EL(C:Fld P)(v:Value)(bs:Bs)(w:World)(hv:Arg33 w v bs)(hr:rd P bs=none):Calls prog 9 #[v] w (rZ w λe w'=>e=.tuple #[.agg z33.toArray,.bool false]):=by
 have HG:Hid (∀W,Below w.heap.size w W->Calls prog 22 #[v] W (rZ W λe w'=>e=.bool false)):=λW hb=>by
  have h:=Bq C v bs W (hv.below hb);rw[hr]at h;exact h
 obtain⟨w1,hw1⟩:=hE (w.alloc (.cells z33.toArray 35));have K1:Hid (Row w1 w.heap.size z33/\Below w.heap.size w w1):=by rw[<-hw1.out];exact⟨aD w _ _,aB w _⟩
 obtain⟨vt,hvt⟩:=hE (SX z33.toArray);have HO:Hid (z33.toArray.all (·.oneCell')=true):=by show _=_;decide +kernel
 go_enter Tryz.func9,Tryz.ntmps9;go_wp2_with (first|(refine bG (v:=.pointer (some ⟨w.heap.size,0,none⟩)) (w':=w1) rfl (.alloc 35) rfl ?_ ?_;(rw[<-hw1.out];kernel_rfl))|fail)
 refine(HG w1 K1.2).mono ?_;rintro e w2 ⟨vv,rfl,hb2,rfl⟩;have K2:=mk2 (K1.1.below hb2) (K1.2.trans (hb2.mono K1.2.size));obtain⟨w3,hw3⟩:=hE (w2.setCells w.heap.size 0 z33);have K3:Hid (Row w3 w.heap.size z33/\Below w.heap.size w w3):=by rw[<-hw3.out];exact⟨K2.1.put rfl,RG.below_setCells (Se _) _ _ _ K2.2⟩
 have HB:=Hid.mk' (MG w2);rw[hvt.out]at HB;go_wp2_with (first|(refine d6 (v:=vt) (w':=w2) rfl 35 _ rfl #[] ?_ ?_ ?_;kernel_rfl;exact HB.out)|(refine wpList_store_mid rfl 35 _ _ rfl w.heap.size 0 z33.toArray ?_ ?_ ?_ ?_ ?_ ?_;rfl;exact hvt.symm;exact K2.1.2.2;exact eC;exact HO.out;rw[show z33.toArray.toList=z33 from rfl,hw3.out])|fail)
 refine bodyPost_ret (gI 2 3 35 rfl K3.1 rfl rfl uCP eC) rfl ?_;exact⟨_,rfl,K3.2,rfl⟩
theorem atP(k o n c i:Nat)(hi:i<n)(w:World):(To 38 (.slice (some ⟨k,o,none⟩) n c) (iZ i)).run prog w=.ok (.pointer (some ⟨k,o+33*i,none⟩)) w:=by
 go_simp
theorem PV(N:Nat)(hN:N<=512):∃C0:List Value,C0.length=33*N/\∀w:World,(Uc 38 (iZ N) (iZ N)).run prog w=.ok (.slice (some ⟨w.heap.size,0,none⟩) N N) (w.alloc (.cells C0.toArray 35)):=by
 have hu:prog.underlying 38=some (.slice 35):=kR;have hi:(prog.info? 35).map (λi=>(i.size,decide (i.bytes<=4000),i.zero.isSome))=some (33,true,true):=kR;obtain⟨i,hi1,hi2⟩:=Sf.1 hi;simp only[Ud.injEq,decide_eq_true_eq]at hi2;obtain⟨h1,h2,h3⟩:=hi2;obtain⟨z,hz⟩:=SU.1 h3;refine⟨(madeCells z.cells (N*33)).toList,by rw[Sx,size_madeCells,S9],λw=>?_⟩;have hb:(i.bytes:Int)*(N:Int)<=281474976710656:=by
  have:i.bytes*N<=4000*512:=T9 h2 hN;have h5:((i.bytes*N:Nat):Int)<=281474976710656:=oM;rwa[Uh]at h5
 have:=run_make (P:=prog) w 38 35 i z hu hi1 hz .i64 .i64 (N:Int) (N:Int) oM oM hb oM;rw[Vd,h1]at this;rw[UQ];exact this
structure Az(w W:World)(K k i:Nat)(L:Nat->Bs):Prop where
 bl:Below w.heap.size w W
 lt:K<W.heap.size
 th:W.there K 0 (33*k)
 rw:∀j,j<i->W.rangeAt K (33*j) (aA (L j))
theorem Az.grow{w W W':World}{K k i:Nat}{L:Nat->Bs}(h:Az w W K k i L)(hb:Below W.heap.size W W'):Az w W' K k i L:=
 ⟨h.bl.trans (hb.mono h.bl.size),Si h.lt hb.size,RG.eA h.th hb h.lt,λj hj=>RG.range_below (h.rw j hj) hb h.lt⟩
theorem Az.put{w W:World}{K k i:Nat}{L:Nat->Bs}(h:Az w W K k i L)(hK:w.heap.size<=K)(hi:i<k)(hL:∀j,j<=i->(L j).size=33):Az w (W.setCells K (33*i) (aA (L i))) K k (i+1) L:=by
 refine⟨RG.below_setCells hK _ _ _ h.bl,by rw[RG.setCells_size];exact h.lt,U8 h.th _ _ _,λj hj=>?_⟩;by_cases hji:j=i
 ·subst hji;refine Uq W K _ _ λt ht=>?_
  rw[aH (hL j (Se _))]at ht;have:=h.th (33*j+t) oM;rwa[Sj]at this
 ·exact Ul (h.rw j oM) K _ _ (SJ (SY (by rw[aH (hL j oM)];omega)))
def QK(P:Nat)[NeZero P](w:World)(k:Nat)(L:Nat->Bs)(e:Value)(w':World):Prop:=
 Below w.heap.size w w'/\(((∀j,j<k->∃p,rd P (L j)=some p)/\∃K,e=.tuple #[.slice (some (aZ K)) k k,.bool true]/\w.heap.size<=K/\K<w'.heap.size/\w'.there K 0 (33*k)/\∀j,j<k->w'.rangeAt K (33*j) (aA (L j)))\/((∃j,j<k/\rd P (L j)=none)/\e=.tuple #[.slice none 0 0,.bool false]))
theorem OV(C:Fld P)(gg o k c:Nat)(hk:k<=512)(L:Nat->Bs)(w:World)(hg:gg<w.heap.size)(hL:∀j,j<k->∃v,w.cell? ⟨gg,o+j,none⟩=some v/\Arg33 w v (L j)):
 Calls prog 23 #[.func (.func 9) #[] #[],.slice (some ⟨gg,o,none⟩) k c] w (Ret (QK P w k L)):=by
 obtain⟨C0,hC0,hmk⟩:=PV k hk;have hmk':=hmk w;obtain⟨w1,hw1⟩:=hE (w.alloc (.cells C0.toArray 35));rw[hw1.out]at hmk';have HM:=Hid.mk' hmk';have K1:Hid (Az w w1 w.heap.size k 0 L):=by
  have hR:Row w1 w.heap.size C0:=by rw[<-hw1.out];exact aD w _ _
  refine⟨by rw[<-hw1.out];exact aB _ _,hR.1,by rw[<-hC0];exact hR.2.2,λj hj=>oM⟩
 have HC:Hid (Fld P/\(∀j,j<k->∃v,w.cell? ⟨gg,o+j,none⟩=some v/\Arg33 w v (L j))/\gg<w.heap.size):=⟨C,hL,hg⟩
 obtain⟨d,hd1,hd2⟩:=Sf.1 uCP;have HD:=mk2 hd1 hd2;have HO:Hid (z33.toArray.all (·.oneCell')=true):=by show _=_;decide +kernel
 clear hd1 hd2 C hL hg hmk hC0 hw1;go_enter Tryz.func23,Tryz.ntmps23;go_wp2;clear hmk';go_loopg [16] k (λm s16 W=>∃i:Nat,i+m=k/\s16=iZ i/\Hid (Az w W w.heap.size k i L/\∀j,j<i->∃p,rd P (L j)=some p))
 case atStart=>exact⟨0,oM,rfl,K1.out,λj hj=>oM⟩
 case round =>
  obtain⟨i,hik,rfl,KM⟩:=hrel;by_cases hi:i<k
  ·have hi':(i:Int)<(k:Int):=oM;obtain⟨v,hc0,hA0⟩:=HC.2.1 i hi;have hc:wr.cell? ⟨gg,o+i,none⟩=some v:=by rw[KM.1.bl.cell (p:=⟨gg,o+i,none⟩) HC.2.2];exact hc0
   have HA:Hid (Arg33 wr v (L i)):=hA0.below KM.1.bl;have hix:=atB gg o k c i hi;rw[show o+1*i=o+i by omega]at hix;clear hc0 hA0;obtain⟨b,hbe⟩:∃b,Hid (L i=b):=⟨_,rfl⟩
   rw[hbe.out]at HA;obtain⟨k9,hk9⟩:∃k9:Nat,True:=⟨0,trivial⟩
   clear hk9 k9;cases hr:rd P b with
   | none =>
    go_wp2_with fail
    refine(EL HC.1 v b wr HA.out hr).mono ?_;rintro e W1 ⟨vv,rfl,hb1,rfl⟩;obtain⟨vz,hvz⟩:=hE (SX z33.toArray);rw[hvz.out];obtain⟨k9,hk9⟩:=hE (W1.heap.size);obtain⟨W2,hW2⟩:=hE (W1.alloc (.cells z33.toArray 35));obtain⟨W3,hW3⟩:=hE (W2.setCells k9 0 z33);have F2:Hid (Row W2 k9 z33/\Below w.heap.size w W2/\w.heap.size<=k9):=by
     have hbb:=KM.1.bl.trans (hb1.mono KM.1.bl.size);rw[<-hW2.out,<-hk9.out];exact⟨aD W1 _ _,hbb.alloc hbb.size _,hbb.size⟩
    have K3:Hid (Below w.heap.size w W3):=by rw[<-hW3.out];exact RG.below_setCells F2.2.2 _ _ _ F2.2.1
    have HN:Hid (i<k/\rd P (L i)=none):=⟨hi,by rw[hbe.out];exact hr⟩
    go_wp2_with (first|(refine bG (v:=pZ k9) (w':=W2) rfl (.alloc 35) rfl ?_ ?_;(rw[<-hW2.out,<-hk9.out];kernel_rfl))|(refine wpList_store_mid rfl 35 _ _ rfl k9 0 z33.toArray ?_ ?_ ?_ ?_ ?_ ?_;rfl;exact hvz.symm;exact F2.1.2.2;exact eC;exact HO.out;rw[show z33.toArray.toList=z33 from rfl,hW3.out])|fail)
    go_ret2
    exact⟨_,rfl,K3.out,SJ ⟨⟨i,HN.out⟩,rfl⟩⟩
   | some p =>
    have hs:=AU hr;go_wp2_with fail
    refine(EK HC.1 v b p wr HA.out hr).mono ?_;rintro e W1 ⟨vv,rfl,hb1,rfl⟩;obtain⟨vz,hvz⟩:=hE (pvl b);rw[hvz.out];have hlen:=aH hs;have hsz:(aA b).toArray.size=33:=by rw[Tf];exact hlen
    obtain⟨k9,hk9⟩:=hE (W1.heap.size);obtain⟨W2,hW2⟩:=hE (W1.alloc (.cells z33.toArray 35));obtain⟨W3,hW3⟩:=hE (W2.setCells k9 0 (aA b));obtain⟨W4,hW4⟩:=hE (W3.setCells w.heap.size (33*i) (aA b));have A1:=KM.1.grow hb1;have F2:Hid (Row W2 k9 z33/\Below W1.heap.size W1 W2):=by
     rw[<-hW2.out,<-hk9.out];exact⟨aD W1 _ _,aB _ _⟩
    have F3:Hid (Row W3 k9 (aA b)/\Az w W3 w.heap.size k i L):=by
     rw[<-hW3.out];exact⟨F2.1.put (by rw[hlen];rfl),A1.grow (RG.below_setCells (by rw[hk9.out];exact Se _) _ _ _ F2.2)⟩
    have K4:Hid (Az w W4 w.heap.size k (i+1) L/\∀j,j<i+1->∃p,rd P (L j)=some p):=by
     have hall:∀j,j<i+1->∃p,rd P (L j)=some p:=λj hj=>by
      by_cases hji:j=i
      ·subst hji;exact⟨p,by rw[hbe.out];exact hr⟩
      ·exact KM.2 j oM
     have h:=F3.2.put (Se _) hi (λj hj=>by obtain⟨q,hq⟩:=hall j oM;exact AU hq);rw[hbe.out,hW4.out]at h;exact⟨h,hall⟩
    have HI:Hid ((prog.info? 35).map (·.size)=some (aA b).length/\(prog.info? 35).map (·.size)=some (aA b).toArray.size/\W2.there k9 0 (aA b).toArray.size/\W3.there w.heap.size (33*i) (aA b).toArray.size):=by
     rw[hlen,hsz];refine⟨eC,eC,F2.1.2.2,λt ht=>?_⟩;have:=F3.2.th (33*i+t) oM;rwa[Sj]at this
    have hix2:=atP w.heap.size 0 k k i hi;go_wp2_with (first|(refine bG (v:=pZ k9) (w':=W2) rfl (.alloc 35) rfl ?_ ?_;(rw[<-hW2.out,<-hk9.out];kernel_rfl))|(refine wpList_store_mid rfl 35 _ _ rfl k9 0 (aA b).toArray ?_ ?_ ?_ ?_ ?_ ?_;rfl;exact hvz.symm;exact HI.2.2.1;exact HI.2.1;exact kJ b;rw[show(aA b).toArray.toList=aA b from rfl,hW3.out])|(refine wpList_load_mid rfl 35 _ rfl k9 0 ?_ (aA b) d ?_ ?_ ?_ ?_ ?_;rfl;exact F3.1.2.1;exact HD.1;exact HD.2;exact HI.1;rw[show SX (aA b).toArray=vz from hvz.out])|(refine wpList_store_mid rfl 35 _ _ rfl w.heap.size (33*i) (aA b).toArray ?_ ?_ ?_ ?_ ?_ ?_;rfl;exact hvz.symm;exact HI.2.2.2;exact HI.2.1;exact kJ b;rw[show(aA b).toArray.toList=aA b from rfl,hW4.out])|fail)
    go_roundg (gk-1)
    case measure=>omega
    case rel=>exact⟨i+1,oM,rfl,K4⟩
  ·have hi':¬(i:Int)<(k:Int):=oM;obtain rfl:i=k:=oM;go_wp2
   go_ret2
   exact⟨_,rfl,KM.1.bl,SY ⟨KM.2,w.heap.size,rfl,Se _,KM.1.lt,KM.1.th,KM.1.rw⟩⟩
theorem NW(O:Ord N){a:Nat}(ha:a<N):Gives 69 #[nv a] (nv (sMi N 0 a)):=by
 intro w;have h:=Np O 0 a O.pos ha;generalize sMi N 0 a=m at h⊢;go_enter Tryz.func69,Tryz.ntmps69;refine RG.M.enter [(0,.v (nv a))] 6 kR ?_;intro a0 M0;repeat refine wp_seq ?_
 refine M0.T [.m 0,.m 1] [(0,wn a),(1,RG.z 4)] [] [wn a,RG.z 4] [1,2] ⟨RG.mk 0 43,RG.mk 1 43,trivial⟩ ?_;intro j1 j2 a1 w1 M1;repeat refine wp_seq ?_
 refine M1.T [.x (nv 0),.x (nv a),.c (nv m),.u 1] [] [(1,3,wn m)] [wn a,wn m] [2] ⟨RG.st,RG.ld u40 i40,RG.cl h,RG.pt i40,trivial⟩ ?_;intro a2 w2 M2;refine wp_ret ?_;refine bodyPost_ret (v:=nv m) (RG.aE M2.st 2 43 rfl 1 _ rfl (M2.at (s:=(.p 1 0))) u40 i40) M2.sl.defers ?_;exact⟨_,rfl,M2.st.bel.below,rfl⟩
theorem Rn(N:Nat)(hN:N<=512):∃C0:List Value,C0.length=37*N/\∀w:World,(Uc 57 (iZ N) (iZ N)).run prog w=.ok (.slice (some ⟨w.heap.size,0,none⟩) N N) (w.alloc (.cells C0.toArray 128)):=by
 have hi:(prog.info? 128).map (λi=>(i.size,decide (i.bytes<=4000),i.zero.isSome))=some (37,true,true):=kR;obtain⟨i,hi1,hi2⟩:=Sf.1 hi;simp only[Ud.injEq,decide_eq_true_eq]at hi2;obtain⟨h1,h2,h3⟩:=hi2;obtain⟨z,hz⟩:=SU.1 h3;refine⟨(madeCells z.cells (N*37)).toList,by rw[Sx,size_madeCells,S9],λw=>?_⟩;have hb:(i.bytes:Int)*(N:Int)<=281474976710656:=by
  have:i.bytes*N<=4000*512:=T9 h2 hN;have h5:((i.bytes*N:Nat):Int)<=281474976710656:=oM;rwa[Uh]at h5
 have:=run_make (P:=prog) w 57 128 i z BW hi1 hz .i64 .i64 (N:Int) (N:Int) oM oM hb oM;rw[Vd,h1]at this;rw[UQ];exact this
theorem FX{W:World}{g:Nat}{l:List (Nat × Bs)}(h33:∀x∈l.map (·.2),x.size=33)(hr:W.rangeAt g 0 (aO l))(j:Nat)(hj:j<l.length):W.rangeAt g (37*j) (wn (l[j]).1++aA (l[j]).2):=λt u hu=>by
 have ht:t<37:=by
  have:=(SI.1 hu).1;rw[gU (h33 _ (Tq.2 ⟨_,Tu hj,rfl⟩))]at this;exact this
 have:=hr (37*j+t) u (by rw[kH l h33 j hj t ht];exact hu);rw[Sj]at this;exact this
theorem Ci{W:World}{g:Nat}{l:List (Nat × Bs)}(h33:∀x∈l.map (·.2),x.size=33)(hr:∀j (hj:j<l.length),W.rangeAt g (37*j) (wn (l[j]).1++aA (l[j]).2)):W.rangeAt g 0 (aO l):=λt u hu=>by
 have hlen:t<l.length*37:=by
  have:=(SI.1 hu).1;rwa[nZ λx hx=>h33 _ (Tq.2 ⟨x,hx,rfl⟩)]at this
 have hj:t/37<l.length:=Nat.div_lt_of_lt_mul oM;have ht:t%37<37:=Ug _ dC;have e:37*(t/37)+t%37=t:=Ww _ _;have h2:=kH l h33 (t/37) hj (t%37) ht;rw[e,hu]at h2;have:=hr (t/37) hj (t%37) u h2.symm;rw[e]at this;rw[Sj];exact this
def tmT(N n:Nat)(x:Nat × Bs):Nat × Bs:=(sTi N n x.1,x.2)
structure Tz(w W:World)(N n K k3 i:Nat)(l:List (Nat × Bs)):Prop where
 bl:Below w.heap.size w W
 lt:K<W.heap.size
 ne:k3≠K
 th:W.there K 0 (37*l.length)
 r3:Row W k3 (wn n)
 rw:∀j (hj:j<l.length),j<i->W.rangeAt K (37*j) (wn (tmT N n (l[j])).1++aA (tmT N n (l[j])).2)
theorem Tz.grow{w W W':World}{n K k3 i:Nat}{l:List (Nat × Bs)}(h:Tz w W N n K k3 i l)(hb:Below W.heap.size W W'):Tz w W' N n K k3 i l:=
 ⟨h.bl.trans (hb.mono h.bl.size),Si h.lt hb.size,h.ne,RG.eA h.th hb h.lt,h.r3.below hb,λj hj hji=>RG.range_below (h.rw j hj hji) hb h.lt⟩
theorem Tz.drew{w W:World}{n K k3 i:Nat}{l:List (Nat × Bs)}(h:Tz w W N n K k3 i l):Tz w W.drew N n K k3 i l:=⟨h.bl.drew,h.lt,h.ne,h.th,h.r3,h.rw⟩
theorem Tz.put{w W:World}{n K k3 i:Nat}{l:List (Nat × Bs)}(h:Tz w W N n K k3 i l)(hK:w.heap.size<=K)(hi:i<l.length)(h33:∀x∈l.map (·.2),x.size=33):Tz w (W.setCells K (37*i) (wn (tmT N n (l[i])).1++aA (tmT N n (l[i])).2)) N n K k3 (i+1) l:=by
 have hsz:∀(j:Nat) (hj:j<l.length),(wn (tmT N n (l[j])).1++aA (tmT N n (l[j])).2).length=37:=λj hj=>gU (h33 _ (Tq.2 ⟨_,Tu hj,rfl⟩))
 refine⟨RG.below_setCells hK _ _ _ h.bl,by rw[RG.setCells_size];exact h.lt,h.ne,U8 h.th _ _ _,⟨by rw[RG.setCells_size];exact h.r3.1,Ul h.r3.2.1 K _ _ (SY h.ne),U8 h.r3.2.2 _ _ _⟩,λj hj hji=>?_⟩;by_cases e:j=i
 ·subst e;refine Uq W K _ _ λt ht=>?_
  rw[hsz j hj]at ht;have:=h.th (37*j+t) oM;rwa[Sj]at this
 ·exact Ul (h.rw j hj oM) K _ _ (SJ (SY (by rw[hsz j hj];omega)))
section
variable (w:World) (n K k3 k7 i s m:Nat) (p:Bs) (l:List (Nat × Bs))
def Rt:Nat->Value->World->Prop
 | 0,v,_=>v=.slice (some (aZ K)) l.length l.length
 | 1,v,_=>v=iZ i
 | 2,v,_=>v=nv n
 | 3,v,_=>v=pZ k7
 | 4,v,_=>v=nv s
 | 5,v,_=>v=nv m
 | 6,v,_=>v=.pointer (some ⟨k7,4,none⟩)
 | 7,v,_=>v=pvl p
 | 8,v,_=>v=tvl m p
 | 9,v,_=>v=.pointer (some ⟨K,0+37*i,none⟩)
 | _,_,_=>True
def Gt(N:Nat):RG.Gw:=⟨Rt n K k7 i s m p l,λW=>Tz w W N n K k3 i l/\Row W k7 (wn s++aA p),λj v W W' hb h=>by
 match j,h with
 | 0,h=>exact h
 | 1,h=>exact h
 | 2,h=>exact h
 | 3,h=>exact h
 | 4,h=>exact h
 | 5,h=>exact h
 | 6,h=>exact h
 | 7,h=>exact h
 | 8,h=>exact h
 | 9,h=>exact h
 | _+10,_=>trivial,λW W' hb h=>⟨h.1.grow hb,h.2.below hb⟩⟩
end
theorem iP(O:Ord N){n:Nat}(hn:n<N)(B:Nat)(s:Value)(l:List (Nat × Bs))(hl:l.length<=512)(h33:∀x∈l.map (·.2),x.size=33)(hlN:∀x∈l,x.1<N)(w:World)(hS:Sm B w s l):
 Calls prog 67 #[s,nv n] w (rZ w λe w'=>Sm w.heap.size w' e (l.map (tmT N n))):=by
 obtain⟨g,c,rfl,hc,-,hg,hr⟩:=hS;have HB:=Hid.mk' (boxS n w);obtain⟨w1,hw1⟩:∃w1,Hid (w.alloc (.cells (wn n).toArray 43)=w1):=⟨_,rfl⟩
 rw[hw1.out]at HB;obtain⟨k3,hk3⟩:∃k,Hid (w.heap.size=k):=⟨_,rfl⟩
 obtain⟨K,hK⟩:∃k,Hid (w1.heap.size=k):=⟨_,rfl⟩
 have e1:K=k3+1:=by rw[<-hK.out,<-hk3.out,<-hw1.out,Sq]
 obtain⟨C0,hC0,hmk⟩:=Rn l.length hl;have hmk':=hmk w1;obtain⟨w2,hw2⟩:∃w2,Hid (w1.alloc (.cells C0.toArray 128)=w2):=⟨_,rfl⟩
 rw[hw2.out,hK.out]at hmk';rw[hk3.out]at HB;have K2:Hid (Tz w w2 N n K k3 0 l):=by
  have hR1:Row w1 k3 (wn n):=by rw[<-hw1.out,<-hk3.out];exact aD w _ _
  have b1:Below w.heap.size w w1:=by rw[<-hw1.out];exact aB _ _
  have b2:Below w1.heap.size w1 w2:=by rw[<-hw2.out];exact aB _ _
  have hR2:Row w2 K C0:=by rw[<-hw2.out,<-hK.out];exact aD w1 _ _
  exact⟨b1.trans (b2.mono b1.size),hR2.1,oM,by rw[<-hC0];exact hR2.2.2,hR1.below b2,λj hj hji=>oM⟩
 have HF:Hid (Ord N/\n<N/\(∀x∈l.map (·.2),x.size=33)/\(∀x∈l,x.1<N)/\g<w.heap.size/\w.rangeAt g 0 (aO l)/\w.heap.size<=K):=⟨O,hn,h33,hlN,hg,hr,by rw[hk3.out];omega⟩
 obtain⟨d',hd3,hd4⟩:=Sf.1 uT;have HD:Hid (prog.underlying 128=some d'/\d'.isRow=true):=⟨hd3,hd4⟩
 obtain⟨vn,hvn⟩:∃v,Hid (nv n=v):=⟨_,rfl⟩
 rw[hvn.out]at HB⊢;clear hd3 hd4 O hn h33 hlN hg hr hmk hC0 hw1 hw2 hK hk3 e1;go_enter Tryz.func67,Tryz.ntmps67;go_wp2_with (first|(refine aI (u:=vn) (v:=pZ k3) (w':=w1) rfl 43 (.tmp 1) rfl ?_ ?_ ?_;rfl;exact HB.out)|fail)
 clear hmk';go_loopg [13] l.length (λm s13 W=>∃i:Nat,i+m=l.length/\s13=iZ i/\Hid (Tz w W N n K k3 i l))
 case atStart=>exact⟨0,oM,rfl,K2⟩
 case round =>
  clear K2 HB;obtain⟨i,hik,rfl,KM⟩:=hrel;by_cases hi:i<l.length
  ·have hi':(i:Int)<(l.length:Int):=oM;obtain⟨s,hse⟩:∃s,Hid ((l[i]'hi).1=s):=⟨(l[i]'hi).1,(rfl:(l[i]'hi).1=(l[i]'hi).1)⟩
   obtain⟨p,hpe⟩:∃p,Hid ((l[i]'hi).2=p):=⟨(l[i]'hi).2,(rfl:(l[i]'hi).2=(l[i]'hi).2)⟩
   have hps:Hid (p.size=33):=by rw[<-hpe.out];exact HF.2.2.1 _ (Tq.2 ⟨_,Tu hi,rfl⟩)
   have hsN:Hid (s<N):=by rw[<-hse.out];exact HF.2.2.2.1 _ (Tu hi)
   have B0:Hid (wr.rangeAt g (37*i) (wn s++aA p)):=by
    have h:=RG.range_below (FX HF.2.2.1 HF.2.2.2.2.2.1 i hi) KM.bl HF.2.2.2.2.1;rw[hse.out,hpe.out]at h;exact h
   obtain⟨k7,hk7⟩:∃k,Hid (wr.heap.size=k):=⟨_,rfl⟩
   obtain⟨W1,hW1⟩:∃W1,Hid (wr.alloc (.cells zT.toArray 128)=W1):=⟨_,rfl⟩
   obtain⟨W2,hW2⟩:∃W2,Hid (W1.setCells k7 0 (wn s++aA p)=W2):=⟨_,rfl⟩
   have hlen:(wn s++aA p).length=37:=gU hps.out;have F1:Hid (Row W1 k7 zT/\Below wr.heap.size wr W1):=by rw[<-hW1.out,<-hk7.out];exact⟨aD wr _ _,aB wr _⟩
   have F2:Hid (Row W2 k7 (wn s++aA p)/\Tz w W2 N n K k3 i l):=by
    rw[<-hW2.out];exact⟨F1.1.put (by rw[hlen];rfl),KM.grow (RG.below_setCells (by rw[hk7.out];exact Se _) _ _ _ F1.2)⟩
   have HLT:Hid ((prog.info? 128).map (·.size)=some (wn s++aA p).length):=by show _=_;rw[hlen];exact iT
   have HLS:Hid ((prog.info? 128).map (·.size)=some (wn s++aA p).toArray.size/\W1.there k7 0 (wn s++aA p).toArray.size):=by
    have e:(wn s++aA p).toArray.size=37:=by rw[Tf];exact hlen
    rw[e];exact⟨iT,F1.1.2.2⟩
   have HAL:Hid ((wn s++aA p).toArray.all (·.oneCell')=true):=by
    show _=_;rw[Up];intro u hu;exact cells_one s p u (Vj.1 hu)
   have hix:=atT g 0 l.length c i hi;obtain⟨vt,hvt⟩:∃v,Hid (SX (wn s++aA p).toArray=v):=⟨_,rfl⟩
   have HL:Hid (i<l.length):=hi;clear hlen KM F1;go_wp2_with (first|(refine wpList_load_mid rfl 128 _ rfl g (37*i) ?_ (wn s++aA p) d' ?_ ?_ ?_ ?_ ?_;rfl;exact B0.out;exact HD.1;exact HD.2;exact HLT.out;rw[hvt.out])|(refine bG (v:=pZ k7) (w':=W1) rfl (.alloc 128) rfl ?_ ?_;(rw[<-hW1.out,<-hk7.out];kernel_rfl))|(refine wpList_store_mid rfl 128 _ _ rfl k7 0 (wn s++aA p).toArray ?_ ?_ ?_ ?_ ?_ ?_;rfl;exact hvt.symm;exact HLS.2;exact HLS.1;exact HAL.out;rw[show(wn s++aA p).toArray.toList=wn s++aA p from rfl,hW2.out])|fail)
   clear hW1 hW2 hk7;refine(Gt w n K k3 k7 i s (sTi N n s) p l N).last 10 kR kR kR ⟨
    RG.cE λa W hp=>⟨[(5,.slice (some (aZ K)) l.length l.length)],.slice (some (aZ K)) l.length l.length,W,⟨hp.o 5 kR,trivial⟩,kR,SE _ _,rfl⟩,
    RG.cE λa W hp=>⟨[(6,iZ i)],iZ i,W,⟨hp.o 6 kR,trivial⟩,kR,SE _ _,rfl⟩,
    RG.lG 43 3 rfl Go.Proofs.YtnakcnljhmlikaaGreat.u40 λa W hp=>⟨k3,0,wn n,hp.o 3 kR,hp.b.1.r3.2.1,i40,rfl⟩,
    RG.cE λa W hp=>⟨[(7,pZ k7)],pZ k7,W,⟨hp.o 7 kR,trivial⟩,kR,SE _ _,rfl⟩,
    RG.lG 43 21 rfl Go.Proofs.YtnakcnljhmlikaaGreat.u40 λa W hp=>⟨k7,0,wn s,hp.n 3 21 kR kR,jJ hp.b.2.2.1,i40,rfl⟩,
    RG.jN λa W hp=>⟨[(20,nv n),(22,nv s)],27,#[nv n,nv s],⟨hp.n 2 20 kR kR,hp.n 4 22 kR kR,trivial⟩,kR,(Cf HF.1 n s HF.2.1 hsN.out W).mono (by
     rintro e W' ⟨u,rfl,hb,rfl⟩;exact⟨_,rfl,hb,rfl⟩)⟩,
    RG.cE λa W hp=>⟨[(7,pZ k7)],.pointer (some ⟨k7,4,none⟩),W,⟨hp.o 7 kR,trivial⟩,kR,SE _ _,rfl⟩,
    RG.lG 35 24 rfl uCP λa W hp=>⟨k7,4,aA p,hp.n 6 24 kR kR,kV (xs:=wn s) hp.b.2.2.1,by rw[aH hps.out];exact eC,rfl⟩,
    RG.cE λa W hp=>⟨[(23,nv (sTi N n s)),(25,pvl p)],tvl (sTi N n s) p,W,⟨hp.n 5 23 kR kR,hp.n 7 25 kR kR,trivial⟩,by
     rw[Ud.injEq];refine⟨kR,?_⟩;refine Eq.trans (b:=((VA 128 #[(0,nv (sTi N n s)),(1,pvl p)]) >>= λv=>pure (UP v)).run prog W) kR ?_;rw[SK,Qv hps.out];rfl,SE _ _,rfl⟩,
    RG.cE λa W hp=>⟨[(18,.slice (some (aZ K)) l.length l.length),(19,iZ i)],.pointer (some ⟨K,0+37*i,none⟩),W,⟨hp.n 0 18 kR kR,hp.n 1 19 kR kR,trivial⟩,by
     rw[Ud.injEq];refine⟨kR,?_⟩;show((To 57 (.slice (some (aZ K)) l.length l.length) (iZ i)) >>= λv=>pure (UP v)).run prog W=_;rw[SK,atT K 0 l.length l.length i HL.out];rfl,SE _ _,rfl⟩,trivial⟩ ⟨F2.2.drew,F2.1⟩ ?_
   intro V W3 hR3 hB3;have hV8:V 8=tvl (sTi N n s) p:=hR3 8 dC;have hV9:V 9=.pointer (some ⟨K,0+37*i,none⟩):=hR3 9 dC;have hlen2:(wn (sTi N n s)++aA p).length=37:=gU hps.out;obtain⟨W4,hW4⟩:∃W4,Hid (W3.setCells K (37*i) (wn (sTi N n s)++aA p)=W4):=⟨_,rfl⟩
   have K4:Hid (Tz w W4 N n K k3 (i+1) l):=by
    have h:=hB3.1.put HF.2.2.2.2.2.2 HL.out HF.2.2.1;have e:tmT N n (l[i]'HL.out)=(sTi N n s,p):=by
     have h1:=hse.out;have h2:=hpe.out;unfold tmT;rw[h1,h2]
    rw[e]at h;rw[<-hW4.out];exact h
   have HT:Hid (W3.there K (37*i) (wn (sTi N n s)++aA p).toArray.size/\(prog.info? 128).map (·.size)=some (wn (sTi N n s)++aA p).toArray.size/\(wn (sTi N n s)++aA p).toArray.all (·.oneCell')=true):=by
    have e:(wn (sTi N n s)++aA p).toArray.size=37:=by rw[Tf];exact hlen2
    refine⟨λt ht=>?_,by rw[e];exact iT,?_⟩
    ·rw[e]at ht;have:=hB3.1.th (37*i+t) (by have:=HL.out;omega);rwa[Sj]at this
    ·rw[Up];intro u hu;exact cells_one _ p u (Vj.1 hu)
   dsimp only[RG.dJ,TG,UY,U0];simp only[Tt,Sw,SN,SQ];obtain⟨vz,hvz⟩:∃v,Hid (tvl (sTi N n s) p=v):=⟨_,rfl⟩
   rw[hV8,hV9,hvz.out,Sj];clear hR3 hB3 hV8 hV9 hlen2 F2;generalize V 0=s0;generalize V 1=s1;generalize V 2=s2;generalize V 3=s3;generalize V 4=s4;generalize V 5=s5;generalize V 6=s6;generalize V 7=s7;go_wp2_with (first|(refine wpList_store_mid rfl 128 _ _ rfl K (37*i) (wn (sTi N n s)++aA p).toArray ?_ ?_ ?_ ?_ ?_ ?_;rfl;exact hvz.symm;exact HT.1;exact HT.2.1;exact HT.2.2;rw[show(wn (sTi N n s)++aA p).toArray.toList=wn (sTi N n s)++aA p from rfl,hW4.out])|fail)
   go_roundg (gk-1)
   case measure=>omega
   case rel=>exact⟨i+1,oM,rfl,K4⟩
  ·have hi':¬(i:Int)<(l.length:Int):=oM;obtain rfl:i=l.length:=oM;have KS:Hid (Below w.heap.size w wr/\Sm w.heap.size wr (.slice (some (aZ K)) l.length l.length) (l.map (tmT N n))):=by
    refine⟨KM.bl,K,l.length,by rw[SO],by rw[SO];exact Se _,HF.2.2.2.2.2.2,KM.lt,Ci (λx hx=>?_) λj hj=>?_⟩
    ·obtain⟨y,hy,rfl⟩:=Tq.1 hx;obtain⟨z,hz,rfl⟩:=Tq.1 hy;exact HF.2.2.1 _ (Tq.2 ⟨z,hz,rfl⟩)
    ·rw[List.getElem_map];rw[SO]at hj;exact KM.rw j hj hj
   clear KM;go_wp2;go_ret;exact⟨_,rfl,KS.1,KS.2⟩
end
namespace SPA
structure Md(N:Nat)[NeZero N](M:Type) where
 ad:M->M->M
 zo:M
 ac:(Fin N)->M->M
 comm:∀a b,ad a b=ad b a
 assoc:∀a b c,ad (ad a b) c=ad a (ad b c)
 zadd:∀a,ad zo a=a
 acAd:∀r a b,ac r (ad a b)=ad (ac r a) (ac r b)
 adAc:∀r s a,ac (r+s) a=ad (ac r a) (ac s a)
 acAc:∀r s a,ac r (ac s a)=ac (r*s) a
 acOne:∀a,ac 1 a=a
 zac:∀a,ac 0 a=zo
variable {N:Nat}[NeZero N]{M:Type}
namespace Md
variable (D:Md N M)
theorem QB(a:M):D.ad a D.zo=a:=by rw[D.comm,D.zadd]
theorem swap(a b c d:M):D.ad (D.ad a b) (D.ad c d)=D.ad (D.ad a c) (D.ad b d):=by
 rw[D.assoc,<-D.assoc b,D.comm b c,D.assoc c,<-D.assoc]
theorem acz(r:(Fin N)):D.ac r D.zo=D.zo:=by
 have h:=D.zac D.zo;rw[<-h,D.acAc,show r*0=(0:(Fin N)) by grind]
def sm(f:Nat->M):Nat->M
 | 0=>D.zo
 | n+1=>D.ad (sm f n) (f n)
theorem AC{f g:Nat->M}:∀n,(∀i,i<n->f i=g i)->D.sm f n=D.sm g n
 | 0,_=>rfl
 | n+1,h=>by
  show D.ad _ _=D.ad _ _;rw[AC n λi hi=>h i oM,h n oM]
theorem DT(f g:Nat->M):∀n,D.sm (λi=>D.ad (f i) (g i)) n=D.ad (D.sm f n) (D.sm g n)
 | 0=>(D.zadd _).symm
 | n+1=>by
  show D.ad _ _=D.ad (D.ad _ _) (D.ad _ _);rw[DT f g n,D.swap]
theorem GO(r:(Fin N))(f:Nat->M):∀n,D.sm (λi=>D.ac r (f i)) n=D.ac r (D.sm f n)
 | 0=>(D.acz r).symm
 | n+1=>by
  show D.ad _ _=D.ac r (D.ad _ _);rw[GO r f n,D.acAd]
theorem GN(f:Nat->M)(n:Nat):∀m,D.sm f (n+m)=D.ad (D.sm f n) (D.sm (λi=>f (n+i)) m)
 | 0=>(D.QB _).symm
 | m+1=>by
  show D.ad (D.sm f (n+m)) _=D.ad _ (D.ad _ _);rw[GN f n m,D.assoc];rfl
instance:Std.Associative D.ad:=⟨D.assoc⟩
instance:Std.Commutative D.ad:=⟨D.comm⟩
def dt(a:Nat->(Fin N))(g:Nat->M)(n:Nat):M:=D.sm (λi=>D.ac (a i) (g i)) n
theorem Dc(a:Nat->(Fin N))(g:Nat->M)(n m:Nat):D.dt a g (n+m)=D.ad (D.dt a g n) (D.dt (λi=>a (n+i)) (λi=>g (n+i)) m):=D.GN _ n m
theorem Dd(x y:(Fin N))(hxy:x*y=1)(a c:Nat->(Fin N))(g k:Nat->M)(n:Nat):
 D.dt (λi=>x*a i+y*c i) (λi=>D.ad (D.ac y (g i)) (D.ac x (k i))) n
  = D.ad (D.ad (D.ac (x*x) (D.dt a k n)) (D.ad (D.dt a g n) (D.dt c k n))) (D.ac (y*y) (D.dt c g n)):=by
 unfold dt;rw[<-D.GO,<-D.GO,<-D.DT,<-D.DT,<-D.DT];refine D.AC n λi _=>?_
 rw[D.acAd,D.acAc,D.acAc,D.acAc,D.acAc,show(x*a i+y*c i)*y=a i+y*y*c i by grind,show(x*a i+y*c i)*x=x*x*a i+c i by grind,D.adAc,D.adAc]
 ac_rfl
end Md
def own(N:Nat)[NeZero N]:Md N (Fin N) where
 ad:=(·+·)
 zo:=0
 ac:=(·*·)
 comm:=by grind
 assoc:=by grind
 zadd:=by grind
 acAd:=by grind
 adAc:=by grind
 acAc:=by grind
 acOne:=by grind
 zac:=by grind
namespace Md
variable (D:Md N M)
def pr(a b:Nat->(Fin N))(n:Nat):(Fin N):=(own N).dt a b n
def hd(a b:Nat->(Fin N))(g h:Nat->M)(u:M)(n:Nat):M:=D.ad (D.ad (D.dt a g n) (D.dt b h n)) (D.ac (pr a b n) u)
def lf(a b:Nat->(Fin N))(g h:Nat->M)(u:M)(n:Nat):M:=D.hd a (λi=>b (n+i)) (λi=>g (n+i)) h u n
def rt(a b:Nat->(Fin N))(g h:Nat->M)(u:M)(n:Nat):M:=D.hd (λi=>a (n+i)) b g (λi=>h (n+i)) u n
def fS(x y:(Fin N))(n:Nat)(a:Nat->(Fin N))(i:Nat):(Fin N):=x*a i+y*a (n+i)
def fP(x y:(Fin N))(n:Nat)(g:Nat->M)(i:Nat):M:=D.ad (D.ac x (g i)) (D.ac y (g (n+i)))
theorem halved(x y:(Fin N))(hxy:x*y=1)(a b:Nat->(Fin N))(g h:Nat->M)(u:M)(n:Nat):
 D.hd (fS x y n a) (fS y x n b) (D.fP y x n g) (D.fP x y n h) u n
  = D.ad (D.ad (D.ac (x*x) (D.lf a b g h u n)) (D.hd a b g h u (n+n))) (D.ac (y*y) (D.rt a b g h u n)):=by
 have e1:=D.Dd x y hxy a (λi=>a (n+i)) g (λi=>g (n+i)) n;have e2:=D.Dd y x (by rw[<-hxy];grind) b (λi=>b (n+i)) h (λi=>h (n+i)) n;have e3:=(own N).Dd x y hxy a (λi=>a (n+i)) b (λi=>b (n+i)) n;unfold lf rt hd pr;rw[show D.dt (fS x y n a) (D.fP y x n g) n=_ from e1,show D.dt (fS y x n b) (D.fP x y n h) n=_ from e2,show(own N).dt (fS x y n a) (fS y x n b) n=_ from e3,D.Dc,D.Dc,(own N).Dc];simp only[D.acAd,D.acAc];rw[show(own N).ad ((own N).ad ((own N).ac (x*x) ((own N).dt a (λi=>b (n+i)) n)) ((own N).ad ((own N).dt a b n) ((own N).dt (λi=>a (n+i)) (λi=>b (n+i)) n))) ((own N).ac (y*y) ((own N).dt (λi=>a (n+i)) b n))
  = (x*x*(own N).dt a (λi=>b (n+i)) n+(own N).ad ((own N).dt a b n) ((own N).dt (λi=>a (n+i)) (λi=>b (n+i)) n))+y*y*(own N).dt (λi=>a (n+i)) b n from rfl,D.adAc,D.adAc]
 ac_rfl
def pv{S:Type}(ch:S->M->M->S × (Fin N))(iv:(Fin N)->(Fin N))(u:M):Nat->S->(Nat->(Fin N))->(Nat->(Fin N))->(Nat->M)->(Nat->M)->List (M × M) × (Fin N) × (Fin N)
 | 0,_,a,b,_,_=>([],a 0,b 0)
 | t+1,s,a,b,g,h =>
  let L:=D.lf a b g h u (2^t)
  let T:=D.rt a b g h u (2^t)
  let c:=ch s L T
  let r:=pv ch iv u t c.1 (fS c.2 (iv c.2) (2^t) a) (fS (iv c.2) c.2 (2^t) b) (D.fP (iv c.2) c.2 (2^t) g) (D.fP c.2 (iv c.2) (2^t) h)
  ((L,T) :: r.1,r.2)
def vf{S:Type}(ch:S->M->M->S × (Fin N))(iv:(Fin N)->(Fin N))(u:M)(a b:(Fin N)):List (M × M)->S->M->(Nat->M)->(Nat->M)->Prop
 | [],_,p,g,h=>p=D.ad (D.ad (D.ac a (g 0)) (D.ac b (h 0))) (D.ac (a*b) u)
 | (L,T) :: l,s,p,g,h =>
  let c:=ch s L T
  let x:=c.2
  let y:=iv x
  vf ch iv u a b l c.1 (D.ad (D.ad (D.ac (x*x) L) p) (D.ac (y*y) T)) (D.fP y x (2^l.length) g) (D.fP x y (2^l.length) h)
theorem Ol(a b:Nat->(Fin N))(g h:Nat->M)(u:M):D.hd a b g h u 1=D.ad (D.ad (D.ac (a 0) (g 0)) (D.ac (b 0) (h 0))) (D.ac (a 0*b 0) u):=by
 show D.ad (D.ad (D.ad D.zo _) (D.ad D.zo _)) (D.ac ((0:(Fin N))+a 0*b 0) u)=_;rw[D.zadd,D.zadd,show(0:(Fin N))+a 0*b 0=a 0*b 0 by grind]
def cm(H G:M)(c r:(Fin N)):M:=D.ad (D.ac c H) (D.ac r G)
end Md
end SPA
section
open SPA
variable {P:Nat}[NeZero P]{N:Nat}[NeZero N]
abbrev OnP(P:Nat)[NeZero P]:={p:EC.Pt P // EC.On p}
def aL(C:Fld P)(hord:∀r:EC.Pt P,EC.On r->EC.mul N r=none):Md N (OnP P) where
 ad a b:=⟨EC.add a.1 b.1,C.cur.on a.2 b.2⟩
 zo:=⟨none,EC.fV⟩
 ac r a:=⟨EC.mul r.val a.1,EC.cD C.cur a.2 _⟩
 comm a b:=VF (C.cur.comm a.2 b.2)
 assoc a b c:=VF (C.cur.assoc a.2 b.2 c.2)
 zadd _:=rfl
 acAd r a b:=VF (uY C a.2 b.2 _)
 adAc r s a:=VF (by
  show EC.mul (r+s).val a.1=_;rw[ZY,mul_mod C hord a.2,EC.mul_add C.cur a.2])
 acAc r s a:=VF (by
  show _=EC.mul (r*s).val a.1;rw[U6,mul_mod C hord a.2,S9,EC.lB C.cur a.2])
 acOne a:=VF (by
  show EC.mul (1:Fin N).val a.1=_;rw[show(1:Fin N).val=1%N from rfl,mul_mod C hord a.2];rfl)
 zac a:=VF (by
  show EC.mul (0:Fin N).val a.1=_;rw[show(0:Fin N).val=0%N from rfl,mul_mod C hord a.2];rfl)
omit [NeZero N] in
theorem NM(a b:Fin N):(a+b).val=sPl N a.val b.val:=ZY a b
omit [NeZero N] in
theorem Ng(a b:Fin N):(a*b).val=sTi N a.val b.val:=U6 a b
def ivF(a:Fin N):Fin N:=⟨sIn N a.val,Ug _ (VQ N)⟩
theorem CU(h:NT.IsP N)(a:Fin N)(ha:a.val≠0):a*ivF a=1:=by
 apply Vx;have h2:=h.1;have hd:¬N ∣ a.val:=λhd=>by
  have:=Nat.le_of_dvd oM hd;have:=a.isLt;omega
 rw[U6,show(ivF a).val=a.val^(N-2)%N from rfl,Nat.mul_mod_mod,<-Nat.pow_succ',show(N-2).succ=N-1 by omega,h.fermat1 a.val hd];show 1=1%N;rw[SA oM]
structure Tl(N:Nat)(l:List (Nat × Bs))(X:OnP P):Prop where
 pts:PtsL P l
 lt:∀x∈l,x.1<N
 sum:fK P l=X.1
omit [NeZero N] in
theorem AA(C:Fld P):∀ {l m:List (Nat × Bs)},PtsL P l->PtsL P m->fK P (l++m)=EC.add (fK P l) (fK P m)
 | [],_,_,_=>rfl
 | x :: r,m,h,hm=>by
  have hr:PtsL P r:=λz hz=>h z (S8 _ hz)
  show EC.add (EC.mul x.1 (fZ P x.2)) (fK P (r++m))=EC.add (EC.add _ _) _;rw[AA C hr hm];exact(C.cur.assoc (EC.cD C.cur (h.on C Ti) _) (mV C hr) (mV C hm)).symm
omit [NeZero N] in
theorem DN(C:Fld P)(hord:∀r:EC.Pt P,EC.On r->EC.mul N r=none)(n:Nat):∀ {l:List (Nat × Bs)},PtsL P l->fK P (l.map (tmT N n))=EC.mul n (fK P l)
 | [],_=>(EC.mG n).symm
 | x :: r,h=>by
  have hr:PtsL P r:=λz hz=>h z (S8 _ hz)
  have hx:=h.on C (x:=x) Ti;show EC.add (EC.mul (sTi N n x.1) (fZ P x.2)) (fK P (r.map (tmT N n)))=EC.mul n (EC.add (EC.mul x.1 (fZ P x.2)) (fK P r));rw[DN C hord n hr,uY C (EC.cD C.cur hx _) (mV C hr)];unfold sTi;rw[mul_mod C hord hx,S9,EC.lB C.cur hx]
section
variable (C:Fld P) (hord:∀r:EC.Pt P,EC.On r->EC.mul N r=none)
theorem Tl.nil:Tl N [] (aL C hord).zo:=⟨λ_ h=>(SL h).elim,λ_ h=>(SL h).elim,rfl⟩
theorem Tl.app{l m:List (Nat × Bs)}{X Y:OnP P}(h:Tl N l X)(k:Tl N m Y):Tl N (l++m) ((aL C hord).ad X Y):=
 ⟨λx hx=>(UT.1 hx).elim (h.pts x) (k.pts x),λx hx=>(UT.1 hx).elim (h.lt x) (k.lt x),by
  rw[AA C h.pts k.pts,h.sum,k.sum];rfl⟩
theorem Tl.tm{l:List (Nat × Bs)}{X:OnP P}(h:Tl N l X)(n:Fin N):Tl N (l.map (tmT N n.val)) ((aL C hord).ac n X):=
 ⟨λx hx=>by
  obtain⟨y,hy,rfl⟩:=Tq.1 hx;exact h.pts y hy,λx hx=>by
  obtain⟨y,hy,rfl⟩:=Tq.1 hx;exact Ug _ (VQ N),by
  rw[DN C hord n.val h.pts,h.sum];rfl⟩
omit [NeZero N] in
theorem Tl.one(C:Fld P)(h1:1<N)(X:OnP P):Tl N [(1,wr X.1)] X:=
 ⟨λx hx=>⟨X.1,X.2,by rw[VX.1 hx]⟩,λx hx=>by rw[VX.1 hx];exact h1,by
  show EC.add (EC.mul 1 (fZ P (wr X.1))) none=_;rw[kM C X.2,EC.bE];rfl⟩
def eJ(N:Nat)(a:Nat->Nat)(T:Nat->List (Nat × Bs)):Nat->List (Nat × Bs)
 | 0=>[]
 | n+1=>eJ N a T n++(T n).map (tmT N (a n))
theorem ED{a:Nat->Fin N}{T:Nat->List (Nat × Bs)}{g:Nat->OnP P}:∀n,(∀i,i<n->Tl N (T i) (g i))->Tl N (eJ N (λi=>(a i).val) T n) ((aL C hord).dt a g n)
 | 0,_=>Tl.nil C hord
 | n+1,h=>(ED n λi hi=>h i oM).app C hord ((h n oM).tm C hord (a n))
theorem eS(N:Nat)(a:Nat->Nat){T:Nat->List (Nat × Bs)}{c:Nat}:∀n,(∀i,i<n->(T i).length=c)->(eJ N a T n).length=c*n
 | 0,_=>rfl
 | n+1,h=>by
  show(eJ N a T n++_).length=_;rw[Su,SO,eS N a n (λi hi=>h i oM),h n oM,V0]
def qE(N x y n:Nat)(T:Nat->List (Nat × Bs))(i:Nat):List (Nat × Bs):=(T i).map (tmT N x)++(T (n+i)).map (tmT N y)
theorem LA{T:Nat->List (Nat × Bs)}{g:Nat->OnP P}(x y:Fin N)(n:Nat)(h:∀i,i<n+n->Tl N (T i) (g i))(i:Nat)(hi:i<n):Tl N (qE N x.val y.val n T i) ((aL C hord).fP x y n g i):=
 ((h i oM).tm C hord x).app C hord ((h (n+i) oM).tm C hord y)
theorem IK(N x y n:Nat){T:Nat->List (Nat × Bs)}{c:Nat}(h:∀i,i<n+n->(T i).length=c)(i:Nat)(hi:i<n):(qE N x y n T i).length=c+c:=by
 unfold qE;rw[Su,SO,SO,h i oM,h (n+i) oM]
end
end
section
open SPA
variable {N:Nat}[NeZero N]
def ofF(N:Nat)[NeZero N](n:Nat):Fin N:=⟨n%N,Ug _ (VQ N)⟩
theorem Ib:ofF N 0=0:=Vx rfl
end
namespace SPA
variable {N:Nat}[NeZero N]{M:Type}
namespace Md
variable (D:Md N M)
theorem Ee(p:M):D.ad p (D.ac (-1) p)=D.zo:=by
 have h:=D.adAc 1 (-1) p;rw[show(1:(Fin N))+-1=0 by grind,D.zac,D.acOne]at h;exact h.symm
theorem Ni(e p:M):D.ad e (D.ac (-1) p)=D.zo↔p=e:=by
 constructor
 ·intro h;have h1:D.ad (D.ad e (D.ac (-1) p)) p=D.ad D.zo p:=by rw[h]
  rw[D.assoc,D.comm _ p,D.Ee,D.QB,D.zadd]at h1;exact h1.symm
 ·rintro rfl;exact D.Ee p
theorem Is{a b c:(Fin N)}(hb:a*b=1)(hc:a*c=1):b=c:=by
 have:b=(a*b)*c+b*(1-a*c):=by grind
 rw[hb,hc]at this;grind
structure Vs(S M:Type) where
 s:S
 p:M
 g:Nat->M
 h:Nat->M
structure Ps(S R M:Type) where
 s:S
 a:Nat->R
 b:Nat->R
 g:Nat->M
 h:Nat->M
section
variable {S:Type}(ch:S->M->M->S × (Fin N)) (iv:(Fin N)->(Fin N)) (u:M)
def Aw(n:Nat)(L T:M)(v:Vs S M):Vs S M:=
 let c:=ch v.s L T
 ⟨c.1,D.ad (D.ad (D.ac (c.2*c.2) L) v.p) (D.ac (iv c.2*iv c.2) T),D.fP (iv c.2) c.2 n v.g,D.fP c.2 (iv c.2) n v.h⟩
def vst(t:Nat)(L T:Nat->M)(v:Vs S M):Nat->Vs S M
 | 0=>v
 | i+1=>D.Aw ch iv (2^(t-(i+1))) (L i) (T i) (vst t L T v i)
def pL(n:Nat)(q:Ps S (Fin N) M):M:=D.lf q.a q.b q.g q.h u n
def pT(n:Nat)(q:Ps S (Fin N) M):M:=D.rt q.a q.b q.g q.h u n
def JK(a b:(Fin N))(v:Vs S M):Prop:=v.p=D.ad (D.ad (D.ac a (v.g 0)) (D.ac b (v.h 0))) (D.ac (a*b) u)
end
end Md
end SPA
section
open SPA
variable {N:Nat}[NeZero N]
theorem PZ(h:NT.IsP N)(x:Fin N)(hx:x.val≠0)(hxx:(x*x).val≠0):ivF (x*x)=ivF x*ivF x:=by
 refine Md.Is (CU h _ hxx) ?_;have e:=CU h x hx
 grobner
end
section
open SPA
variable {P:Nat}[NeZero P]{N:Nat}[NeZero N]
def KW(a:Fin N):Fin N:=if a=0 then 1 else a
theorem KV(h:1<N)(a:Fin N):(KW a).val≠0:=by
 unfold KW;split
 ·show 1%N≠0;rw[SA h];decide
 ·rename_i h0
  exact λe=>h0 (Vx (e.trans (VG N).symm))
def lY(lab1 lab2:List UInt8)(L X Y:Bs):Bs:=SP.jY (SP.jY L lab1 X.toList) lab2 Y.toList
def Ak(N:Nat)[NeZero N](L:Bs):Fin N:=KW (ofF N (cha N L))
def gZ(L:Bs):Bs:=SP.lJ L [99,104,97,108,108,101,110,103,101]
def chF(N:Nat)[NeZero N](L:Bs)(X Y:OnP P):Bs × Fin N:=
 let L2:=lY [108,101,102,116] [114,105,103,104,116] L (wr X.1) (wr Y.1)
 (gZ L2,Ak N L2)
theorem L9(h:1<N)(L:Bs):(Ak N L).val≠0:=by
 unfold Ak;exact KV h _
theorem LL(L:Bs)(X Y:OnP P):∃L2,(chF N L X Y).2=Ak N L2:=by
 unfold chF;dsimp only;exact⟨_,rfl⟩
theorem OK(h:NT.IsP N)(L:Bs)(X Y:OnP P):(chF N L X Y).2*ivF (chF N L X Y).2=1:=by
 obtain⟨L2,e⟩:=LL (N:=N) L X Y;rw[e];have:=L9 h.1 L2;generalize Ak N L2=a at *;exact CU h a this
theorem OJ(h:NT.IsP N)(L:Bs)(X Y:OnP P):((chF N L X Y).2*(chF N L X Y).2).val≠0:=λe=>by
 have h1:=OK h L X Y;have h2:(chF N L X Y).2*(chF N L X Y).2=0:=Vx (e.trans (VG N).symm);generalize (chF N L X Y).2=x at *;generalize ivF x=y at *;have h3:(1:Fin N)=0:=by grobner
 have h4:1%N=0%N:=congrArg Fin.val h3;have:=h.1;rw[SA oM,VG]at h4;exact absurd h4 dC
end
namespace SPA
variable {N:Nat}[NeZero N]{M:Type}
namespace Md
variable (D:Md N M)
theorem GG(a b p:M):D.ad p (D.ad a b)=D.ad (D.ad a p) b:=by ac_rfl
theorem GH(a b p:M):D.ad (D.ad p a) b=D.ad (D.ad a p) b:=by ac_rfl
end Md
end SPA
section
open SPA
variable {P:Nat}[NeZero P]{N:Nat}[NeZero N]
theorem Tl.pt(C:Fld P)(hord:∀r:EC.Pt P,EC.On r->EC.mul N r=none)(n:Fin N)(X:OnP P):Tl N [(n.val,wr X.1)] ((aL C hord).ac n X):=
 ⟨λx hx=>⟨X.1,X.2,by rw[VX.1 hx]⟩,λx hx=>by rw[VX.1 hx];exact n.isLt,by
  show EC.add (EC.mul n.val (fZ P (wr X.1))) none=_;rw[kM C X.2,EC.bE];rfl⟩
structure Gd(N n c:Nat)(T:Nat->List (Nat × Bs))(g:Nat->OnP P):Prop where
 tl:∀i,i<n->Tl N (T i) (g i)
 len:∀i,i<n->(T i).length=c
section
variable (C:Fld P) (hord:∀r:EC.Pt P,EC.On r->EC.mul N r=none)
theorem Gd.fold{n c:Nat}{T:Nat->List (Nat × Bs)}{g:Nat->OnP P}(h:Gd N (n+n) c T g)(x y:Fin N):Gd N n (c+c) (qE N x.val y.val n T) ((aL C hord).fP x y n g):=
 ⟨λi hi=>LA C hord x y n h.tl i hi,λi hi=>IK N x.val y.val n h.len i hi⟩
theorem Gd.cmb{n c:Nat}{T:Nat->List (Nat × Bs)}{g:Nat->OnP P}(h:Gd N n c T g)(a:Nat->Fin N):Tl N (eJ N (λi=>(a i).val) T n) ((aL C hord).dt a g n)/\(eJ N (λi=>(a i).val) T n).length=c*n:=
 ⟨ED C hord n h.tl,eS N _ n h.len⟩
def IC(N:Nat)(a b:Nat->Nat)(p:Nat)(G H:Nat->List (Nat × Bs))(U:List (Nat × Bs))(n:Nat):List (Nat × Bs):=eJ N a G n++eJ N b H n++U.map (tmT N p)
theorem Oj{n c d:Nat}{G H:Nat->List (Nat × Bs)}{U:List (Nat × Bs)}{g h:Nat->OnP P}{u:OnP P}(hG:Gd N n c G g)(hH:Gd N n c H h)(hU:Tl N U u)(hd:U.length=d)(a b:Nat->Fin N):
 Tl N (IC N (λi=>(a i).val) (λi=>(b i).val) (Md.pr a b n).val G H U n) ((aL C hord).hd a b g h u n)/\(IC N (λi=>(a i).val) (λi=>(b i).val) (Md.pr a b n).val G H U n).length=c*n+c*n+d:=by
 refine⟨((hG.cmb C hord a).1.app C hord (hH.cmb C hord b).1).app C hord (hU.tm C hord _),?_⟩;unfold IC;rw[Su,Su,SO,eS N _ n hG.len,eS N _ n hH.len,hd]
end
end
section
open Go.RowKit Go.Sort Go.Deep
variable {P:Nat}[NeZero P]{N:Nat}
def BL(W:World)(q:Option Addr)(n:Nat)(X:Nat->List UInt8):Prop:=0<n->∃g,q=some (aZ g)/\g<W.heap.size/\∀i,i<n->∃a l c,W.cell? ⟨g,i,none⟩=some (.slice a l c)/\SP.PartOk W (.slice a l c) (X i)
structure Ar(w W:World)(K e n i:Nat)(R:Nat->List Value):Prop where
 bl:Below w.heap.size w W
 lt:K<W.heap.size
 th:W.there K 0 (e*n)
 rw:∀j,j<i->W.rangeAt K (e*j) (R j)
theorem Mp{T E:TypeId}{e:Nat}(hu:prog.underlying T=some (.slice E))(hi:(prog.info? E).map (λi=>(i.size,decide (i.bytes<=4000),i.zero.isSome))=some (e,true,true))(n:Nat)(hN:n<=512):∃C0:List Value,C0.length=e*n/\∀w:World,(Uc T (iZ n) (iZ n)).run prog w=.ok (.slice (some ⟨w.heap.size,0,none⟩) n n) (w.alloc (.cells C0.toArray E)):=by
 obtain⟨i,hi1,hi2⟩:=Sf.1 hi;simp only[Ud.injEq,decide_eq_true_eq]at hi2;obtain⟨h1,h2,h3⟩:=hi2;obtain⟨z,hz⟩:=SU.1 h3;refine⟨(madeCells z.cells (n*e)).toList,by rw[Sx,size_madeCells,S9],λw=>?_⟩;have hb:(i.bytes:Int)*(n:Int)<=281474976710656:=by
  have:i.bytes*n<=4000*512:=T9 h2 hN;have h5:((i.bytes*n:Nat):Int)<=281474976710656:=oM;rwa[Uh]at h5
 have:=run_make (P:=prog) w T E i z hu hi1 hz .i64 .i64 (n:Int) (n:Int) oM oM hb oM;rw[Vd,h1]at this;rw[UQ];exact this
theorem Ar.new{w w1:World}{K e n:Nat}{C0:List Value}{E:TypeId}(R:Nat->List Value)(hC:C0.length=e*n)(hw:w.alloc (.cells C0.toArray E)=w1)(hK:w.heap.size=K):Ar w w1 K e n 0 R:=by
 subst hK;have hR:Row w1 w.heap.size C0:=by rw[<-hw];exact aD w _ _
 exact⟨by rw[<-hw];exact aB _ _,hR.1,by rw[<-hC];exact hR.2.2,λj hj=>absurd hj (UI _)⟩
theorem Cg(O:Ord N)(r:Nat)(L:Bs)(lab:ByteArray)(w:World)(hlab:lab.size<=1048576)(hL:Holds encB w r 0 L)(hl:L.size=32):
 Calls prog 138 #[.agg #[pZ r],.string lab] w (Ret λe w'=>SP.Only r 0 32 w w'/\Holds encB w' r 0 (SP.lJ L lab.data.toList)/\e=nv (oZ N (SP.tC L lab.data.toList 64))):=by
 obtain⟨A,hA⟩:=hE (SP.tC L lab.data.toList 64);obtain⟨L',hL'⟩:∃L',Hid (SP.lJ L lab.data.toList=L'):=⟨_,rfl⟩
 rw[hL'.out];have hLs:L'.size=32:=by rw[<-hL'.out];exact SP.fH _ _
 have hAs:A.size=64:=by rw[<-hA.out];exact SP.yN _ _ _
 rw[hA.out];have hr:=Holds.lt hL oM;obtain⟨w1,hw1⟩:∃w1,Hid ((w.alloc (.cells #[pZ r] 51)).alloc (.cells #[uZ 0,uZ 0,uZ 0,uZ 0] 43)=w1):=⟨_,rfl⟩
 have K1:Hid (Row w1 (w.heap.size+1) [uZ 0,uZ 0,uZ 0,uZ 0]/\Below w.heap.size w w1/\Holds encB w1 r 0 L):=by
  rw[<-hw1.out];have hb:Below w.heap.size w ((w.alloc (.cells #[pZ r] 51)).alloc (.cells #[uZ 0,uZ 0,uZ 0,uZ 0] 43)):=(aB w _).alloc (by rw[Sq];omega) _;have hR:=aD (w.alloc (.cells #[pZ r] 51)) [uZ 0,uZ 0,uZ 0,uZ 0] 43;rw[Sq]at hR;exact⟨hR,hb,Holds.below hL hb hr⟩
 clear hL;go_enter Tryz.func138,Tryz.ntmps138;go_wp2_with fail
 rw[hw1.out];clear hw1;refine(SP.Mf r L lab 64 w1 hlab dC K1.2.2 hl).mono ?_;rintro e w2 ⟨r2,rfl,h1,hO,hL2,hA2⟩;rw[hA.out]at hA2;rw[hL'.out]at hL2;have hr2:=Holds.lt hL2 oM;have K2:=mk4 (K1.1.only hO oM) ((SP.Only.of_below K1.2.1 rfl hr).trans hO) hA2 hL2;go_wp2_with fail
 refine(Fe O r2 A hAs w2 (Holds.lt K2.2.2.1 oM) K2.2.2.1).mono ?_;rintro e w4 ⟨v,rfl,hb4,rfl⟩;have K4:=mk3 (K2.1.below hb4) (K2.2.1.trans (SP.Only.of_below hb4 rfl (Si hr K2.2.1.size))) (Holds.below K2.2.2.2 hb4 hr2);obtain⟨m,hm⟩:=hE (oZ N A);rw[hm.out];obtain⟨w5,hw5⟩:=hE (w4.setCells (w.heap.size+1) 0 (wn m));have K5:Hid (Row w5 (w.heap.size+1) (wn m)/\SP.Only r 0 32 w w5/\Holds encB w5 r 0 L'):=by
  rw[<-hw5.out];refine⟨K4.1.put rfl,bR K4.2.1 hr oM _,λj hj=>?_⟩;have e:=RG.aS (w.heap.size+1) (wn m) 0 w4 r oM;rw[SR (a:=⟨r,0+j,none⟩) e,Uf (a:=⟨r,0+j,none⟩) e];exact K4.2.2 j hj
 obtain⟨vm,hvm⟩:=hE (nv m);rw[hvm.out];go_wp2_with (refine wpList_store_mid rfl 43 _ _ rfl (w.heap.size+1) 0 (wn m).toArray ?_ ?_ ?_ ?_ ?_ ?_;rfl;exact hvm.symm;exact K4.1.2.2;exact i40;exact dE m;rw[show(wn m).toArray.toList=wn m from rfl,hw5.out])
 refine bodyPost_ret (aP 4 43 rfl K5.1 rfl u40 i40) rfl ?_;exact⟨_,rfl,K5.2.1,K5.2.2,by rw[hm.out];rfl⟩
theorem kA{W W':World}{k:Nat}{vs:List Value}(h:Row W k vs)(hs:W.heap.size<=W'.heap.size)(e:W'.heap[k]? = W.heap[k]?):Row W' k vs:=
 ⟨Si h.1 hs,λj v hj=>by rw[SR (a:=⟨k,0+j,none⟩) e];exact h.2.1 j v hj,λj hj=>by rw[SR (a:=⟨k,0+j,none⟩) e,Uf (a:=⟨k,0+j,none⟩) e];exact h.2.2 j hj⟩
end
section
open Go.RowKit Go.Sort Go.Deep
variable {Q Q':Nat->Prop}{W W':World}{v:Value}{l:List (Nat × Bs)}{n:Nat}
structure Kq(Q:Nat->Prop)(W W':World):Prop where
 size:W.heap.size<=W'.heap.size
 block:∀g,Q g->g<W.heap.size->W'.heap[g]? = W.heap[g]?
theorem Kq.of_below(hb:Below W.heap.size W W'):Kq Q W W':=⟨hb.size,λg _ h=>hb.block g h⟩
theorem Kq.of_only{r o m:Nat}(hO:SP.Only r o m W W')(hQ:∀g,Q g->g≠r):Kq Q W W':=⟨hO.size,λg h1 h2=>hO.block g h2 (hQ g h1)⟩
theorem Kq.range{g o:Nat}{vs:List Value}(h:Kq Q W W')(hq:Q g)(hg:g<W.heap.size)(hr:W.rangeAt g o vs):W'.rangeAt g o vs:=λj v hj=>by
 rw[SR (a:=⟨g,o+j,none⟩) (h.block g hq hg)];exact hr j v hj
theorem Kq.cell{g o:Nat}{x:Value}(h:Kq Q W W')(hq:Q g)(hg:g<W.heap.size)(hr:W.cell? ⟨g,o,none⟩=some x):W'.cell? ⟨g,o,none⟩=some x:=by
 rw[SR (a:=⟨g,o,none⟩) (h.block g hq hg)];exact hr
def SmQ(Q:Nat->Prop)(W:World)(v:Value)(l:List (Nat × Bs)):Prop:=∃g c,v=.slice (some (aZ g)) l.length c/\l.length<=c/\Q g/\g<W.heap.size/\W.rangeAt g 0 (aO l)
theorem SmQ.sm(h:SmQ Q W v l):Sm 0 W v l:=by
 obtain⟨g,c,h1,h2,-,h3⟩:=h;exact⟨g,c,h1,h2,Us _,h3⟩
theorem Sm.q{B:Nat}(h:Sm B W v l):SmQ (B<=·) W v l:=h
theorem SmQ.mono(h:SmQ Q W v l)(hQ:∀g,Q g->Q' g):SmQ Q' W v l:=by
 obtain⟨g,c,h1,h2,h3,h4⟩:=h;exact⟨g,c,h1,h2,hQ g h3,h4⟩
theorem SmQ.keep(h:SmQ Q W v l)(hk:Kq Q W W'):SmQ Q W' v l:=by
 obtain⟨g,c,h1,h2,h3,h4,h5⟩:=h;exact⟨g,c,h1,h2,h3,Si h4 hk.size,hk.range h3 h4 h5⟩
def SLq(Q:Nat->Prop)(W:World)(v:Value)(n:Nat)(a:Nat->Nat):Prop:=∃g o c,v=.slice (some ⟨g,o,none⟩) n c/\n<=c/\Q g/\g<W.heap.size/\∀j,j<n->W.rangeAt g (o+4*j) (wn (a j))
theorem SLq.keep{a:Nat->Nat}(h:SLq Q W v n a)(hk:Kq Q W W'):SLq Q W' v n a:=by
 obtain⟨g,o,c,h1,h2,h3,h4,h5⟩:=h;exact⟨g,o,c,h1,h2,h3,Si h4 hk.size,λj hj=>hk.range h3 h4 (h5 j hj)⟩
def GLq(Q:Nat->Prop)(W:World)(v:Value)(n:Nat)(T:Nat->List (Nat × Bs)):Prop:=∃g o c,v=.slice (some ⟨g,o,none⟩) n c/\n<=c/\Q g/\g<W.heap.size/\∀j,j<n->∃x,W.cell? ⟨g,o+j,none⟩=some x/\SmQ Q W x (T j)
theorem GLq.mono{T:Nat->List (Nat × Bs)}(h:GLq Q W v n T)(hQ:∀g,Q g->Q' g):GLq Q' W v n T:=by
 obtain⟨g,o,c,h1,h2,h3,h4,h5⟩:=h;refine⟨g,o,c,h1,h2,hQ g h3,h4,λj hj=>?_⟩;obtain⟨x,h6,h7⟩:=h5 j hj;exact⟨x,h6,h7.mono hQ⟩
theorem GLq.keep{T:Nat->List (Nat × Bs)}(h:GLq Q W v n T)(hk:Kq Q W W'):GLq Q W' v n T:=by
 obtain⟨g,o,c,h1,h2,h3,h4,h5⟩:=h;refine⟨g,o,c,h1,h2,h3,Si h4 hk.size,λj hj=>?_⟩;obtain⟨x,h6,h7⟩:=h5 j hj;exact⟨x,hk.cell h3 h4 h6,h7.keep hk⟩
structure GRq(Q:Nat->Prop)(W:World)(v:Value)(n:Nat)(G H:Nat->List (Nat × Bs))(U:List (Nat × Bs)):Prop where
 ex:∃vg vh vu,v=.agg #[vg,vh,vu]/\GLq Q W vg n G/\GLq Q W vh n H/\SmQ Q W vu U
theorem GRq.mono{G H:Nat->List (Nat × Bs)}{U:List (Nat × Bs)}(h:GRq Q W v n G H U)(hQ:∀g,Q g->Q' g):GRq Q' W v n G H U:=by
 obtain⟨vg,vh,vu,h1,h2,h3,h4⟩:=h.ex;exact⟨vg,vh,vu,h1,h2.mono hQ,h3.mono hQ,h4.mono hQ⟩
theorem GRq.keep{G H:Nat->List (Nat × Bs)}{U:List (Nat × Bs)}(h:GRq Q W v n G H U)(hk:Kq Q W W'):GRq Q W' v n G H U:=by
 obtain⟨vg,vh,vu,h1,h2,h3,h4⟩:=h.ex;exact⟨vg,vh,vu,h1,h2.keep hk,h3.keep hk,h4.keep hk⟩
structure TOk(N:Nat)(l:List (Nat × Bs)):Prop where
 sz:∀x∈l,x.2.size=33
 lt:∀x∈l,x.1<N
theorem TOk.szm{N:Nat}(h:TOk N l):∀x∈l.map (·.2),x.size=33:=λx hx=>by
 obtain⟨y,hy,rfl⟩:=Tq.1 hx;exact h.sz y hy
theorem TOk.app{N:Nat}{m:List (Nat × Bs)}(h:TOk N l)(k:TOk N m):TOk N (l++m):=⟨λx hx=>(UT.1 hx).elim (h.sz x) (k.sz x),λx hx=>(UT.1 hx).elim (h.lt x) (k.lt x)⟩
theorem TOk.tm{N:Nat}(hN:0<N)(h:TOk N l)(k:Nat):TOk N (l.map (tmT N k)):=⟨λx hx=>by
 obtain⟨y,hy,rfl⟩:=Tq.1 hx;exact h.sz y hy,λx hx=>by
 obtain⟨y,hy,rfl⟩:=Tq.1 hx;exact Ug _ hN⟩
theorem TOk.nil{N:Nat}:TOk N []:=⟨λ_ h=>(SL h).elim,λ_ h=>(SL h).elim⟩
theorem Tl.ok{P:Nat}[NeZero P]{N:Nat}{X:OnP P}(h:Tl N l X):TOk N l:=⟨λx hx=>by
 obtain⟨X,-,e⟩:=h.pts x hx;rw[e];exact dB _,h.lt⟩
theorem nC{N:Nat}(hN:0<N){a:Nat->Nat}{T:Nat->List (Nat × Bs)}:∀n,(∀i,i<n->TOk N (T i))->TOk N (eJ N a T n)
 | 0,_=>TOk.nil
 | n+1,h=>(nC hN n λi hi=>h i oM).app ((h n oM).tm hN _)
end
namespace RG
open Go Go.RowKit
variable {P:Program}{ops:Array Oper}{Q:Exit->Act->World->Prop}{w:World}{a0:Act}{F:Flow}
theorem m9{L:Array Bool}{i j:Nat}{o:Oper}(ho:ops[i]? = some o)(hdep:∀e∈o.after,TR .any e=true->on L e.on=true)(h2:depOn ops i j=true):on L j=true:=by
 unfold depOn at h2;rw[ho]at h2;obtain⟨e,he,hb⟩:=Array.any_eq_true'.1 h2;simp only[SC,beq_iff_eq]at hb;have:=hdep e he hb.1;rw[hb.2]at this;exact this
theorem C9{id:Nat}(F:Flow)(n:Nat)(hn:n<=ops.size)(R:RegF P Q F ops a0 n)(hB:∀b,F.B b w)
 (hp:∀(V:Nat->Value) (w':World),(∀i,i<n->F.kill i=[]->F.R i (V i) w')->(∀b,F.killB b=[]->F.B b w')->wpList P ops Q (ops.toList.drop n) (dJ V (ops.toList.take n) 0 a0) w'):(TX id ops false).wp P Q a0 w:=by
 refine wp_region_list ?_;have hlt:∀(i:Nat) (o:Oper),ops[i]? = some o->∀e∈o.after,TR .any e=true->e.on<i:=λi o ho=>(R.of ho).1
 have key:∀(d m:Nat) (L:Array Bool) (a:Act) (w:World),m+d=n->(∀j,on L j=true↔j<m)->InvF F ops a0 L a w->wpList P ops Q (ops.toList.drop m) a w:=by
  intro d;induction d with
  | zero =>
   intro m L a w hmd hall hI;obtain rfl:m=n:=oM;obtain⟨V,hV1,hV2⟩:=hI.all;have ha:=hI.act R hn hall hV1;have hkl:∀l:List Nat,l=[]->∀x∈l,on L x=false:=λl hl x hx=>by rw[hl]at hx;cases hx
   rw[ha];exact hp V w (λj hj hk=>hV2 j ((hall j).2 hj) (hkl _ hk)) (λb hb=>hI.base b (hkl _ hb))
  | succ d ih =>
   intro m L a w hmd hall hI;have hms:m<ops.size:=oM;have ho:ops[m]? = some ops[m]:=SS _;have hoff:on L m=false:=by
    cases hb:on L m with
    | false=>rfl
    | true=>have:=(hall m).1 hb;omega
   have hop:=DO R oM (λj hj=>by have:=(hall j).1 hj;omega) ho hoff (λe he hb=>(hall e.on).2 (hlt m _ ho e he hb)) hI;have hop2:wpOp P ops Q m (λa' w'=>wpList P ops Q (ops.toList.drop (m+1)) a' w') a w:=wpOp_mono (λa' w' hI'=>ih (m+1) _ a' w' oM (λj=>by
    rw[eV (by rw[hI.size];omega)];constructor
    ·intro hj;rw[Bool.or_eq_true]at hj;rcases hj with hj|hj
     ·have:=(hall j).1 hj;omega
     ·have:m=j:=by simpa using hj
      omega
    ·intro hj;by_cases h2:j<m
     ·rw[(hall j).2 h2,Bool.true_or]
     ·rw[show j=m by omega];simp) hI') hop
   have hdrop:ops.toList.drop m=ops[m] :: ops.toList.drop (m+1):=by
    rw[List.drop_eq_getElem_cons (by rw[Sx];exact hms),Array.getElem_toList]
   rw[hdrop];unfold wpOp at hop2;rw[ho]at hop2;exact hop2
 have hoff:∀i,on (So ops.size false) i=false:=λi=>by
  unfold on;rw[Sz,Array.getElem?_replicate];by_cases h:i<ops.size
  ·rw[if_pos h];rfl
  ·rw[if_neg h];rfl
 exact key n 0 _ a0 w oM (λj=>by rw[hoff];exact⟨λh=>(by cases h),λh=>absurd h (UI _)⟩) ⟨SB,(λi o _ h=>by rw[hoff]at h;cases h),rfl,rfl,λ_ _=>rfl,⟨λ_=>undef,λi d h=>(by rw[hoff]at h;cases h),λi h=>(by rw[hoff]at h;cases h)⟩,λb _=>hB b⟩
theorem Gw.plain{id:Nat}(G:Gw)(n:Nat)(hc:(decide (n<=ops.size) && FT ops a0.tmps.size)=true)(h:lL P Q G.flow ops a0 0 (ops.toList.take n))(hB:G.B w)
 (hp:∀(V:Nat->Value) (w':World),(∀i,i<n->G.R i (V i) w')->G.B w'->wpList P ops Q (ops.toList.drop n) (dJ V (ops.toList.take n) 0 a0) w'):(TX id ops false).wp P Q a0 w:=by
 rw[SC,decide_eq_true_eq]at hc;exact C9 G.flow n hc.1 (Gw.reg hc.2 h) (λ_=>hB) λV w' h1 h2=>hp V w' (λi hi=>h1 i hi rfl) (h2 0 rfl)
end RG
namespace RG
open Go Go.RowKit
structure S1 where
 p:Value->World->Prop
 st:∀v w w',Below w.heap.size w w'->p v w->p v w'
def pE(v:Value):S1:=⟨λx _=>x=v,λ_ _ _ _ h=>h⟩
def pA:S1:=⟨λ_ _=>True,λ_ _ _ _ h=>h⟩
def pM(Q:Nat->Prop)(l:List (Nat × Bs)):S1:=⟨λv w=>SmQ Q w v l,λ_ _ _ hb h=>h.keep (Kq.of_below hb)⟩
def pG(Q:Nat->Prop)(n:Nat)(T:Nat->List (Nat × Bs)):S1:=⟨λv w=>GLq Q w v n T,λ_ _ _ hb h=>h.keep (Kq.of_below hb)⟩
def pR(Q:Nat->Prop)(n:Nat)(G H:Nat->List (Nat × Bs))(U:List (Nat × Bs)):S1:=⟨λv w=>GRq Q w v n G H U,λ_ _ _ hb h=>h.keep (Kq.of_below hb)⟩
def pI(T:TypeId)(p:S1):S1:=⟨λv w=>∃x,v=.iface T x/\p.p x w,λ_ w w' hb ⟨x,h1,h2⟩=>⟨x,h1,p.st x w w' hb h2⟩⟩
def pN(B:Nat)(cs:List Value):S1:=⟨λv w=>∃k,v=pZ k/\B<=k/\Row w k cs,λ_ _ _ hb ⟨k,h1,h2,h3⟩=>⟨k,h1,h2,h3.below hb⟩⟩
def nth:List S1->Nat->S1
 | [],_=>pA
 | x :: _,0=>x
 | _ :: r,k+1=>nth r k
def gwL(L:List S1)(B:World->Prop)(hB:∀w w',Below w.heap.size w w'->B w->B w'):Gw:=⟨λi=>(nth L i).p,B,λi=>(nth L i).st,hB⟩
variable {P:Program}{ops:Array Oper}{Q:Exit->Act->World->Prop}{w:World}{a0:Act}{G:Gw}{k:Nat}{o:Oper}
theorem P7(ps:List (Tmp × Value))(v:Value)(hA:∀a W,PreG G ops a0 k o a W->AllE a ps)(hR:∀W,G.R k v W)(hs:∀W,(dW (ps.map (·.1)) o,(execOp (evo (evl ps)) o).run P W)=(true,.ok (.value v) W):=by intro _;kernel_rfl):bQ P Q G.flow ops a0 k o:=
 cE λa W hp=>⟨ps,v,W,hA a W hp,hs W,SE _ _,hR W⟩
theorem P8(t:Tmp)(v v':Value)(h0:a0.eval (.tmp t)=v)(hR:∀W,G.R k v' W)(hf:nN ops k t=true:=by kernel_rfl)(hs:∀W,(dW [t] o,(execOp (evo (evl [(t,v)])) o).run P W)=(true,.ok (.value v') W):=by intro _;kernel_rfl):bQ P Q G.flow ops a0 k o:=
 P7 [(t,v)] v' (λa W hp=>⟨(hp.o t hf).trans h0,trivial⟩) hR hs
theorem vO(j:Nat)(t:Tmp)(v v':Value)(hj:∀x W,G.R j x W->x=v)(hR:∀W,G.R k v' W)(hd:(bU o j,bC ops j)=(true,some t):=by kernel_rfl)(hs:∀W,(dW [t] o,(execOp (evo (evl [(t,v)])) o).run P W)=(true,.ok (.value v') W):=by intro _;kernel_rfl):bQ P Q G.flow ops a0 k o:=
 P7 [(t,v)] v' (λa W hp=>⟨hj _ W (hp.n j t (congrArg WO hd) (congrArg WN hd)),trivial⟩) hR hs
theorem FH(j:Nat)(t:Tmp)(f:Value->Value)(hR:∀x W,G.R j x W->G.R k (f x) W)(hd:(bU o j,bC ops j)=(true,some t):=by kernel_rfl)(hs:∀v W,(dW [t] o,(execOp (evo (evl [(t,v)])) o).run P W)=(true,.ok (.value (f v)) W):=by intro _ _;kernel_rfl):bQ P Q G.flow ops a0 k o:=
 cE λa W hp=>⟨[(t,a.eval (.tmp t))],_,W,⟨rfl,trivial⟩,hs _ W,SE _ _,hR _ W (hp.n j t (congrArg WO hd) (congrArg WN hd))⟩
theorem FG(j:Nat)(t:Tmp)(j':Nat)(t':Tmp)(v u v':Value)(I:Sem Value)(hi:∀W,I.run P W=.ok v' W)(hj:∀x W,G.R j x W->x=v)(hj':∀x W,G.R j' x W->x=u)(hR:∀W,G.R k v' W)(hd:((bU o j,bC ops j),(bU o j',bC ops j'))=((true,some t),(true,some t')):=by kernel_rfl)(hs:(dW [t,t'] o,execOp (evo (evl [(t,v),(t',u)])) o)=(true,I >>= λv=>pure (UP v)):=by kernel_rfl):bQ P Q G.flow ops a0 k o:=
 cE λa W hp=>⟨[(t,v),(t',u)],v',W,⟨hj _ W (hp.n j t (congrArg (·.1.1) hd) (congrArg (·.1.2) hd)),hj' _ W (hp.n j' t' (congrArg (·.2.1) hd) (congrArg (·.2.2) hd)),trivial⟩,by
  rw[Ud.injEq]at hs⊢;refine⟨hs.1,?_⟩;rw[hs.2,SK,hi W];rfl,SE _ _,hR W⟩
theorem P6(j:Nat)(t:Tmp)(v v':Value)(I:Sem Value)(hi:∀W,I.run P W=.ok v' W)(hj:∀x W,G.R j x W->x=v)(hR:∀W,G.R k v' W)(hd:(bU o j,bC ops j)=(true,some t):=by kernel_rfl)(hs:(dW [t] o,execOp (evo (evl [(t,v)])) o)=(true,I >>= λv=>pure (UP v)):=by kernel_rfl):bQ P Q G.flow ops a0 k o:=
 cE λa W hp=>⟨[(t,v)],v',W,⟨hj _ W (hp.n j t (congrArg WO hd) (congrArg WN hd)),trivial⟩,by
  rw[Ud.injEq]at hs⊢;refine⟨hs.1,?_⟩;rw[hs.2,SK,hi W];rfl,SE _ _,hR W⟩
theorem iU(T:TypeId)(j:Nat)(t:Tmp)(g off:Nat)(x:Value)(hu:(P.underlying T).map (·.isRow)=some false)(hj:∀x W,G.R j x W->x=.pointer (some ⟨g,off,none⟩))(hc:∀W,G.B W->W.cell? ⟨g,off,none⟩=some x)(hR:∀W,G.R k x W)(hd:(bU o j,bC ops j)=(true,some t):=by kernel_rfl)(ho:o.op=.load T (.tmp t):=by rfl):bQ P Q G.flow ops a0 k o:=
 rS λa W hp'=>by
  have hp:=nV hp';refine⟨x,W,?_,SE _ _,hR W⟩;unfold execOp;rw[ho];dsimp only;rw[hj _ W (hp.n j t (congrArg WO hd) (congrArg WN hd)),SK,jZ (hc W hp.b) hu];rfl
theorem P9(T:TypeId)(j:Nat)(t:Tmp)(g off:Nat)(cs:List Value)(hu:(P.underlying T).map (·.isRow)=some true)(hi:(P.info? T).map (·.size)=some cs.length)(hj:∀x W,G.R j x W->x=.pointer (some ⟨g,off,none⟩))(hc:∀W,G.B W->W.rangeAt g off cs)(hR:∀W,G.R k (.agg cs.toArray) W)(hd:(bU o j,bC ops j)=(true,some t):=by kernel_rfl)(ho:o.op=.load T (.tmp t):=by rfl):bQ P Q G.flow ops a0 k o:=
 lG T t ho hu λa W hp=>⟨g,off,cs,hj _ W (hp.n j t (congrArg WO hd) (congrArg WN hd)),hc W hp.b,hi,hR W⟩
theorem lN(T:TypeId)(t:Tmp)(g off:Nat)(cs:List Value)(hu:(P.underlying T).map (·.isRow)=some true)(hi:(P.info? T).map (·.size)=some cs.length)(h0:a0.eval (.tmp t)=.pointer (some ⟨g,off,none⟩))(hc:∀W,G.B W->W.rangeAt g off cs)(hR:∀W,G.R k (.agg cs.toArray) W)(hf:nN ops k t=true:=by kernel_rfl)(ho:o.op=.load T (.tmp t):=by rfl):bQ P Q G.flow ops a0 k o:=
 lG T t ho hu λa W hp=>⟨g,off,cs,(hp.o t hf).trans h0,hc W hp.b,hi,hR W⟩
theorem Ot(T:TypeId)(t:Tmp)(g off:Nat)(x:Value)(hu:(P.underlying T).map (·.isRow)=some false)(h0:a0.eval (.tmp t)=.pointer (some ⟨g,off,none⟩))(hc:∀W,G.B W->W.cell? ⟨g,off,none⟩=some x)(hR:∀W,G.R k x W)(hf:nN ops k t=true:=by kernel_rfl)(ho:o.op=.load T (.tmp t):=by rfl):bQ P Q G.flow ops a0 k o:=
 rS λa W hp'=>by
  have hp:=nV hp';refine⟨x,W,?_,SE _ _,hR W⟩;unfold execOp;rw[ho];dsimp only;rw[hp.o t hf,h0,SK,jZ (hc W hp.b) hu];rfl
theorem RB(cs:List Value)(T:TypeId)(hR:∀W W':World,Row W' W.heap.size cs->G.B W->G.R k (.pointer (some ⟨W.heap.size,0,none⟩)) W')(hs:∀W,(dW [] o,(execOp (evo (evl [])) o).run P W)=(true,.ok (.value (.pointer (some ⟨W.heap.size,0,none⟩))) (W.alloc (.cells cs.toArray T))):=by intro _;kernel_rfl):bQ P Q G.flow ops a0 k o:=
 cE λa W hp=>⟨[],_,_,trivial,hs W,aB W _,hR W _ (aD W cs T) hp.b⟩
theorem Mz(f:FuncId)(args:Array Value)(hc:∀W,G.B W->Calls P f args W (rZ W λe W'=>G.R k e W'))(hs:∀W,(dW [] o,(execOp (evo (evl [])) o).run P W)=(true,.ok (.enter f args) W):=by intro _;kernel_rfl):bQ P Q G.flow ops a0 k o:=
 jN λa W hp=>⟨[],f,args,trivial,hs W,hc W hp.b⟩
theorem Bp(j:Nat)(t:Tmp)(f:FuncId)(args:Value->Array Value)(hc:∀x W,G.R j x W->G.B W->Calls P f (args x) W (rZ W λe W'=>G.R k e W'))(hd:(bU o j,bC ops j)=(true,some t):=by kernel_rfl)(hs:∀x W,(dW [t] o,(execOp (evo (evl [(t,x)])) o).run P W)=(true,.ok (.enter f (args x)) W):=by intro _ _;kernel_rfl):bQ P Q G.flow ops a0 k o:=
 jN λa W hp=>⟨[(t,a.eval (.tmp t))],f,_,⟨rfl,trivial⟩,hs _ W,hc _ W (hp.n j t (congrArg WO hd) (congrArg WN hd)) hp.b⟩
theorem jO(j:Nat)(t:Tmp)(j':Nat)(t':Tmp)(f:FuncId)(args:Value->Value->Array Value)(hc:∀x y W,G.R j x W->G.R j' y W->G.B W->Calls P f (args x y) W (rZ W λe W'=>G.R k e W'))(hd:((bU o j,bC ops j),(bU o j',bC ops j'))=((true,some t),(true,some t')):=by kernel_rfl)(hs:∀x y W,(dW [t,t'] o,(execOp (evo (evl [(t,x),(t',y)])) o).run P W)=(true,.ok (.enter f (args x y)) W):=by intro _ _ _;kernel_rfl):bQ P Q G.flow ops a0 k o:=
 jN λa W hp=>⟨[(t,a.eval (.tmp t)),(t',a.eval (.tmp t'))],f,_,⟨rfl,rfl,trivial⟩,hs _ _ W,hc _ _ W (hp.n j t (congrArg (·.1.1) hd) (congrArg (·.1.2) hd)) (hp.n j' t' (congrArg (·.2.1) hd) (congrArg (·.2.2) hd)) hp.b⟩
theorem Er(j:Nat)(t:Tmp)(j':Nat)(t':Tmp)(j'':Nat)(t'':Tmp)(f:FuncId)(args:Value->Value->Value->Array Value)(hc:∀x y z W,G.R j x W->G.R j' y W->G.R j'' z W->G.B W->Calls P f (args x y z) W (rZ W λe W'=>G.R k e W'))(hd:((bU o j,bC ops j),(bU o j',bC ops j'),(bU o j'',bC ops j''))=((true,some t),(true,some t'),(true,some t'')):=by kernel_rfl)(hs:∀x y z W,(dW [t,t',t''] o,(execOp (evo (evl [(t,x),(t',y),(t'',z)])) o).run P W)=(true,.ok (.enter f (args x y z)) W):=by intro _ _ _ _;kernel_rfl):bQ P Q G.flow ops a0 k o:=
 jN λa W hp=>⟨[(t,a.eval (.tmp t)),(t',a.eval (.tmp t')),(t'',a.eval (.tmp t''))],f,_,⟨rfl,rfl,rfl,trivial⟩,hs _ _ _ W,hc _ _ _ W (hp.n j t (congrArg (·.1.1) hd) (congrArg (·.1.2) hd)) (hp.n j' t' (congrArg (·.2.1.1) hd) (congrArg (·.2.1.2) hd)) (hp.n j'' t'' (congrArg (·.2.2.1) hd) (congrArg (·.2.2.2) hd)) hp.b⟩
theorem vP(T:TypeId)(j:Nat)(t:Tmp)(j':Nat)(t':Tmp)(p:S1)(f:FuncId)(hi:∀x W,G.R j x W->(pI T p).p x W)(hc:∀x y W,p.p x W->G.R j' y W->G.B W->Calls P f #[x,y] W (rZ W λe W'=>G.R k e W'))(hd:((bU o j,bC ops j),(bU o j',bC ops j'))=((true,some t),(true,some t')):=by kernel_rfl)(hs:∀x y W,(dW [t,t'] o,(execOp (evo (evl [(t,.iface T x),(t',y)])) o).run P W)=(true,.ok (.enter f #[x,y]) W):=by intro _ _ _;kernel_rfl):bQ P Q G.flow ops a0 k o:=
 jN λa W hp=>by
  obtain⟨x,e,hx⟩:=hi _ W (hp.n j t (congrArg (·.1.1) hd) (congrArg (·.1.2) hd));exact⟨[(t,.iface T x),(t',a.eval (.tmp t'))],f,_,⟨e,rfl,trivial⟩,hs _ _ W,hc _ _ W hx (hp.n j' t' (congrArg (·.2.1) hd) (congrArg (·.2.2) hd)) hp.b⟩
end RG
namespace RG
open Go Go.RowKit
variable {P:Program}{ops:Array Oper}{Q:Exit->Act->World->Prop}{w:World}{a0:Act}{G:Gw}{k:Nat}{o:Oper}{T:TypeId}{g off:Nat}{cs:List Value}{v u v' z:Value}{I:Sem Value}{f:FuncId}{t:Tmp}
theorem gO(t:Tmp)(v:Value)(h0:a0.eval (.tmp t)=v:=by kernel_rfl)(hR:∀W,G.R k v W:=by exact λ_=>rfl)(hf:nN ops k t=true:=by kernel_rfl)(hs:∀W,(dW [t] o,(execOp (evo (evl [(t,v)])) o).run P W)=(true,.ok (.value v) W):=by intro _;kernel_rfl):bQ P Q G.flow ops a0 k o:=P8 t v v h0 hR hf hs
theorem gP(t:Tmp)(v v':Value)(h0:a0.eval (.tmp t)=v:=by kernel_rfl)(hR:∀W,G.R k v' W:=by exact λ_=>rfl)(hf:nN ops k t=true:=by kernel_rfl)(hs:∀W,(dW [t] o,(execOp (evo (evl [(t,v)])) o).run P W)=(true,.ok (.value v') W):=by intro _;kernel_rfl):bQ P Q G.flow ops a0 k o:=P8 t v v' h0 hR hf hs
theorem gLo(t:Tmp)(hc:∀W,G.B W->W.rangeAt g off cs)(hu:(P.underlying T).map (·.isRow)=some true)(hi:(P.info? T).map (·.size)=some cs.length)(h0:a0.eval (.tmp t)=.pointer (some ⟨g,off,none⟩):=by kernel_rfl)(hR:∀W,G.R k (.agg cs.toArray) W:=by exact λ_=>rfl)(hf:nN ops k t=true:=by kernel_rfl)(ho:o.op=.load T (.tmp t):=by rfl):bQ P Q G.flow ops a0 k o:=lN T t g off cs hu hi h0 hc hR hf ho
theorem gLr(j:Nat)(t:Tmp)(hc:∀W,G.B W->W.rangeAt g off cs)(hu:(P.underlying T).map (·.isRow)=some true)(hi:(P.info? T).map (·.size)=some cs.length)(hj:∀x W,G.R j x W->x=.pointer (some ⟨g,off,none⟩):=by exact λ_ _ h=>h)(hR:∀W,G.R k (.agg cs.toArray) W:=by exact λ_=>rfl)(hd:(bU o j,bC ops j)=(true,some t):=by kernel_rfl)(ho:o.op=.load T (.tmp t):=by rfl):bQ P Q G.flow ops a0 k o:=P9 T j t g off cs hu hi hj hc hR hd ho
theorem gX(j:Nat)(t:Tmp)(j':Nat)(t':Tmp)(hi:∀W,I.run P W=.ok v' W)(hj:∀x W,G.R j x W->x=v:=by exact λ_ _ h=>h)(hj':∀x W,G.R j' x W->x=u:=by exact λ_ _ h=>h)(hR:∀W,G.R k v' W:=by exact λ_=>rfl)(hd:((bU o j,bC ops j),(bU o j',bC ops j'))=((true,some t),(true,some t')):=by kernel_rfl)(hs:(dW [t,t'] o,execOp (evo (evl [(t,v),(t',u)])) o)=(true,I >>= λv=>pure (UP v)):=by kernel_rfl):bQ P Q G.flow ops a0 k o:=FG j t j' t' v u v' I hi hj hj' hR hd hs
theorem gC2(j:Nat)(t:Tmp)(j':Nat)(t':Tmp)(hc:∀W,Calls P f #[v,u] W (rZ W λe W'=>e=v'))(hj:∀x W,G.R j x W->x=v:=by exact λ_ _ h=>h)(hj':∀x W,G.R j' x W->x=u:=by exact λ_ _ h=>h)(hR:∀W,G.R k v' W:=by exact λ_=>rfl)(hd:((bU o j,bC ops j),(bU o j',bC ops j'))=((true,some t),(true,some t')):=by kernel_rfl)(hs:∀x y W,(dW [t,t'] o,(execOp (evo (evl [(t,x),(t',y)])) o).run P W)=(true,.ok (.enter f #[x,y]) W):=by intro _ _ _;kernel_rfl):bQ P Q G.flow ops a0 k o:=
 jO j t j' t' f (λx y=>#[x,y]) (λx y W h1 h2 _=>by
  rw[hj x W h1,hj' y W h2];refine(hc W).mono ?_;rintro e W' ⟨a,rfl,hb,rfl⟩;exact⟨_,rfl,hb,hR W'⟩) hd hs
theorem gC3(j:Nat)(t:Tmp)(j':Nat)(t':Tmp)(j'':Nat)(t'':Tmp)(hc:∀W,Calls P f #[v,u,z] W (rZ W λe W'=>e=v'))(hj:∀x W,G.R j x W->x=v:=by exact λ_ _ h=>h)(hj':∀x W,G.R j' x W->x=u:=by exact λ_ _ h=>h)(hj'':∀x W,G.R j'' x W->x=z:=by exact λ_ _ h=>h)(hR:∀W,G.R k v' W:=by exact λ_=>rfl)(hd:((bU o j,bC ops j),(bU o j',bC ops j'),(bU o j'',bC ops j''))=((true,some t),(true,some t'),(true,some t'')):=by kernel_rfl)(hs:∀x y z W,(dW [t,t',t''] o,(execOp (evo (evl [(t,x),(t',y),(t'',z)])) o).run P W)=(true,.ok (.enter f #[x,y,z]) W):=by intro _ _ _ _;kernel_rfl):bQ P Q G.flow ops a0 k o:=
 Er j t j' t' j'' t'' f (λx y z=>#[x,y,z]) (λx y z' W h1 h2 h3 _=>by
  rw[hj x W h1,hj' y W h2,hj'' z' W h3];refine(hc W).mono ?_;rintro e W' ⟨a,rfl,hb,rfl⟩;exact⟨_,rfl,hb,hR W'⟩) hd hs
end RG
section
open Go.RowKit Go.Sort Go.Deep
variable {P:Nat}[NeZero P]{N:Nat}
theorem LH(s:ByteArray)(w:World):
 ∃cap w',(convert 9 23 (.string s)).run prog w=.ok (.slice (some ⟨w.heap.size,0,none⟩) s.size cap) w'/\s.size<=cap/\Below w.heap.size w w'/\Holds encB w' w.heap.size 0 s.data/\w.heap.size<w'.heap.size:=by
 have h:=Lib.run_convert_string_bytes (P:=prog) w 9 23 5 s str9 slice22 int5;have hcap:s.size<=grownCap w s.size 0 5:=by
  unfold grownCap ZV;exact Nat.le_add_right _ _
 have hl:s.data.size=s.size:=rfl;refine⟨_,_,h,hcap,?_,?_,by rw[WS];omega⟩
 ·refine⟨?_,?_,?_,?_,λk hk=>Lib.bytesWorld_at_old w 5 s k hk⟩
  ·unfold V7 Wj;rw[if_neg dC];rfl
  ·unfold V7 Wj;rw[if_neg dC];rfl
  ·unfold V7 Wj;rw[if_neg dC];rfl
  ·rw[WS];omega
 ·intro j hj;have hb:=Lib.bytesWorld_at_new w 5 s;have hsz:(Vl w 5 s).size=grownCap w s.size 0 5:=by
   unfold Vl;rw[Tw,Array.size_map,SB];omega
  have hc:(Vl w 5 s)=(s.data++So (grownCap w s.size 0 5-s.size) 0).map encB:=by
   unfold Vl;rw[Array.map_append,Array.map_replicate];rfl
  have hj2:j<(s.data++So (grownCap w s.size 0 5-s.size) 0).size:=by rw[Tw,SB];omega
  have hget:(s.data++So (grownCap w s.size 0 5-s.size) 0)[j]=s.data[j]!:=by
   rw[Array.getElem_append_left hj,getElem!_pos s.data j hj]
  constructor
  ·unfold World.cell?;rw[hb];simp only[Sj];rw[if_neg dC,hc,Array.getElem?_map,SS hj2,Option.map_some,hget]
  ·unfold World.frozen?;rw[hb];simp only[Sj,hsz];simp;omega
end
section
open Go.RowKit Go.Sort Go.Deep
def hf(n:Nat):Nat:=2^Nat.log2 (n-1)
end
section
open Go.RowKit Go.Sort Go.Deep
variable {P:Nat}[NeZero P]{N:Nat}
def mF(n:Nat):Bs:=#[SP.aX n 16777216,SP.aX n 65536,SP.aX n 256,SP.aX n 1]
theorem NP{w:World}{r n:Nat}(h:Holds encB w r 0 (mF n)):SP.PartOk w (.slice (some (aZ r)) 4 4) (mF n).toList:=
 ⟨_,r,0,4,mF n,rfl,rfl,Se _,TY rfl,SJ ⟨rfl,h⟩⟩
theorem Ld:Gives 39 #[uZ 1] (nv 1):=by
 intro w;go_enter Tryz.func39,Tryz.ntmps39;refine RG.M.enter [(0,.v (uZ 1))] 6 kR ?_;intro a0 M0;repeat refine wp_seq ?_
 refine M0.T [.m 0] [(0,RG.z 4)] [] [RG.z 4] [0,2] ⟨RG.mk 0 43,trivial⟩ ?_;intro k a1 w1 M1;repeat refine wp_seq ?_
 refine M1.T [.x (uZ 1),.x (nv 1),.x (nv 1),.u 0] [] [(0,3,wn 1)] [wn 1] [2] ⟨RG.st,RG.st,RG.st,RG.pt i40,trivial⟩ ?_;intro a2 w2 M2;refine wp_ret ?_;refine bodyPost_ret (v:=nv 1) (RG.aE M2.st 2 43 rfl 0 _ rfl (M2.at (s:=(.p 0 0))) u40 i40) M2.sl.defers ?_;exact⟨_,rfl,M2.st.bel.below,rfl⟩
def jM(a:Nat):Nat:=if a=0 then 1 else a
theorem KT(O:Ord N){a:Nat}(ha:a<N):Gives 106 #[nv a] (nv (jM a)):=by
 intro w;have hat:=Si ha O.le;have hq:∀w:World,(binOp .eql 43 (nv a) (nv 0)).run prog w=.ok (.bool (decide (a=0))) w:=λw=>eqS hat (show 0<top by unfold top;omega) w
 obtain⟨d,hd⟩:=hE (decide (a=0));rw[hd.out]at hq;go_enter Tryz.func106,Tryz.ntmps106;refine RG.M.enter [(0,.v (nv a))] 8 kR ?_;intro a0 M0;repeat refine wp_seq ?_
 refine M0.T [.m 0,.m 1] [(0,wn a),(1,RG.z 4)] [] [wn a,RG.z 4] [1,2] ⟨RG.mk 0 43,RG.mk 1 43,trivial⟩ ?_;intro j1 i1 a1 w1 M1;repeat refine wp_seq ?_
 refine M1.U [.x (nv a),.x (nv 0),.x (.bool d)] [1,2,5] ⟨RG.ld u40 i40,RG.st,RG.aK rfl .eql 43 43 3 4 (nv a) (nv 0) (.bool d) rfl rfl RG.sx RG.sx (λw=>kR) hq,trivial⟩ ?_;intro a2 w2 M2;cases d with
 | true =>
  refine wp_cond_true M2.ev ?_;have h0:=of_decide_eq_true hd.out;have hr:jM a=1:=by unfold jM;rw[if_pos h0]
  rw[hr];repeat refine wp_seq ?_
  refine M2.T [.c (nv 1),.u 1] [] [(1,1,wn 1)] [wn a,wn 1] [2] ⟨RG.cl Ld,RG.pt i40,trivial⟩ ?_;intro a3 w3 M3;refine wp_ret ?_;refine bodyPost_ret (v:=nv 1) (RG.aE M3.st 2 43 rfl 1 _ rfl (M3.at (s:=(.p 1 0))) u40 i40) M3.sl.defers ?_;exact⟨_,rfl,M3.st.bel.below,rfl⟩
 | false =>
  refine wp_cond_false M2.ev ?_;have h0:=of_decide_eq_false hd.out;have hr:jM a=a:=by unfold jM;rw[if_neg h0]
  rw[hr];refine wp_skip ?_;repeat refine wp_seq ?_
  refine M2.T [.x (nv a),.u 1] [] [(1,1,wn a)] [wn a,wn a] [2] ⟨RG.ld u40 i40,RG.pt i40,trivial⟩ ?_;intro a3 w3 M3;refine wp_ret ?_;refine bodyPost_ret (v:=nv a) (RG.aE M3.st 2 43 rfl 1 _ rfl (M3.at (s:=(.p 1 0))) u40 i40) M3.sl.defers ?_;exact⟨_,rfl,M3.st.bel.below,rfl⟩
end
section
open Go.RowKit Go.Sort Go.Deep
section
variable {P:Program}{ops:Array Oper}{rest:List Oper}{op:Oper}{a:Act}{w w':World}{v:Value}{Q:Exit->Act->World->Prop}
theorem t6(hgd:op.guard=none)(ty:TypeId)(x y:Operand)(ho:op.op=.store ty x y)(b o:Nat)(v:Value)(hx:a.eval x=.pointer (some ⟨b,o,none⟩))(hy:a.eval y=v)(hv:v.cells=#[v])(h1:v.oneCell'=true)(ht:w.there b o 1)(hi:(P.info? ty).map (·.size)=some 1)
 (h:wpList P ops Q rest (a.put op.dst undef) (w.setCells b o [v])):wpList P ops Q (op :: rest) a w:=
 wpList_plain hgd λ_ hK=>by
  have hr:=run_storeVar_mid (P:=P) w b o ty #[v] ht hi (by simp[h1]);have e:storeVar ty ⟨b,o,none⟩ v=storeVar ty ⟨b,o,none⟩ (.agg #[v]):=by
   unfold storeVar;rw[hv];rfl
  unfold TZ execOp;simp only[ho,hx,hy,Instr.storeAt,VZ,SK,Ux,Tr,e,hr];exact hK _ _ h
theorem E3(hgd:op.guard=none)(s t:Tmp)(ts:Array TypeId)(ho:op.op=.call ⟨.value (.tmp s),#[.tmp t],ts⟩)(f:FuncId)(cap:Array Value)(x:Value)(hs:a.eval (.tmp s)=.func (.func f) #[] cap)(hx:a.eval (.tmp t)=x)(hf:∀args W,(callFunc f args).run P W=.ok (.enter f args) W)
 {R:Value->World->Prop}(hc:Calls P f (#[x]++cap) w (Ret R)) (h:∀v w',R v w'->wpList P ops Q rest (a.put op.dst v) w'):wpList P ops Q (op :: rest) a w:=
 wpList_plain hgd λK hK=>by
  have hr:(execOp a.eval op).run P w=.ok (.enter f (#[x]++cap)) w:=by
   unfold execOp;rw[ho];have e:(#[Z5 t].map a.eval)=#[x]:=by simp[hx]
   simp only[resolve,hs,Deferred.ofValue,SK,Ux,Tr,invoke,e];exact hf _ w
  unfold TZ;rw[hr,Oper.upon_enter];refine hc.mono ?_;rintro e w' ⟨v,rfl,hR⟩;exact hK _ _ (h v w' hR)
end
end
section
open Go.RowKit Go.Sort Go.Deep
variable {P:Nat}[NeZero P]{N:Nat}
theorem CM(n:Nat)(hn:n<4294967296)(w:World):Calls prog 78 #[iZ n] w (rZ w λe w'=>∃r,e=.slice (some (aZ r)) 4 4/\r<w'.heap.size/\Holds encB w' r 0 (mF n)):=by
 have b00:(n:Int)/16777216%256=SP.ub (SP.aX n 16777216):=SP.dM n 16777216;have b0:(n:Int)/16777216=SP.ub (SP.aX n 16777216):=oM;clear b00;have b1:(n:Int)/65536%256=SP.ub (SP.aX n 65536):=SP.dM n 65536;have b2:(n:Int)/256%256=SP.ub (SP.aX n 256):=SP.dM n 256;have b3:(n:Int)%256=SP.ub (SP.aX n 1):=SP.pV n;have h4:=SP.lF w (SP.aX n 16777216) (SP.aX n 65536) (SP.aX n 256) (SP.aX n 1);have HN:Hid (mF n=#[SP.aX n 16777216,SP.aX n 65536,SP.aX n 256,SP.aX n 1]):=rfl;generalize SP.aX n 16777216=x0 at *;generalize SP.aX n 65536=x1 at *;generalize SP.aX n 256=x2 at *;generalize SP.aX n 1=x3 at *;have hb0:Below w.heap.size w (w.alloc (.cells #[.int .u8 (SP.ub x0),.int .u8 (SP.ub x1),.int .u8 (SP.ub x2),.int .u8 (SP.ub x3)] 5)):=(SE _ _).alloc (Se _) _;go_enter Tryz.func78,Tryz.ntmps78;go_wp2;go_ret;refine⟨_,rfl,hb0,_,rfl,by rw[Sq];omega,?_⟩;rw[HN.out];exact h4
theorem zL(a:Bs)(ha:a.size=33)(w:World):Calls prog 14 #[pvl a] w (rZ w λe w'=>Sm w.heap.size w' e [(1,a)]):=by
 have B1:=Hid.mk' (yH ha w);obtain⟨w1,hw1⟩:=hE (w.alloc (.cells (aA a).toArray 35));rw[hw1.out]at B1;have K:Hid (Row w1 w.heap.size (aA a)/\Below w.heap.size w w1):=by rw[<-hw1.out];exact⟨aD w _ _,aB w _⟩
 obtain⟨va,hva⟩:=hE (pvl a);have B1':Hid ((TF 35 va).run prog w=.ok (.pointer (some ⟨w.heap.size,0,none⟩)) w1):=by rw[<-hva.out];exact B1
 rw[hva.out];go_enter Tryz.func14,Tryz.ntmps14;go_wp2_with (first|(refine aI (u:=va) (v:=.pointer (some ⟨w.heap.size,0,none⟩)) (w':=w1) rfl 35 (.tmp 0) rfl ?_ ?_ ?_;rfl;exact B1'.out)|fail)
 refine(RG.gwL [RG.pE (pvl a),RG.pE (nv 1),RG.pM (w.heap.size<=·) [(1,a)],RG.pM (w.heap.size<=·) [(1,a)]] (λW=>Row W w.heap.size (aA a)/\Below w.heap.size w W) (λW W' hb h=>⟨h.1.below hb,h.2.trans (hb.mono h.2.size)⟩)).draws kR kR ⟨
  RG.lN 35 1 w.heap.size 0 (aA a) uCP (by rw[aH ha];exact eC) rfl (λW hB=>hB.1.2.1) (λ_=>rfl),
  RG.Mz 39 #[uZ 1] λW hB=>(Mo W).mono (by
   rintro e W' ⟨u,rfl,hb,rfl⟩;exact⟨_,rfl,hb,rfl⟩),
  RG.jO 0 3 1 4 29 (λx y=>#[x,y]) λx y W hx hy hB=>by
   obtain rfl:x=pvl a:=hx;obtain rfl:y=nv 1:=hy;refine(rE a ha 1 W).mono ?_;rintro e W' ⟨u,rfl,hb,k,rfl,hk,hR⟩;exact⟨_,rfl,hb,Sm.one hR (SD hB.2.size hk) rfl⟩,
  RG.FH 2 5 id λx W h=>h,trivial⟩ ⟨K.1,K.2.drew⟩ ?_
 intro V w2 hR hB;have HS:=mk1 (hR 3 (UX (TY kR)));have HB:=mk1 (hB.2);dsimp only[RG.dJ,TG];go_wp2;go_ret;exact⟨_,rfl,HB.out,HS.out⟩
theorem u9s:(prog.underlying 9).map (·.isRow)=some false:=kR
def RG.pH(n:Nat)(b:Bs):RG.S1:=⟨λv W=>∃r,v=.slice (some (aZ r)) n n/\r<W.heap.size/\Holds encB W r 0 b,λ_ _ _ hb ⟨r,h1,h2,h3⟩=>⟨r,h1,Si h2 hb.size,Holds.below h3 hb h2⟩⟩
noncomputable def hpN (P:Nat) [NeZero P] (lb:ByteArray) (i:Nat):Bs:=wr (.some (hpt P lb (mF i).toList):EC.Pt P)
theorem Iz(lb:ByteArray)(i:Nat):(hpN P lb i).size=33:=dB _
theorem NL(C:Fld P)(lb:ByteArray)(hlb:lb.size<=1000000)(i:Nat)(hi:i<4294967296)(k:Nat)(w:World)(hk:k<w.heap.size)(hc:w.cell? ⟨k,0,none⟩=some (.string lb)):
 Calls prog 77 #[iZ i,pZ k] w (rZ w λe w'=>Sm w.heap.size w' e [(1,hpN P lb i)]):=by
 obtain⟨T,hT⟩:=hE (hpN P lb i);have hTs:T.size=33:=by rw[<-hT.out];exact Iz _ _
 rw[hT.out];have hH:=λ(W:World) (ta:Option Addr) (tl tc:Nat) (hp:SP.PartOk W (.slice ta tl tc) (mF i).toList)=>EM C lb hlb ta tl tc (mF i).toList W hp
 have e0:wr (.some (hpt P lb (mF i).toList):EC.Pt P)=T:=hT.out;rw[e0]at hH;have HH:=Hid.mk' hH;have HC:=mk1 (hc);have hNm:=Hid.mk' (λW=>CM i hi W);go_enter Tryz.func77,Tryz.ntmps77;go_wp2_with fail
 refine(RG.gwL [RG.pE (.string lb),RG.pE (iZ i),RG.pH 4 (mF i),RG.pE (pvl T),RG.pM (w.heap.size<=·) [(1,T)],RG.pM (w.heap.size<=·) [(1,T)]] (λW=>W.cell? ⟨k,0,none⟩=some (.string lb)/\Below w.heap.size w W) (λW W' hb h=>⟨by rw[hb.cell (p:=⟨k,0,none⟩) (Si hk h.2.size)];exact h.1,h.2.trans (hb.mono h.2.size)⟩)).draws kR kR ⟨
  RG.Ot 9 1 k 0 (.string lb) u9s rfl (λW hB=>hB.1) (λ_=>rfl),
  RG.gO 0 (iZ i),
  RG.Bp 1 5 78 (λx=>#[x]) (λx W hx hB=>by
   obtain rfl:x=iZ i:=hx;refine(hNm W).mono ?_;rintro e W' ⟨u,rfl,hb,r,rfl,h1,h2⟩;exact⟨_,rfl,hb,r,rfl,h1,h2⟩),
  RG.jO 0 4 2 6 38 (λx y=>#[x,y]) (λx y W hx hy hB=>by
   obtain rfl:x=.string lb:=hx;obtain⟨r,rfl,h1,h2⟩:=hy;refine(HH W _ _ _ (NP h2)).mono ?_;rintro e W' ⟨u,rfl,hb,rfl⟩;exact⟨_,rfl,hb,rfl⟩),
  RG.Bp 3 7 14 (λx=>#[x]) (λx W hx hB=>by
   obtain rfl:x=pvl T:=hx;refine(zL T hTs W).mono ?_;rintro e W' ⟨u,rfl,hb,hs⟩;exact⟨_,rfl,hb,hs.q.mono λg hg=>SD hB.2.size hg⟩),
  RG.FH 4 8 id (λx W h=>h),trivial⟩ ⟨HC.out,(SE _ w).drew⟩ ?_
 intro V w2 hR hB;have HS:=mk1 (hR 5 (UX (TY kR)));have HB:=mk1 (hB.2);dsimp only[RG.dJ,TG];simp only[Tt,Sw,SN,SQ];go_wp2;go_ret;exact⟨_,rfl,HB.out,HS.out⟩
theorem uSu:prog.underlying 55=some (.slice 57):=kR
theorem iSu:(prog.info? 57).map (λi=>(i.size,decide (i.bytes<=4000),i.zero.isSome))=some (1,true,true):=kR
theorem P5:(prog.info? 57).map (·.size)=some 1:=kR
structure LsI(w W:World)(K n i:Nat)(T:Nat->List (Nat × Bs)):Prop where
 bl:Below w.heap.size w W
 lt:K<W.heap.size
 th:W.there K 0 n
 ge:w.heap.size<=K
 el:∀j,j<i->∃x,W.cell? ⟨K,j,none⟩=some x/\SmQ (λg=>w.heap.size<=g/\g≠K) W x (T j)
theorem LsI.grow{w W W':World}{K n i:Nat}{T:Nat->List (Nat × Bs)}(h:LsI w W K n i T)(hb:Below W.heap.size W W'):LsI w W' K n i T:=
 ⟨h.bl.trans (hb.mono h.bl.size),Si h.lt hb.size,RG.eA h.th hb h.lt,h.ge,λj hj=>by
  obtain⟨x,h1,h2⟩:=h.el j hj;exact⟨x,by rw[hb.cell (p:=⟨K,j,none⟩) h.lt];exact h1,h2.keep (Kq.of_below hb)⟩⟩
theorem Kq.set{Q:Nat->Prop}{W:World}{K o:Nat}{vs:List Value}(hQ:∀g,Q g->g≠K):Kq Q W (W.setCells K o vs):=⟨by rw[RG.setCells_size];exact Se _,λg hg _=>RG.aS K vs o W g (hQ g hg)⟩
theorem LsI.put{w W:World}{K n i:Nat}{T:Nat->List (Nat × Bs)}{x:Value}(h:LsI w W K n i T)(hi:i<n)(hx:SmQ (λg=>w.heap.size<=g/\g≠K) W x (T i)):LsI w (W.setCells K i [x]) K n (i+1) T:=by
 have hk:Kq (λg=>w.heap.size<=g/\g≠K) W (W.setCells K i [x]):=Kq.set λg hg=>hg.2
 refine⟨RG.below_setCells h.ge _ _ _ h.bl,by rw[RG.setCells_size];exact h.lt,U8 h.th _ _ _,h.ge,λj hj=>?_⟩;by_cases e:j=i
 ·subst e;refine⟨x,?_,hx.keep hk⟩;have:=Uq W K j [x] (λt ht=>by
   have ht0:t=0:=by simp at ht;omega
   subst ht0;have:=h.th j hi;rwa[Sj]at this) 0 x rfl
  exact this
 ·obtain⟨y,h1,h2⟩:=h.el j oM;refine⟨y,?_,h2.keep hk⟩;have hr:W.rangeAt K j [y]:=λt u hu=>by
   have ht0:t=0:=by have:=(SI.1 hu).1;simp at this;omega
   subst ht0;obtain rfl:y=u:=by simpa using hu
   exact h1
  exact Ul hr K i [x] (SJ (by simp;omega)) 0 y rfl
theorem LsI.gl{w W:World}{K n:Nat}{T:Nat->List (Nat × Bs)}(h:LsI w W K n n T):GLq (w.heap.size<=·) W (.slice (some (aZ K)) n n) n T:=
 ⟨K,0,n,rfl,Se _,h.ge,h.lt,λj hj=>by
  obtain⟨x,h1,h2⟩:=h.el j hj;exact⟨x,by rw[Sj];exact h1,h2.mono λg hg=>hg.1⟩⟩
theorem SmQ.one{Q:Nat->Prop}{W:World}{v:Value}{l:List (Nat × Bs)}(h:SmQ Q W v l):v.cells=#[v]/\v.oneCell'=true:=by
 obtain⟨g,c,rfl,-⟩:=h;exact⟨rfl,rfl⟩
theorem FA(n:Nat)(hn:n<=512)(f:FuncId)(cap:Array Value)(hf:∀args W,(callFunc f args).run prog W=.ok (.enter f args) W)(T:Nat->List (Nat × Bs))(w:World)
 (hc:∀i W,i<n->Below w.heap.size w W->Calls prog f (#[iZ i]++cap) W (rZ W λe W'=>Sm W.heap.size W' e (T i))) :
 Calls prog 76 #[iZ n,.func (.func f) #[] cap] w (rZ w λe w'=>GLq (w.heap.size<=·) w' e n T):=by
 obtain⟨C0,hC0,hmk⟩:=Mp uSu iSu n hn;have hmk':=hmk w;obtain⟨K,hK⟩:∃K,Hid (w.heap.size=K):=⟨_,rfl⟩
 obtain⟨w1,hw1⟩:∃w1,Hid (w.alloc (.cells C0.toArray 57)=w1):=⟨_,rfl⟩
 have A0:Ar w w1 K 1 n 0 (λ_=>[]):=Ar.new _ hC0 hw1.out hK.out;rw[hw1.out,hK.out]at hmk';have K1:Hid (LsI w w1 K n 0 T):=⟨A0.bl,A0.lt,by have:=A0.th;rwa[UL]at this,by rw[hK.out];exact Se _,λj hj=>absurd hj (UI _)⟩
 have HC:=Hid.mk' hc;have HF:=Hid.mk' hf;obtain⟨fv,hfv⟩:=hE (Value.func (.func f) #[] cap);rw[hfv.out];clear A0 hC0 hmk hc hf hw1 hK;go_enter Tryz.func76,Tryz.ntmps76;go_wp2;clear hmk';go_loopg [11] n (λm s11 W=>∃i:Nat,i+m=n/\s11=iZ i/\Hid (LsI w W K n i T))
 case atStart=>exact⟨0,oM,rfl,K1⟩
 case round =>
  obtain⟨i,hik,rfl,KM⟩:=hrel;by_cases hi:i<n
  ·have hi':(i:Int)<(n:Int):=oM;have hix:=atS K 0 n n i hi;rw[show 0+1*i=i by omega]at hix;have HI:=Hid.mk' hi;go_wp2_with (first|(refine E3 rfl 16 17 _ rfl f cap (iZ i) ?_ ?_ HF.out (HC i wr HI.out KM.bl) ?_;exact hfv.symm;rfl;intro e W' hR;refine XI ?_)|fail)
   obtain⟨hb,hS⟩:=hR;have KN:=KM.grow hb;have hS2:SmQ (λg=>w.heap.size<=g/\g≠K) W' e (T i):=hS.q.mono λg hg=>⟨SD (SD KM.bl.size (Se _)) hg,by have:=KM.lt;omega⟩
   have K4:=mk1 (KN.put hi hS2);have HT:Hid (W'.there K i 1):=λt ht=>by
    have ht0:t=0:=oM;subst ht0;have:=KN.th i hi;rwa[Sj]at this
   have HE:=Hid.mk' hS2.one;obtain⟨W4,hW4⟩:=hE (W'.setCells K i [e]);rw[hW4.out]at K4;show wpList _ _ _ _ _ _;go_wp2_with (first|(refine t6 rfl 57 _ _ rfl K i e ?_ ?_ HE.1 HE.2 HT.out P5 ?_;rfl;rfl;rw[hW4.out])|fail)
   go_roundg (gk-1)
   case measure=>omega
   case rel=>exact⟨i+1,oM,rfl,K4⟩
  ·have hi':¬(i:Int)<(n:Int):=oM;obtain rfl:i=n:=oM;have KS:=mk2 KM.bl KM.gl;go_wp2;go_ret;exact⟨_,rfl,KS.1,KS.2⟩
theorem sJ(C:Fld P)(lb:ByteArray)(hlb:lb.size<=1000000)(n:Nat)(hn:n<=512)(w:World):
 Calls prog 37 #[.string lb,iZ n] w (rZ w λe w'=>GLq (w.heap.size<=·) w' e n (λi=>[(1,hpN P lb i)])):=by
 obtain⟨w1,hw1⟩:=hE (w.alloc (.cells #[.string lb] 9));obtain⟨k,hk⟩:=hE (w.heap.size);have hb:Below w.heap.size w w1:=by rw[<-hw1.out];exact aB _ _
 have hR:Row w1 k [.string lb]:=by rw[<-hw1.out,<-hk.out];exact aD w _ _
 have HL:=Hid.mk' (FA n hn 77 #[pZ k] (λ_ _=>kR) (λi=>[(1,hpN P lb i)]) w1 (λi W hi hB=>NL C lb hlb i oM k W (Si hR.1 hB.size) (by rw[hB.cell (p:=⟨k,0,none⟩) hR.1];exact hR.2.1 0 _ rfl)));have HB:=Hid.mk' hb;go_enter Tryz.func37,Tryz.ntmps37;go_wp2_with fail
 rw[hw1.out,hk.out];refine HL.mono ?_;rintro e w2 ⟨v,rfl,hb2,hG⟩;have K2:=mk2 (HB.trans (hb2.mono HB.size)) (hG.mono λg hg=>SD HB.size hg);go_wp2;go_ret;exact⟨_,rfl,K2.out⟩
noncomputable def hpU (P:Nat) [NeZero P]:Bs:=wr (.some (hpt P ⟨#[105,110,110,101,114]⟩ []):EC.Pt P)
theorem iGr:(prog.info? 59).map (·.size)=some 3:=kR
theorem uGr:(prog.underlying 59).map (·.isRow)=some true:=kR
noncomputable def gGT (P:Nat) [NeZero P] (i:Nat):List (Nat × Bs):=[(1,hpN P ⟨#[108,101,102,116]⟩ i)]
noncomputable def hGT (P:Nat) [NeZero P] (i:Nat):List (Nat × Bs):=[(1,hpN P ⟨#[114,105,103,104,116]⟩ i)]
noncomputable def uGT (P:Nat) [NeZero P]:List (Nat × Bs):=[(1,hpU P)]
theorem CZ(C:Fld P)(n:Nat)(hn:n<=512)(w:World):
 Calls prog 13 #[iZ n] w (rZ w λe w'=>GRq (w.heap.size<=·) w' e n (gGT P) (hGT P) (uGT P)):=by
 have hG1:=λW=>sJ C ⟨#[108,101,102,116]⟩ dC n hn W
 have hG2:=λW=>sJ C ⟨#[114,105,103,104,116]⟩ dC n hn W
 have hU:=λW:World=>EM C ⟨#[105,110,110,101,114]⟩ dC none 0 0 [] W ⟨none,0,0,0,#[],rfl,rfl,Se _,Us _,SY rfl⟩
 have e0:wr (.some (hpt P ⟨#[105,110,110,101,114]⟩ []):EC.Pt P)=hpU P:=rfl;rw[e0]at hU;have hO:=λW=>zL (hpU P) (dB _) W
 obtain⟨U,hUe⟩:∃U,Hid (hpU P=U):=⟨_,rfl⟩
 have e1:uGT P=[(1,U)]:=by unfold uGT;rw[hUe.out]
 rw[e1];rw[hUe.out]at hU hO;have HX:=Hid.mk' (Tj hG1 (Tj hG2 (Tj hU hO)));have e2:(λi=>[(1,hpN P ⟨#[108,101,102,116]⟩ i)])=gGT P:=rfl;have e3:(λi=>[(1,hpN P ⟨#[114,105,103,104,116]⟩ i)])=hGT P:=rfl;rw[e2,e3]at HX;generalize gGT P=G at HX⊢;generalize hGT P=H at HX⊢;clear hG1 hG2 hU hO e0 e1 e2 e3 C hn;obtain⟨w1,hw1⟩:∃w1,Hid (w.alloc (.cells #[.slice none 0 0,.slice none 0 0,.slice none 0 0] 59)=w1):=⟨_,rfl⟩
 obtain⟨k,hk⟩:∃k,Hid (w.heap.size=k):=⟨_,rfl⟩
 have K1:Hid (Below w.heap.size w w1/\Row w1 k [.slice none 0 0,.slice none 0 0,.slice none 0 0]):=by rw[<-hw1.out,<-hk.out];exact⟨aB _ _,aD w _ _⟩
 go_enter Tryz.func13,Tryz.ntmps13;go_wp2_with fail
 rw[hw1.out,hk.out];refine(HX.1 w1).mono ?_;rintro e w2 ⟨v1,rfl,hb2,hG⟩;have K2:Hid (Below w.heap.size w w2/\Row w2 k [.slice none 0 0,.slice none 0 0,.slice none 0 0]/\GLq (k < ·) w2 v1 n G):=⟨K1.1.trans (hb2.mono K1.1.size),K1.2.below hb2,hG.mono λg hg=>Si K1.2.1 hg⟩
 go_wp2_with fail
 refine(HX.2.1 w2).mono ?_;rintro e w3 ⟨v2,rfl,hb3,hG⟩;have K3:Hid (Below w.heap.size w w3/\Row w3 k [.slice none 0 0,.slice none 0 0,.slice none 0 0]/\GLq (k < ·) w3 v1 n G/\GLq (k < ·) w3 v2 n H):=⟨K2.1.trans (hb3.mono K2.1.size),K2.2.1.below hb3,K2.2.2.keep (Kq.of_below hb3),hG.mono λg hg=>Si K2.2.1.1 hg⟩
 go_wp2_with fail
 refine(HX.2.2.1 w3).mono ?_;rintro e w4 ⟨v,rfl,hb4,rfl⟩;have K4:Hid (Below w.heap.size w w4/\Row w4 k [.slice none 0 0,.slice none 0 0,.slice none 0 0]/\GLq (k < ·) w4 v1 n G/\GLq (k < ·) w4 v2 n H):=⟨K3.1.trans (hb4.mono K3.1.size),K3.2.1.below hb4,K3.2.2.1.keep (Kq.of_below hb4),K3.2.2.2.keep (Kq.of_below hb4)⟩
 obtain⟨vu,hvu⟩:=hE (pvl U);have HO:Hid (∀W:World,Calls prog 14 #[vu] W (rZ W λe w'=>Sm W.heap.size w' e [(1,U)])):=by rw[<-hvu.out];exact HX.2.2.2
 rw[hvu.out];go_wp2_with fail
 refine(HO w4).mono ?_;rintro e w5 ⟨v3,rfl,hb5,hS⟩;have K5:Hid (Below w.heap.size w w5/\Row w5 k [.slice none 0 0,.slice none 0 0,.slice none 0 0]/\GLq (k < ·) w5 v1 n G/\GLq (k < ·) w5 v2 n H/\SmQ (k < ·) w5 v3 [(1,U)]):=⟨K4.1.trans (hb5.mono K4.1.size),K4.2.1.below hb5,K4.2.2.1.keep (Kq.of_below hb5),K4.2.2.2.keep (Kq.of_below hb5),hS.q.mono λg hg=>Si K4.2.1.1 hg⟩
 clear hb5 hS K4 HO;obtain⟨g1,o1,c1,rfl,-⟩:=K5.2.2.1;obtain⟨g2,o2,c2,rfl,-⟩:=K5.2.2.2.1;obtain⟨g3,c3,rfl,-⟩:=K5.2.2.2.2;obtain⟨w6,hw6⟩:∃w6,Hid (w5.setCells k 0 [.slice (some ⟨g1,o1,none⟩) n c1,.slice (some ⟨g2,o2,none⟩) n c2,.slice (some (aZ g3)) [(1,U)].length c3]=w6):=⟨_,Hid.mk' rfl⟩
 have K6:Hid (Below w.heap.size w w6/\Row w6 k [.slice (some ⟨g1,o1,none⟩) n c1,.slice (some ⟨g2,o2,none⟩) n c2,.slice (some (aZ g3)) [(1,U)].length c3]/\GRq (w.heap.size<=·) w6 (.agg #[.slice (some ⟨g1,o1,none⟩) n c1,.slice (some ⟨g2,o2,none⟩) n c2,.slice (some (aZ g3)) [(1,U)].length c3]) n G H [(1,U)]):=by
  rw[<-hw6.out];have hq:∀g,k<g->w.heap.size<=g:=λg hg=>by rw[hk.out];omega
  have kq:Kq (k < ·) w5 (w5.setCells k 0 [.slice (some ⟨g1,o1,none⟩) n c1,.slice (some ⟨g2,o2,none⟩) n c2,.slice (some (aZ g3)) [(1,U)].length c3]):=Kq.set λg hg=>Nat.ne_of_gt hg
  exact⟨RG.below_setCells (by rw[hk.out];exact Se _) _ _ _ K5.1,K5.2.1.put rfl,_,_,_,rfl,(K5.2.2.1.keep kq).mono hq,(K5.2.2.2.1.keep kq).mono hq,(K5.2.2.2.2.keep kq).mono hq⟩
 have HT:=mk1 (K5.2.1.2.2);go_wp2_with (refine bG (v:=.agg #[.slice (some ⟨g1,o1,none⟩) n c1,.slice (some ⟨g2,o2,none⟩) n c2,.slice (some (aZ g3)) [(1,U)].length c3]) (w':=w5) rfl (.build 59 _) rfl ?_ ?_;kernel_rfl;refine XI ?_)
 show wpList _ _ _ _ _ _;refine wpList_store_mid rfl 59 _ _ rfl k 0 #[.slice (some ⟨g1,o1,none⟩) n c1,.slice (some ⟨g2,o2,none⟩) n c2,.slice (some (aZ g3)) [(1,U)].length c3] ?_ ?_ HT.out iGr ?_ ?_
 ·kernel_rfl
 ·kernel_rfl
 ·kernel_rfl
 rw[show(#[.slice (some ⟨g1,o1,none⟩) n c1,.slice (some ⟨g2,o2,none⟩) n c2,.slice (some (aZ g3)) [(1,U)].length c3]:Array Value).toList=[.slice (some ⟨g1,o1,none⟩) n c1,.slice (some ⟨g2,o2,none⟩) n c2,.slice (some (aZ g3)) [(1,U)].length c3] from rfl,hw6.out];go_wp2;refine bodyPost_ret (aP 2 59 rfl K6.2.1 rfl uGr iGr) rfl ?_;exact⟨_,rfl,K6.1,K6.2.2⟩
theorem u22:(prog.underlying 23).map (·.isRow)=some false:=kR
theorem Qx(k o n c i:Nat)(hi:i<n)(w:World):(To 22 (.slice (some ⟨k,o,none⟩) n c) (iZ i)).run prog w=.ok (.pointer (some ⟨k,o+i,none⟩)) w:=by
 go_simp
theorem LZ(k o n c i:Nat)(hi:i<n)(w:World):(To 78 (.slice (some ⟨k,o,none⟩) n c) (iZ i)).run prog w=.ok (.pointer (some ⟨k,o+4*i,none⟩)) w:=by
 go_simp
theorem Ro(N:Nat)(hN:N<=512):∃C0:List Value,C0.length=4*N/\∀w:World,(Uc 78 (iZ N) (iZ N)).run prog w=.ok (.slice (some ⟨w.heap.size,0,none⟩) N N) (w.alloc (.cells C0.toArray 43)):=by
 have hu:prog.underlying 78=some (.slice 43):=kR;have hi:(prog.info? 43).map (λi=>(i.size,decide (i.bytes<=4000),i.zero.isSome))=some (4,true,true):=kR;obtain⟨i,hi1,hi2⟩:=Sf.1 hi;simp only[Ud.injEq,decide_eq_true_eq]at hi2;obtain⟨h1,h2,h3⟩:=hi2;obtain⟨z,hz⟩:=SU.1 h3;refine⟨(madeCells z.cells (N*4)).toList,by rw[Sx,size_madeCells,S9],λw=>?_⟩;have hb:(i.bytes:Int)*(N:Int)<=281474976710656:=by
  have:i.bytes*N<=4000*512:=T9 h2 hN;have h5:((i.bytes*N:Nat):Int)<=281474976710656:=oM;rwa[Uh]at h5
 have:=run_make (P:=prog) w 78 43 i z hu hi1 hz .i64 .i64 (N:Int) (N:Int) oM oM hb oM;rw[Vd,h1]at this;rw[UQ];exact this
def Sc(N:Nat)(w:World)(n:Nat)(L:Nat->Bs)(e:Value)(w':World):Prop:=
 ((∃j,j<n/\rq N (L j)=none)/\Below w.heap.size w w'/\e=.tuple #[.slice none 0 0,.bool false]) \/
 ((∀j,j<n->(rq N (L j)).isSome=true)/\∃k C,RG.Made w k C w'/\Rows 4 n (λj=>wn ((rq N (L j)).getD 0)) n C/\e=.tuple #[.slice (some (aZ k)) n n,.bool true])
theorem Ma(O:Ord N)(n cap:Nat)(hn:n<=512)(q:Option Addr)(L:Nat->Bs)(w:World)(hA:Args w q n L):Calls prog 24 #[(.func (.func 25) #[] #[]),.slice q n cap] w (Ret λe w'=>Sc N w n L e w'):=by
 obtain⟨C,hCl,hmk⟩:=Ro n hn;go_enter Tryz.func24,Tryz.ntmps24;refine RG.M.enter [(0,.v (.func (.func 25) #[] #[])),(1,.v (.slice q n cap))] 35 kR ?_;intro a0 M0;repeat refine wp_seq ?_
 refine M0.U [.x (.slice none 0 0),.x (.bool false)] [0,1] ⟨RG.st,RG.st,trivial⟩ ?_;intro a1 w1 M1;repeat refine wp_seq ?_
 refine M1.t [.x 11 [] (.slice q n cap),.x 12 [(11,0)] (iZ n),⟨some 13,[(12,1)],.s 0 n n,.make 0⟩,.s 6 [(13,2)] (.s 0 n n)] [(2,C)] [] [C] [(0,.v (.func (.func 25) #[] #[])),(1,.v (.slice q n cap)),(6,.s 0 n n)] ⟨RG.st,RG.st,RG.lI 0 rfl _ rfl 78 43 12 12 n rfl rfl RG.sx RG.sx hmk,RG.st,trivial⟩ ?_;intro j2 a2 w2 M2;repeat refine wp_seq ?_
 refine M2.U [.x (.slice q n cap),.x (iZ n),.x (iZ 0)] [0,6,14,15,16] ⟨RG.st,RG.st,RG.st,trivial⟩ ?_;intro a3 w3 M3;repeat refine wp_seq ?_
 refine wp_block ?_;refine wp_loop_ghost (λm a wr=>∃(i:Nat) (C:List Value) (kt:Nat),i+m=n/\(∀j,j<i->(rq N (L j)).isSome=true)/\Rows 4 n (λj=>wn ((rq N (L j)).getD 0)) i C/\RG.M w w.heap.size [] 35 [C] [kt] [(0,.v (.func (.func 25) #[] #[])),(6,.s 0 n n),(14,.v (.slice q n cap)),(15,.v (iZ n)),(16,.v (iZ i))] a wr) n ⟨0,C,_,oM,λj hj=>oM,⟨hCl,λj r hj=>oM⟩,M3⟩ ?_;clear hmk;intro m' a wr;rintro⟨i,C,kt,him,hall,hR,M20⟩;by_cases hi:i<n
 ·obtain⟨gg,hqe,hgg,hc⟩:=hA oM;subst hqe;obtain⟨v,hv,harg⟩:=hc i hi;have hcell:w.cell? ⟨gg,0+i,none⟩=some v:=by rw[Sj];exact hv
  have hrd0:=λw' (hb:RG.BelX w.heap.size [] w w')=>JY O v (L i) w' (harg.below hb.below)
  obtain⟨m,hm⟩:∃m,m=(rq N (L i)).getD 0:=⟨_,rfl⟩
  cases hok:(rq N (L i)).isSome with
  | true =>
   have hrd:∀w',RG.BelX w.heap.size [] w w'->Calls prog 25 #[v] w' (Ret λe w''=>Below w'.heap.size w' w''/\e=.tuple #[nv m,.bool true]):=λw' hb=>by
    have h:=hrd0 w' hb;rw[hok,<-hm]at h;exact h
   have hlen:=hR.len;have hoff:0+4*i+(wn m).length<=C.length:=by rw[hlen];show 0+4*i+4<=4*n;omega
   obtain⟨C2,hC2e⟩:∃c,RG.rep C (0+4*i) (wn m)=c:=⟨_,rfl⟩
   have hC2:=hC2e ▸ RG.rep_at hoff;have hcl:C2.length=C.length:=hC2e ▸ RG.cX hoff;have hR2:Rows 4 n (λj=>wn ((rq N (L j)).getD 0)) (i+1) C2:=by
    have:=hR.next hi rfl;rw[<-hC2e,hm];exact this
   repeat refine wp_seq ?_
   refine M20.U [.x (.bool true)] [0,6,14,15,16,17] ⟨RG.aK rfl .lss 3 3 16 15 (iZ i) (iZ n) (.bool true) rfl rfl RG.sx RG.sx (λw=>kR) (eN hi),trivial⟩ ?_;intro a21 w21 M21;repeat refine wp_seq ?_
   refine wp_cond_true M21.ev ?_;refine wp_skip ?_;refine wp_seq ?_;refine wp_block ?_;repeat refine wp_seq ?_
   refine M21.U [.x (iZ i),.x (.pointer (some ⟨gg,0+i,none⟩)),.x v,.x (iZ i),.x v] [0,6,7,8,14,15,16] ⟨RG.st,RG.aY rfl 22 14 16 rfl (.v (.slice (some (aZ gg)) n cap)) (iZ i) RG.sx RG.sx (λμ w=>Qx _ 0 _ _ i hi w),RG.bK rfl gg (0+i) hgg SL 23 19 rfl v rfl RG.sx hcell u22,RG.st,RG.st,trivial⟩ ?_;intro a22 w22 M22;repeat refine wp_seq ?_
   refine M22.T [.x (.func (.func 25) #[] #[]),.x v,.c (.tuple #[nv m,.bool true]),.x (.tuple #[nv m,.bool true]),.x (nv m),.x (.bool true),.m 1,.u 1,.x (.bool true)] [(6,RG.z 4)] [(1,7,wn m)] [C,wn m] [0,6,7,9,10,14,15,16] ⟨RG.st,RG.st,RG.clB (λ_ _=>kR) hrd,RG.st,RG.st,RG.st,RG.mk 1 43,RG.pt i40,RG.st,trivial⟩ ?_;intro j23 a23 w23 M23;repeat refine wp_seq ?_
   refine M23.U [.x (.bool true),.x (.bool false)] [0,6,7,9,14,15,16,28] ⟨RG.st,RG.st,trivial⟩ ?_;intro a24 w24 M24;repeat refine wp_seq ?_
   refine wp_cond_false M24.ev ?_;refine wp_skip ?_;repeat refine wp_seq ?_
   refine M24.tx [.s 29 [] (.s 0 n n),.x 30 [] (iZ i),.x 31 [] (nv m),.s 32 [(29,0),(30,1)] (.p 0 (0+4*i)),.u [(32,3),(31,2)] 0] [] [(0,4,C2)] [C2,wn m] [(0,.v (.func (.func 25) #[] #[])),(6,.s 0 n n),(14,.v (.slice (some (aZ gg)) n cap)),(15,.v (iZ n)),(16,.v (iZ i))] kR (congrArg (λn=>[n]) hcl) ⟨RG.st,RG.st,RG.ld u40 i40,RG.aY rfl 78 29 30 rfl (.s 0 n n) (iZ i) RG.sx RG.sx (λμ w=>LZ _ 0 _ _ i hi w),RG.eX 0 (0+4*i) rfl _ rfl 43 (.tmp 32) (.tmp 31) (wn m) rfl rfl RG.sx RG.sx hoff hC2 i40 rfl,trivial⟩ ?_;intro a25 w25 M25;repeat refine wp_seq ?_
   refine M25.U [.x (iZ ((i+1:Nat):Int)),.x (iZ ((i+1:Nat):Int))] [0,6,14,15,16] ⟨RG.aG rfl .add 3 3 16 (iZ i) (iZ 1) (iZ ((i+1:Nat):Int)) rfl rfl RG.sx (λw=>kR) (qM i 1 oM oM),RG.st,trivial⟩ ?_;intro a26 w26 M26;show ∃n',_;exact⟨m'-1,oM,i+1,C2,kt,oM,λj hj=>(by
    by_cases hji:j=i
    ·rw[hji];exact hok
    ·exact hall j oM),hR2,RG.M.drop (cs:=[C2]) (cs2:=[_]) (ks:=[kt]) (ks2:=[_]) M26 rfl rfl⟩
  | false =>
   have hrd:∀w',RG.BelX w.heap.size [] w w'->Calls prog 25 #[v] w' (Ret λe w''=>Below w'.heap.size w' w''/\e=.tuple #[nv m,.bool false]):=λw' hb=>by
    have h:=hrd0 w' hb;rw[hok,<-hm]at h;exact h
   repeat refine wp_seq ?_
   refine M20.U [.x (.bool true)] [0,14,16,17] ⟨RG.aK rfl .lss 3 3 16 15 (iZ i) (iZ n) (.bool true) rfl rfl RG.sx RG.sx (λw=>kR) (eN hi),trivial⟩ ?_;intro a21 w21 M21;repeat refine wp_seq ?_
   refine wp_cond_true M21.ev ?_;refine wp_skip ?_;refine wp_seq ?_;refine wp_block ?_;repeat refine wp_seq ?_
   refine M21.U [.x (iZ i),.x (.pointer (some ⟨gg,0+i,none⟩)),.x v,.x (iZ i),.x v] [0,8] ⟨RG.st,RG.aY rfl 22 14 16 rfl (.v (.slice (some (aZ gg)) n cap)) (iZ i) RG.sx RG.sx (λμ w=>Qx _ 0 _ _ i hi w),RG.bK rfl gg (0+i) hgg SL 23 19 rfl v rfl RG.sx hcell u22,RG.st,RG.st,trivial⟩ ?_;intro a22 w22 M22;repeat refine wp_seq ?_
   refine M22.T [.x (.func (.func 25) #[] #[]),.x v,.c (.tuple #[nv m,.bool false]),.x (.tuple #[nv m,.bool false]),.x (nv m),.x (.bool false),.m 1,.u 1,.x (.bool false)] [(6,RG.z 4)] [(1,7,wn m)] [C,wn m] [10] ⟨RG.st,RG.st,RG.clB (λ_ _=>kR) hrd,RG.st,RG.st,RG.st,RG.mk 1 43,RG.pt i40,RG.st,trivial⟩ ?_;intro j23 a23 w23 M23;repeat refine wp_seq ?_
   refine M23.U [.x (.bool false),.x (.bool true)] [28] ⟨RG.st,RG.st,trivial⟩ ?_;intro a24 w24 M24;repeat refine wp_seq ?_
   refine wp_cond_true M24.ev ?_;repeat refine wp_seq ?_
   refine M24.U [.x (.slice none 0 0),.x (.bool false)] [4,5] ⟨RG.st,RG.st,trivial⟩ ?_;intro a25 w25 M25;refine wp_ret ?_;refine bodyPost_ret (v:=.tuple #[.slice none 0 0,.bool false]) (RG.gC 4 5 rfl (.slice none 0 0) (.bool false) M25.av M25.av) M25.sl.defers ?_;exact⟨_,rfl,SY ⟨⟨i,hi,by simpa using hok⟩,M25.st.bel.below,rfl⟩⟩
 ·have hiN:i=n:=oM;rw[hiN]at hall hR;repeat refine wp_seq ?_
  refine M20.U [.x (.bool false)] [6,17] ⟨RG.aK rfl .lss 3 3 16 15 (iZ i) (iZ n) (.bool false) rfl rfl RG.sx RG.sx (λw=>kR) (lD hi),trivial⟩ ?_;intro a21 w21 M21;repeat refine wp_seq ?_
  refine wp_cond_false M21.ev ?_;refine wp_exit ?_;dsimp only[Exit.then,Exit.inBlock];rw[if_pos rfl];repeat refine wp_seq ?_
  refine M21.U [.s (.s 0 n n),.s (.s 0 n n),.x (.bool true)] [4,5] ⟨RG.st,RG.st,RG.st,trivial⟩ ?_;intro a22 w22 M22;refine wp_ret ?_;refine bodyPost_ret (v:=_) (RG.gC 4 5 rfl _ (.bool true) (M22.at (s:=.s 0 n n)) M22.av) M22.sl.defers ?_;exact⟨_,rfl,SJ ⟨hall,_,C,M22.st.made (b:=0) rfl,hR,rfl⟩⟩
def prS(N:Nat)(a b:Nat->Nat):Nat->Nat
 | 0=>0
 | i+1=>sPl N (prS N a b i) (sTi N (b i) (a i))
theorem Hw(hN:0<N)(a b:Nat->Nat):∀i,prS N a b i<N
 | 0=>hN
 | _+1=>Ug _ hN
structure CbS(w W:World)(N k4 k5 i:Nat)(a b:Nat->Nat):Prop where
 bl:Below w.heap.size w W
 r4:Row W k4 [uZ 0,uZ 0,uZ 0,uZ 0]
 r5:Row W k5 (wn (prS N a b i))
theorem CbS.grow{w W W':World}{k4 k5 i:Nat}{a b:Nat->Nat}(h:CbS w W N k4 k5 i a b)(hb:Below W.heap.size W W'):CbS w W' N k4 k5 i a b:=
 ⟨h.bl.trans (hb.mono h.bl.size),h.r4.below hb,h.r5.below hb⟩
theorem CbS.drew{w W:World}{k4 k5 i:Nat}{a b:Nat->Nat}(h:CbS w W N k4 k5 i a b):CbS w W.drew N k4 k5 i a b:=⟨h.bl.drew,h.r4,h.r5⟩
theorem wn0:wn 0=[uZ 0,uZ 0,uZ 0,uZ 0]:=kR
theorem zD{W:World}{k K o:Nat}{vs us:List Value}(h:Row W k vs)(hne:k≠K):Row (W.setCells K o us) k vs:=kA h (by rw[RG.setCells_size];exact Se _) (RG.aS K us o W k hne)
theorem CbS.put{w W:World}{k4 k5 i:Nat}{a b:Nat->Nat}(h:CbS w W N k4 k5 i a b)(hk:w.heap.size<=k5)(hne:k4≠k5):CbS w (W.setCells k5 0 (wn (prS N a b (i+1)))) N k4 k5 (i+1) a b:=
 ⟨RG.below_setCells hk _ _ _ h.bl,zD h.r4 hne,h.r5.put rfl⟩
theorem OH(O:Ord N){Q:Nat->Prop}(n:Nat)(hn:n<=512)(a b:Nat->Nat)(ha:∀i,i<n->a i<N)(hb:∀i,i<n->b i<N)(va vb:Value)(w:World)(h1:SLq Q w va n a)(h2:SLq Q w vb n b):
 Calls prog 68 #[va,vb] w (rZ w λe w'=>e=nv (prS N a b n)):=by
 obtain⟨g1,o1,c1,rfl,-,-,hg1,hr1⟩:=h1;obtain⟨g2,o2,c2,rfl,-,-,hg2,hr2⟩:=h2;obtain⟨k4,hk4⟩:∃k,Hid (w.heap.size=k):=⟨_,rfl⟩
 obtain⟨w1,hw1⟩:∃w1,Hid ((w.alloc (.cells #[uZ 0,uZ 0,uZ 0,uZ 0] 43)).alloc (.cells #[uZ 0,uZ 0,uZ 0,uZ 0] 43)=w1):=⟨_,rfl⟩
 have K1:Hid (CbS w w1 N k4 (k4+1) 0 a b):=by
  rw[<-hw1.out,<-hk4.out];have hR:=aD (w.alloc (.cells #[uZ 0,uZ 0,uZ 0,uZ 0] 43)) [uZ 0,uZ 0,uZ 0,uZ 0] 43;rw[Sq]at hR;exact⟨(aB w _).alloc (by rw[Sq];omega) _,(aD w _ _).alloc _,by show Row _ _ (wn 0);rw[wn0];exact hR⟩
 have HF:Hid (Ord N/\(∀i,i<n->a i<N)/\(∀i,i<n->b i<N)/\(∀j,j<n->w.rangeAt g1 (o1+4*j) (wn (a j)))/\(∀j,j<n->w.rangeAt g2 (o2+4*j) (wn (b j)))/\g1<w.heap.size/\g2<w.heap.size/\w.heap.size<=k4):=⟨O,ha,hb,hr1,hr2,hg1,hg2,by rw[hk4.out];exact Se _⟩
 obtain⟨d,hd1,hd2⟩:=Sf.1 u40;have HD:Hid (prog.underlying 43=some d/\d.isRow=true):=⟨hd1,hd2⟩
 clear O ha hb hr1 hr2 hg1 hg2 hd1 hd2;go_enter Tryz.func68,Tryz.ntmps68;go_wp2;rw[hw1.out,hk4.out];clear hw1 hk4;go_loopg [10] n (λm s10 W=>∃i:Nat,i+m=n/\s10=iZ i/\Hid (CbS w W N k4 (k4+1) i a b))
 case atStart=>exact⟨0,oM,rfl,K1⟩
 case round =>
  clear K1;obtain⟨i,hik,rfl,KM⟩:=hrel;by_cases hi:i<n
  ·have hi':(i:Int)<(n:Int):=oM;have hi5:(i:Int)<=600:=oM;have HL:=Hid.mk' hi;have hix:=LZ g1 o1 n c1 i hi;have B0:Hid (wr.rangeAt g1 (o1+4*i) (wn (a i))):=RG.range_below (HF.2.2.2.1 i hi) KM.bl HF.2.2.2.2.2.1;obtain⟨k7,hk7⟩:∃k,Hid (wr.heap.size=k):=⟨_,rfl⟩
   obtain⟨W1,hW1⟩:∃W1,Hid (wr.alloc (.cells #[uZ 0,uZ 0,uZ 0,uZ 0] 43)=W1):=⟨_,rfl⟩
   obtain⟨W2,hW2⟩:∃W2,Hid (W1.setCells k7 0 (wn (a i))=W2):=⟨_,rfl⟩
   have F1:Hid (Row W1 k7 [uZ 0,uZ 0,uZ 0,uZ 0]/\Below wr.heap.size wr W1):=by rw[<-hW1.out,<-hk7.out];exact⟨aD wr _ _,aB wr _⟩
   have F2:Hid (Row W2 k7 (wn (a i))/\CbS w W2 N k4 (k4+1) i a b):=by
    rw[<-hW2.out];exact⟨F1.1.put rfl,KM.grow (RG.below_setCells (by rw[hk7.out];exact Se _) _ _ _ F1.2)⟩
   obtain⟨va,hva⟩:∃v,Hid (SX (wn (a i)).toArray=v):=⟨_,rfl⟩
   have HO:Hid ((wn (a i)).toArray.all (·.oneCell')=true):=dE _;clear KM;go_wp2_with (first|(refine wpList_load_mid rfl 43 _ rfl g1 (o1+4*i) ?_ (wn (a i)) d ?_ ?_ ?_ ?_ ?_;rfl;exact B0.out;exact HD.1;exact HD.2;exact i40;rw[hva.out])|(refine bG (v:=pZ k7) (w':=W1) rfl (.alloc 43) rfl ?_ ?_;(rw[<-hW1.out,<-hk7.out];kernel_rfl))|(refine wpList_store_mid rfl 43 _ _ rfl k7 0 (wn (a i)).toArray ?_ ?_ ?_ ?_ ?_ ?_;rfl;exact hva.symm;exact F1.1.2.2;exact i40;exact HO.out;rw[show(wn (a i)).toArray.toList=wn (a i) from rfl,hW2.out])|fail)
   clear hW1 hW2 hk7 F1 HO;obtain⟨s,hse⟩:∃s,Hid (prS N a b i=s):=⟨_,rfl⟩
   have HN:Hid (s<N/\a i<N/\b i<N):=⟨by rw[<-hse.out];exact Hw HF.1.pos a b i,HF.2.1 i hi,HF.2.2.1 i hi⟩
   obtain⟨p,hpe⟩:∃p,Hid (sTi N (b i) (a i)=p):=⟨_,rfl⟩
   obtain⟨q,hqe⟩:∃q,Hid (sPl N s p=q):=⟨_,rfl⟩
   have HP:Hid (p<N):=by show p<N;rw[<-hpe.out];exact Ug _ HF.1.pos
   have HQ:Hid (prS N a b (i+1)=q):=by show _=_;rw[<-hqe.out,<-hpe.out,<-hse.out];rfl
   have hT:=λW=>Cf HF.1 (b i) (a i) HN.2.2 HN.2.1 W
   have hPl:=λW=>GW HF.1 s p HN.1 HP.out W
   rw[hpe.out]at hT;rw[hqe.out]at hPl;have hR2:∀W,Below w.heap.size w W->W.rangeAt g2 (o2+4*i) (wn (b i)):=λW hB=>RG.range_below (HF.2.2.2.2.1 i hi) hB HF.2.2.2.2.2.2.1
   have r5s:∀W,CbS w W N k4 (k4+1) i a b->W.rangeAt (k4+1) 0 (wn s):=λW h=>by rw[<-hse.out];exact h.r5.2.1
   refine(RG.gwL [RG.pE (nv s),RG.pE (.iface 43 (nv s)),RG.pE (.slice (some ⟨g2,o2,none⟩) n c2),RG.pE (iZ i),RG.pE (.pointer (some ⟨g2,o2+4*i,none⟩)),RG.pE (nv (b i)),RG.pE (.iface 43 (nv (b i))),RG.pE (nv (a i)),RG.pE (nv p),RG.pE (nv q)] (λW=>CbS w W N k4 (k4+1) i a b/\Row W k7 (wn (a i))) (λW W' hb h=>⟨h.1.grow hb,h.2.below hb⟩)).last 10 kR kR kR ⟨
    RG.lN 43 5 (k4+1) 0 (wn s) u40 i40 rfl (λW hB=>r5s W hB.1) (λ_=>rfl),
    RG.vO 0 15 (nv s) (.iface 43 (nv s)) (λx W h=>h) (λ_=>rfl),
    RG.gO 1 (.slice (some ⟨g2,o2,none⟩) n c2),
    RG.gO 6 (iZ i),
    RG.FG 2 17 3 18 (.slice (some ⟨g2,o2,none⟩) n c2) (iZ i) (.pointer (some ⟨g2,o2+4*i,none⟩)) (To 78 (.slice (some ⟨g2,o2,none⟩) n c2) (iZ i)) (LZ g2 o2 n c2 i HL.out) (λx W h=>h) (λx W h=>h) (λ_=>rfl),
    RG.gLr 4 19 (λW hB=>hR2 W hB.1.bl) u40 i40,
    RG.vO 5 20 (nv (b i)) (.iface 43 (nv (b i))) (λx W h=>h) (λ_=>rfl),
    RG.lN 43 7 k7 0 (wn (a i)) u40 i40 rfl (λW hB=>hB.2.2.1) (λ_=>rfl),
    RG.vP 43 6 21 7 22 (RG.pE (nv (b i))) 27 (λx W h=>⟨_,h,rfl⟩) (λx y W hx hy hB=>by
     obtain rfl:x=nv (b i):=hx;obtain rfl:y=nv (a i):=hy;refine(hT W).mono ?_;rintro e W' ⟨u,rfl,hb,rfl⟩;exact⟨_,rfl,hb,rfl⟩),
    RG.vP 43 1 16 8 23 (RG.pE (nv s)) 114 (λx W h=>⟨_,h,rfl⟩) (λx y W hx hy hB=>by
     obtain rfl:x=nv s:=hx;obtain rfl:y=nv p:=hy;refine(hPl W).mono ?_;rintro e W' ⟨u,rfl,hb,rfl⟩;exact⟨_,rfl,hb,rfl⟩),trivial⟩ ⟨F2.2.drew,F2.1⟩ ?_
   intro V W3 hR3 hB3;have hV9:V 9=nv q:=hR3 9 dC;obtain⟨W4,hW4⟩:∃W4,Hid (W3.setCells (k4+1) 0 (wn q)=W4):=⟨_,rfl⟩
   have K4:Hid (CbS w W4 N k4 (k4+1) (i+1) a b):=by
    have h:=hB3.1.put (by have:=HF.2.2.2.2.2.2.2;omega) oM;rw[HQ.out,hW4.out]at h;exact h
   have HT:Hid (W3.there (k4+1) 0 4):=hB3.1.r5.2.2;dsimp only[RG.dJ,TG,UY,U0];simp only[Tt,Sw,SN,SQ];obtain⟨vq,hvq⟩:∃v,Hid (nv q=v):=⟨_,rfl⟩
   rw[hV9,hvq.out];clear hR3 hB3 hV9 F2 hT hPl hR2 r5s;generalize V 0=s0;generalize V 1=s1;generalize V 2=s2;generalize V 3=s3;generalize V 4=s4;generalize V 5=s5;generalize V 6=s6;generalize V 7=s7;generalize V 8=s8;go_wp2_with (first|(refine wpList_store_mid rfl 43 _ _ rfl (k4+1) 0 (wn q).toArray ?_ ?_ ?_ ?_ ?_ ?_;rfl;exact hvq.symm;exact HT.out;exact i40;exact dE q;rw[show(wn q).toArray.toList=wn q from rfl,hW4.out])|fail)
   go_roundg (gk-1)
   case measure=>omega
   case rel=>exact⟨i+1,oM,rfl,K4⟩
  ·have hi':¬(i:Int)<(n:Int):=oM;obtain rfl:i=n:=oM;obtain⟨q,hqe⟩:∃q,Hid (prS N a b i=q):=⟨_,rfl⟩
   obtain⟨W4,hW4⟩:∃W4,Hid (wr.setCells k4 0 (wn q)=W4):=⟨_,rfl⟩
   have R5:Hid (wr.rangeAt (k4+1) 0 (wn q)/\wr.there k4 0 4):=⟨by rw[<-hqe.out];exact KM.r5.2.1,KM.r4.2.2⟩
   have K4:Hid (Below w.heap.size w W4/\Row W4 k4 (wn q)):=by
    rw[<-hW4.out];exact⟨RG.below_setCells HF.2.2.2.2.2.2.2 _ _ _ KM.bl,KM.r4.put rfl⟩
   obtain⟨vq,hvq⟩:∃v,Hid (nv q=v):=⟨_,rfl⟩
   clear KM;go_wp2_with (first|(refine wpList_load_mid rfl 43 _ rfl (k4+1) 0 ?_ (wn q) d ?_ ?_ ?_ ?_ ?_;rfl;exact R5.1;exact HD.1;exact HD.2;exact i40;rw[show SX (wn q).toArray=vq from hvq.out])|(refine wpList_store_mid rfl 43 _ _ rfl k4 0 (wn q).toArray ?_ ?_ ?_ ?_ ?_ ?_;rfl;exact hvq.symm;exact R5.2;exact i40;exact dE q;rw[show(wn q).toArray.toList=wn q from rfl,hW4.out])|fail)
   refine bodyPost_ret (aP 4 43 rfl K4.2 rfl u40 i40) rfl ?_;exact⟨_,rfl,K4.1,by rw[hqe.out];rfl⟩
theorem Gx:(prog.underlying 57).map (·.isRow)=some false:=kR
structure CbM(w W:World)(v:Value)(l:List (Nat × Bs)):Prop where
 bl:Below w.heap.size w W
 sm:SmZ w.heap.size W v l
theorem CbM.grow{w W W':World}{v:Value}{l:List (Nat × Bs)}(h:CbM w W v l)(hb:Below W.heap.size W W'):CbM w W' v l:=⟨h.bl.trans (hb.mono h.bl.size),h.sm.grow hb⟩
theorem CbM.drew{w W:World}{v:Value}{l:List (Nat × Bs)}(h:CbM w W v l):CbM w W.drew v l:=⟨h.bl.drew,h.sm.grow ⟨rfl,rfl,rfl,Se _,λ_ _=>rfl⟩⟩
theorem GM{B:Nat}{W:World}{v:Value}{l:List (Nat × Bs)}(h:SmZ B W v l):SmZ 0 W v l:=by
 rcases h with h|⟨g,c,h1,h2,-,h3⟩
 ·exact SY h
 ·exact SJ ⟨g,c,h1,h2,Us _,h3⟩
theorem I4(O:Ord N){Q:Nat->Prop}(n c:Nat)(hn0:0<n)(hc0:0<c)(hn:n<=512)(hcn:c*n<=400)(a:Nat->Nat)(T:Nat->List (Nat × Bs))(ha:∀i,i<n->a i<N)(hT:∀i,i<n->TOk N (T i))(hl:∀i,i<n->(T i).length=c)(va vb:Value)(w:World)(h1:SLq Q w va n a)(h2:GLq Q w vb n T):
 Calls prog 112 #[va,vb] w (rZ w λe w'=>Sm w.heap.size w' e (eJ N a T n)):=by
 obtain⟨g1,o1,c1,rfl,-,-,hg1,hr1⟩:=h1;obtain⟨g2,o2,c2,rfl,-,-,hg2,hr2⟩:=h2;have K1:Hid (CbM w w (.slice none 0 0) (eJ N a T 0)):=⟨SE _ _,SY ⟨rfl,rfl⟩⟩
 have HF:Hid (Ord N/\(∀i,i<n->a i<N)/\(∀i,i<n->TOk N (T i))/\(∀i,i<n->(T i).length=c)/\(∀j,j<n->w.rangeAt g1 (o1+4*j) (wn (a j)))/\(∀j,j<n->∃x,w.cell? ⟨g2,o2+j,none⟩=some x/\SmQ Q w x (T j))/\g1<w.heap.size/\g2<w.heap.size/\0<c/\c*n<=400/\0<n):=⟨O,ha,hT,hl,hr1,hr2,hg1,hg2,hc0,hcn,hn0⟩
 obtain⟨d,hd1,hd2⟩:=Sf.1 u40;have HD:Hid (prog.underlying 43=some d/\d.isRow=true):=⟨hd1,hd2⟩
 go_enter Tryz.func112,Tryz.ntmps112;go_wp2;go_loopg [5,10] n (λm s5 s10 W=>∃i:Nat,i+m=n/\s10=iZ i/\Hid (CbM w W s5 (eJ N a T i)))
 case atStart=>exact⟨0,oM,rfl,K1⟩
 case round =>
  obtain⟨i,hik,rfl,KM⟩:=hrel;by_cases hi:i<n
  ·have hi':(i:Int)<(n:Int):=oM;have HL:=Hid.mk' hi;have hix:=LZ g1 o1 n c1 i hi;have B0:=mk1 (RG.range_below (HF.2.2.2.2.1 i hi) KM.bl HF.2.2.2.2.2.2.1);obtain⟨k7,hk7⟩:=hE (wr.heap.size);obtain⟨W1,hW1⟩:=hE (wr.alloc (.cells #[uZ 0,uZ 0,uZ 0,uZ 0] 43));obtain⟨W2,hW2⟩:=hE (W1.setCells k7 0 (wn (a i)));have F1:Hid (Row W1 k7 [uZ 0,uZ 0,uZ 0,uZ 0]/\Below wr.heap.size wr W1):=by rw[<-hW1.out,<-hk7.out];exact⟨aD wr _ _,aB wr _⟩
   have F2:Hid (Row W2 k7 (wn (a i))/\CbM w W2 u5 (eJ N a T i)):=by
    rw[<-hW2.out];exact⟨F1.1.put rfl,KM.grow (RG.below_setCells (by rw[hk7.out];exact Se _) _ _ _ F1.2)⟩
   obtain⟨va,hva⟩:=hE (SX (wn (a i)).toArray);have HO:Hid ((wn (a i)).toArray.all (·.oneCell')=true):=dE _;go_wp2_with (first|(refine wpList_load_mid rfl 43 _ rfl g1 (o1+4*i) ?_ (wn (a i)) d ?_ ?_ ?_ ?_ ?_;rfl;exact B0.out;exact HD.1;exact HD.2;exact i40;rw[hva.out])|(refine bG (v:=pZ k7) (w':=W1) rfl (.alloc 43) rfl ?_ ?_;(rw[<-hW1.out,<-hk7.out];kernel_rfl))|(refine wpList_store_mid rfl 43 _ _ rfl k7 0 (wn (a i)).toArray ?_ ?_ ?_ ?_ ?_ ?_;rfl;exact hva.symm;exact F1.1.2.2;exact i40;exact HO.out;rw[show(wn (a i)).toArray.toList=wn (a i) from rfl,hW2.out])|fail)
   obtain⟨x,hxc,hxs⟩:=HF.2.2.2.2.2.1 i hi;have HX:=mk2 hxc hxs;obtain⟨l,hle⟩:=hE (eJ N a T i);have hle1:eJ N a T (i+1)=l++(T i).map (tmT N (a i)):=by rw[<-hle.out];rfl
   have hlen:l.length=c*i:=by rw[<-hle.out];exact eS N a i λj hj=>HF.2.2.2.1 j oM
   have hcm:c*i+c<=c*n:=by have:=Nat.mul_le_mul_left c (Nat.succ_le_of_lt hi);rwa[V0]at this
   have HB:Hid (l.length<=500/\(T i).length<=500/\0<(T i).length/\TOk N l):=⟨by have:=HF.2.2.2.2.2.2.2.2.2.1;omega,by rw[HF.2.2.2.1 i hi];have:=HF.2.2.2.2.2.2.2.2.2.1;omega,by rw[HF.2.2.2.1 i hi];exact HF.2.2.2.2.2.2.2.2.1,by rw[<-hle.out];exact nC HF.1.pos i λj hj=>HF.2.2.1 j oM⟩
   have HE:Hid (eJ N a T (i+1)=l++(T i).map (tmT N (a i))):=hle1;rw[hle.out]at F2;refine(RG.gwL [RG.pE u5,RG.pE (.iface 57 u5),RG.pE (.slice (some ⟨g2,o2,none⟩) n c2),RG.pE (iZ i),RG.pE (.pointer (some ⟨g2,o2+1*i,none⟩)),RG.pE x,RG.pE (.iface 57 x),RG.pE (nv (a i)),RG.pM (w.heap.size<=·) ((T i).map (tmT N (a i))),RG.pM (w.heap.size<=·) (l++(T i).map (tmT N (a i))),RG.pM (w.heap.size<=·) (l++(T i).map (tmT N (a i)))] (λW=>CbM w W u5 l/\Row W k7 (wn (a i))) (λW W' hb h=>⟨h.1.grow hb,h.2.below hb⟩)).draws kR kR ⟨
    RG.gO 5 u5,
    RG.vO 0 15 u5 (.iface 57 u5) (λx W h=>h) (λ_=>rfl),
    RG.gO 1 (.slice (some ⟨g2,o2,none⟩) n c2),
    RG.gO 6 (iZ i),
    RG.FG 2 17 3 18 (.slice (some ⟨g2,o2,none⟩) n c2) (iZ i) (.pointer (some ⟨g2,o2+1*i,none⟩)) (To 55 (.slice (some ⟨g2,o2,none⟩) n c2) (iZ i)) (atS g2 o2 n c2 i HL.out) (λx W h=>h) (λx W h=>h) (λ_=>rfl),
    RG.iU 57 4 19 g2 (o2+1*i) x Gx (λx W h=>h) (λW hB=>by rw[UL,hB.1.bl.cell (p:=⟨g2,o2+i,none⟩) HF.2.2.2.2.2.2.2.1];exact HX.1) (λ_=>rfl),
    RG.vO 5 20 x (.iface 57 x) (λx W h=>h) (λ_=>rfl),
    RG.lN 43 7 k7 0 (wn (a i)) u40 i40 rfl (λW hB=>hB.2.2.1) (λ_=>rfl),
    RG.vP 57 6 21 7 22 (RG.pE x) 67 (λx W h=>⟨_,h,rfl⟩) (λz y W hx hy hB=>by
     obtain rfl:z=x:=hx;obtain rfl:y=nv (a i):=hy;refine(iP HF.1 (HF.2.1 i HL.out) 0 z (T i) (by have:=HB.2.1;omega) (HF.2.2.1 i HL.out).szm (HF.2.2.1 i HL.out).lt W (HX.2.sm.grow hB.1.bl)).mono ?_;rintro e W' ⟨u,rfl,hb,hs⟩;exact⟨_,rfl,hb,hs.q.mono λg hg=>SD hB.1.bl.size hg⟩),
    RG.vP 57 1 16 8 23 (RG.pE u5) 28 (λx W h=>⟨_,h,rfl⟩) (λz y W hx hy hB=>by
     obtain rfl:z=u5:=hx;have hy:=hy;refine(kO 0 z y l ((T i).map (tmT N (a i))) (by rw[Su,SO];have:=HB.2.2.1;omega) HB.1 (by rw[SO];exact HB.2.1) HB.2.2.2.sz ((HF.2.2.1 i HL.out).tm HF.1.pos (a i)).sz W (GM hB.1.sm) (SJ hy.sm)).mono ?_;rintro e W' ⟨u,rfl,hb,hs⟩;exact⟨_,rfl,hb,hs.q.mono λg hg=>SD hB.1.bl.size hg⟩),
    RG.FH 9 24 id (λx W h=>h),trivial⟩ ⟨F2.2.drew,F2.1⟩ ?_
   intro V W3 hR3 hB3;have K4:Hid (CbM w W3 (V 10) (eJ N a T (i+1))):=⟨hB3.1.bl,SJ (by rw[HE.out];exact hR3 10 (UX (TY kR)))⟩
   dsimp only[RG.dJ,TG];go_wp2;go_roundg (gk-1)
   case measure=>omega
   case rel=>exact⟨i+1,oM,rfl,K4⟩
  ·have hi':¬(i:Int)<(n:Int):=oM;obtain rfl:i=n:=oM;have K4:Hid (Below w.heap.size w wr/\Sm w.heap.size wr u5 (eJ N a T i)):=⟨KM.bl,by
    rcases KM.sm with⟨-,h⟩|h
    ·exfalso;have:=eS N a i HF.2.2.2.1;rw[h]at this;have h2:=Nat.mul_pos HF.2.2.2.2.2.2.2.2.1 HF.2.2.2.2.2.2.2.2.2.2;rw[<-this]at h2;exact absurd h2 (Nat.lt_irrefl _)
    ·exact h⟩
   go_wp2;go_ret;exact⟨_,rfl,K4.1,K4.2⟩
theorem rSc:(prog.underlying 43).map (·.isRow)=some true:=u40
theorem nSc:(prog.info? 43).map (·.size)=some 4:=i40
theorem QE(a b:Nat)(h:a+b<4611686018427387904)(w:World):(binOp .add 3 (iZ a) (iZ b)).run prog w=.ok (iZ ((a+b:Nat):Int)) w:=by
 have h1:(a:Int)+(b:Int)<4611686018427387904:=oM;have h2:-4611686018427387904<(a:Int)+(b:Int):=oM;have h3:TA.wrap ((a:Int)+(b:Int))=((a+b:Nat):Int):=by rw[Ym];omega
 go_simp
theorem RU(w:World)(x y:Nat):∃w2,Hid ((w.alloc (.cells (wn x).toArray 43)).alloc (.cells (wn y).toArray 43)=w2)/\Below w.heap.size w w2/\Row w2 w.heap.size (wn x)/\Row w2 (w.heap.size+1) (wn y)/\w2.heap.size=w.heap.size+2:=by
 have hR:=aD (w.alloc (.cells (wn x).toArray 43)) (wn y) 43;rw[Sq]at hR;exact⟨_,Hid.mk' rfl,(aB w _).alloc (by rw[Sq];omega) _,(aD w _ _).alloc _,hR,by rw[Sq,Sq]⟩
structure FdM(w W:World)(K k4 k5 n i x y:Nat)(f:Nat->List (Nat × Bs)):Prop where
 ls:LsI w W K n i f
 r4:Row W k4 (wn x)
 r5:Row W k5 (wn y)
theorem FdM.grow{w W W':World}{K k4 k5 n i x y:Nat}{f:Nat->List (Nat × Bs)}(h:FdM w W K k4 k5 n i x y f)(hb:Below W.heap.size W W'):FdM w W' K k4 k5 n i x y f:=⟨h.ls.grow hb,h.r4.below hb,h.r5.below hb⟩
theorem FdM.drew{w W:World}{K k4 k5 n i x y:Nat}{f:Nat->List (Nat × Bs)}(h:FdM w W K k4 k5 n i x y f):FdM w W.drew K k4 k5 n i x y f:=h.grow ⟨rfl,rfl,rfl,Se _,λ_ _=>rfl⟩
theorem FdM.put{w W:World}{K k4 k5 n i x y:Nat}{f:Nat->List (Nat × Bs)}{v:Value}(h:FdM w W K k4 k5 n i x y f)(hi:i<n)(h4:k4≠K)(h5:k5≠K)(hv:SmQ (λg=>w.heap.size<=g/\g≠K) W v (f i)):FdM w (W.setCells K i [v]) K k4 k5 n (i+1) x y f:=
 ⟨h.ls.put hi hv,zD h.r4 h4,zD h.r5 h5⟩
theorem IL(O:Ord N){Q:Nat->Prop}(n:Nat)(hn:n<=500)(c:Nat)(hc:c<=200)(hc0:0<c)(a:Nat->List (Nat × Bs))(x y:Nat)(hx:x<N)(hy:y<N)(ha:∀i,i<n+n->TOk N (a i)/\(a i).length=c)(va:Value)(w:World)(h1:GLq Q w va (n+n) a):
 Calls prog 65 #[va,nv x,nv y] w (rZ w λe w'=>GLq (w.heap.size<=·) w' e n (qE N x y n a)):=by
 obtain⟨g1,o1,c1,rfl,-,-,hg1,hr1⟩:=h1;obtain⟨m,hm⟩:=hE (n+n);have hq:(m:Int).tdiv 2=(n:Int):=by rw[<-hm.out,Int.tdiv_eq_ediv_of_nonneg oM];omega
 obtain⟨w2,hw2,hb2,hR4,hR5,hs2⟩:=RU w x y;obtain⟨C0,hC0,hmk⟩:=Mp uSu iSu n oM;have hmk':=hmk w2;obtain⟨K,hK⟩:=hE (w2.heap.size);obtain⟨w3,hw3⟩:=hE (w2.alloc (.cells C0.toArray 57));have A0:Ar w2 w3 K 1 n 0 (λ_=>[]):=Ar.new _ hC0 hw3.out hK.out;rw[hw3.out,hK.out]at hmk';obtain⟨k4,hk4⟩:=hE (w.heap.size);rw[hk4.out]at hR4 hR5 hs2;have HK:Hid (K=k4+2/\w.heap.size<=k4):=⟨by rw[<-hK.out,hs2],by rw[hk4.out];exact Se _⟩
 have K1:Hid (FdM w w3 K k4 (k4+1) n 0 x y (qE N x y n a)):=⟨⟨hb2.trans (A0.bl.mono hb2.size),A0.lt,by have:=A0.th;rwa[UL]at this,by have:=HK.out;omega,λj hj=>absurd hj (UI _)⟩,hR4.below A0.bl,hR5.below A0.bl⟩
 have HF:=mk8 O hx hy ha hr1 hg1 hc hc0;obtain⟨vx,hvx⟩:=hE (nv x);obtain⟨vy,hvy⟩:=hE (nv y);obtain⟨w1,hw1⟩:=hE (w.alloc (.cells (wn x).toArray 43));have B1:Hid ((TF 43 vx).run prog w=.ok (pZ k4) w1):=by rw[<-hvx.out,<-hw1.out,<-hk4.out];exact boxS x w
 have B2:Hid ((TF 43 vy).run prog w1=.ok (.pointer (some ⟨k4+1,0,none⟩)) w2):=by
  have h:=boxS y w1;rw[show w1.heap.size=k4+1 by rw[<-hw1.out,Sq,hk4.out]]at h;have e:w1.alloc (.cells (wn y).toArray 43)=w2:=by rw[<-hw1.out];exact hw2.out
  rw[e]at h;rw[<-hvy.out];exact h
 rw[hvx.out,hvy.out,hm.out];clear O hx hy ha hr1 hg1 hc hc0 hb2 hR4 hR5 hs2 A0 hC0 hmk hK hw3 hk4 hw2;go_enter Tryz.func65,Tryz.ntmps65;go_wp2_with (first|(refine aI (u:=vx) (v:=pZ k4) (w':=w1) rfl 43 (.tmp 1) rfl ?_ ?_ ?_;rfl;exact B1.out)|(refine aI (u:=vy) (v:=.pointer (some ⟨k4+1,0,none⟩)) (w':=w2) rfl 43 (.tmp 2) rfl ?_ ?_ ?_;rfl;exact B2.out)|fail)
 go_loopg [15] n (λm s15 W=>∃i:Nat,i+m=n/\s15=iZ i/\Hid (FdM w W K k4 (k4+1) n i x y (qE N x y n a)))
 case atStart=>exact⟨0,oM,rfl,K1⟩
 case round =>
  obtain⟨i,hik,rfl,KM⟩:=hrel;by_cases hi:i<n
  ·have hi':(i:Int)<(n:Int):=oM;have HL:=Hid.mk' hi;have KP:=KM;go_wp2_with fail
   obtain⟨x1,hx1,hs1⟩:=HF.2.2.2.2.1 i oM;obtain⟨x2,hx2,hs2⟩:=HF.2.2.2.2.1 (n+i) oM;have HX:=mk4 hx1 hs1 hx2 hs2;have HA:=mk2 (HF.2.2.2.1 i oM) (HF.2.2.2.1 (n+i) oM);have HZ:=mk1 (HF.2.2.2.2.2.2);obtain⟨l1,hl1⟩:=hE ((a i).map (tmT N x));obtain⟨l2,hl2⟩:=hE ((a (n+i)).map (tmT N y));have HQ:Hid (qE N x y n a i=l1++l2):=by show _=_;rw[<-hl1.out,<-hl2.out];rfl
   have HY:Hid (l1.length=c/\l2.length=c/\TOk N l1/\TOk N l2):=⟨by rw[<-hl1.out,SO];exact HA.1.2,by rw[<-hl2.out,SO];exact HA.2.2,by rw[<-hl1.out];exact HA.1.1.tm HF.1.pos x,by rw[<-hl2.out];exact HA.2.1.tm HF.1.pos y⟩
   have hT1:=λ(W:World) (hB:Below w.heap.size w W)=>iP HF.1 HF.2.1 0 x1 (a i) (by rw[HA.1.2];have:=HZ.out;omega) HA.1.1.szm HA.1.1.lt W (HX.2.1.sm.grow hB)
   have hT2:=λ(W:World) (hB:Below w.heap.size w W)=>iP HF.1 HF.2.2.1 0 x2 (a (n+i)) (by rw[HA.2.2];have:=HZ.out;omega) HA.2.1.szm HA.2.1.lt W (HX.2.2.2.sm.grow hB)
   have hPl:=λ(W:World) (u v:Value) (hu:Sm 0 W u l1) (hv:Sm 0 W v l2)=>kO 0 u v l1 l2 (by rw[Su];have:=HY.1;have:=HZ.out;omega) (by have:=HY.1;have:=HZ.out;omega) (by have:=HY.2.1;have:=HZ.out;omega) HY.2.2.1.sz HY.2.2.2.sz W (SJ hu) (SJ hv)
   rw[hl1.out]at hT1;rw[hl2.out]at hT2;have hR1:∀W,Below w.heap.size w W->W.cell? ⟨g1,o1+1*i,none⟩=some x1:=λW hB=>by rw[UL,hB.cell (p:=⟨g1,o1+i,none⟩) HF.2.2.2.2.2.1];exact HX.1
   have hR2:∀W,Below w.heap.size w W->W.cell? ⟨g1,o1+1*(n+i),none⟩=some x2:=λW hB=>by rw[UL,hB.cell (p:=⟨g1,o1+(n+i),none⟩) HF.2.2.2.2.2.1];exact HX.2.2.1
   have him:i<m:=by rw[<-hm.out];omega
   have him2:n+i<m:=by rw[<-hm.out];omega
   refine(RG.gwL [RG.pE (.slice (some (aZ K)) n n),RG.pE (iZ i),RG.pE (.slice (some ⟨g1,o1,none⟩) m c1),RG.pE (iZ i),RG.pE (.pointer (some ⟨g1,o1+1*i,none⟩)),RG.pE x1,RG.pE (.iface 57 x1),RG.pE (nv x),RG.pM (λg=>w.heap.size<=g/\g≠K) l1,RG.pI 57 (RG.pM (λg=>w.heap.size<=g/\g≠K) l1),RG.pE (.slice (some ⟨g1,o1,none⟩) m c1),RG.pE (.slice (some (aZ K)) n n),RG.pE (iZ n),RG.pE (iZ i),RG.pE (iZ ((n+i:Nat):Int)),RG.pE (.pointer (some ⟨g1,o1+1*(n+i),none⟩)),RG.pE x2,RG.pE (.iface 57 x2),RG.pE (nv y),RG.pM (λg=>w.heap.size<=g/\g≠K) l2,RG.pM (λg=>w.heap.size<=g/\g≠K) (l1++l2),RG.pE (.pointer (some ⟨K,0+1*i,none⟩))] (λW=>FdM w W K k4 (k4+1) n i x y (qE N x y n a)) (λW W' hb h=>h.grow hb)).last 22 kR kR kR ⟨
    RG.gO 7 (.slice (some (aZ K)) n n),
    RG.gO 8 (iZ i),
    RG.gO 0 (.slice (some ⟨g1,o1,none⟩) m c1),
    RG.gO 8 (iZ i),
    RG.FG 2 20 3 21 (.slice (some ⟨g1,o1,none⟩) m c1) (iZ i) (.pointer (some ⟨g1,o1+1*i,none⟩)) (To 55 (.slice (some ⟨g1,o1,none⟩) m c1) (iZ i)) (atS g1 o1 m c1 i him) (λx W h=>h) (λx W h=>h) (λ_=>rfl),
    RG.iU 57 4 22 g1 (o1+1*i) x1 Gx (λx W h=>h) (λW hB=>hR1 W hB.ls.bl) (λ_=>rfl),
    RG.vO 5 23 x1 (.iface 57 x1) (λx W h=>h) (λ_=>rfl),
    RG.lN 43 4 k4 0 (wn x) rSc nSc rfl (λW hB=>hB.r4.2.1) (λ_=>rfl),
    RG.vP 57 6 24 7 25 (RG.pE x1) 67 (λx W h=>⟨_,h,rfl⟩) (λz u W hx hy hB=>by
     obtain rfl:z=x1:=hx;obtain rfl:u=nv x:=hy;refine(hT1 W hB.ls.bl).mono ?_;rintro e W' ⟨u,rfl,hb,hs⟩;exact⟨_,rfl,hb,hs.q.mono λg hg=>⟨SD hB.ls.bl.size hg,by have:=hB.ls.lt;omega⟩⟩),
    RG.FH 8 26 (λv=>.iface 57 v) (λx W h=>⟨x,rfl,h⟩),
    RG.gO 0 (.slice (some ⟨g1,o1,none⟩) m c1),
    RG.gO 7 (.slice (some (aZ K)) n n),
    RG.vO 11 29 (.slice (some (aZ K)) n n) (iZ n) (λx W h=>h) (λ_=>rfl),
    RG.gO 8 (iZ i),
    RG.Ou .add 3 3 30 31 rfl (λa W hp=>⟨_,_,iZ ((n+i:Nat):Int),hp.n 12 30 kR kR,hp.n 13 31 kR kR,kR,QE n i oM W,rfl⟩),
    RG.FG 10 28 14 32 (.slice (some ⟨g1,o1,none⟩) m c1) (iZ ((n+i:Nat):Int)) (.pointer (some ⟨g1,o1+1*(n+i),none⟩)) (To 55 (.slice (some ⟨g1,o1,none⟩) m c1) (iZ ((n+i:Nat):Int))) (atS g1 o1 m c1 (n+i) him2) (λx W h=>h) (λx W h=>h) (λ_=>rfl),
    RG.iU 57 15 33 g1 (o1+1*(n+i)) x2 Gx (λx W h=>h) (λW hB=>hR2 W hB.ls.bl) (λ_=>rfl),
    RG.vO 16 34 x2 (.iface 57 x2) (λx W h=>h) (λ_=>rfl),
    RG.lN 43 5 (k4+1) 0 (wn y) rSc nSc rfl (λW hB=>hB.r5.2.1) (λ_=>rfl),
    RG.vP 57 17 35 18 36 (RG.pE x2) 67 (λx W h=>⟨_,h,rfl⟩) (λz u W hx hy hB=>by
     obtain rfl:z=x2:=hx;obtain rfl:u=nv y:=hy;refine(hT2 W hB.ls.bl).mono ?_;rintro e W' ⟨u,rfl,hb,hs⟩;exact⟨_,rfl,hb,hs.q.mono λg hg=>⟨SD hB.ls.bl.size hg,by have:=hB.ls.lt;omega⟩⟩),
    RG.vP 57 9 27 19 37 (RG.pM (λg=>w.heap.size<=g/\g≠K) l1) 28 (λx W h=>h) (λz u W hx hy hB=>by
     have hx:=hx;have hy:=hy;refine(hPl W z u hx.sm hy.sm).mono ?_;rintro e W' ⟨u,rfl,hb,hs⟩;exact⟨_,rfl,hb,hs.q.mono λg hg=>⟨SD hB.ls.bl.size hg,by have:=hB.ls.lt;omega⟩⟩),
    RG.FG 0 18 1 19 (.slice (some (aZ K)) n n) (iZ i) (.pointer (some ⟨K,0+1*i,none⟩)) (To 55 (.slice (some (aZ K)) n n) (iZ i)) (atS K 0 n n i HL.out) (λx W h=>h) (λx W h=>h) (λ_=>rfl),trivial⟩ KP.drew ?_
   intro V W3 hR3 hB3;have hS:=hR3 20 dC;have hV21:=hR3 21 dC;dsimp only[RG.dJ,TG,UY,U0];simp only[Tt,Sw,SN,SQ];generalize V 20=vq at hS⊢;obtain⟨W4,hW4⟩:=hE (W3.setCells K i [vq]);have K4:Hid (FdM w W4 K k4 (k4+1) n (i+1) x y (qE N x y n a)):=by
    have h:=hB3.put (v:=vq) hi (by have:=HK.out;omega) (by have:=HK.out;omega) (by rw[HQ.out];exact hS);rw[hW4.out]at h;exact h
   have HT:Hid (W3.there K i 1):=λt ht=>by
    have ht0:t=0:=oM;subst ht0;have:=hB3.ls.th i hi;rwa[Sj]at this
   have HE:=Hid.mk' hS.one;rw[hV21,Sj,UL];go_wp2_with (first|(refine t6 rfl 57 _ _ rfl K i vq ?_ ?_ HE.1 HE.2 HT.out P5 ?_;rfl;rfl;rw[hW4.out])|fail)
   go_roundg (gk-1)
   case measure=>omega
   case rel=>exact⟨i+1,oM,rfl,K4⟩
  ·have hi':¬(i:Int)<(n:Int):=oM;obtain rfl:i=n:=oM;have K4:=mk2 KM.ls.bl KM.ls.gl;go_wp2;go_ret;exact⟨_,rfl,K4.1,K4.2⟩
end
end Go.Proofs.YtnakcnljhmlikaaGreat
