import Derived.Lib.AppendZeros
import Derived.Deep.AppendSrc
import Derived.Test.YtfcnimopdjjhcaaGreatsb6
set_option linter.unusedVariables false
set_option linter.constructorNameAsVariable false
set_option linter.unusedSimpArgs false
set_option maxRecDepth 1000000
set_option maxHeartbeats 4000000
namespace Go.Proofs.YtfcnimopdjjhcaaGreat
open _root_.And renaming intro->Uy
open _root_.Array renaming all_eq_true'->Si,getD_eq_getD_getElem?->PZ,getElem?_eq_getElem->Qo,getElem?_eq_some_iff->Qg,getElem?_toList->QE,length_toList->P8,replicate_succ->VU,replicate_zero->VT,size_append->QF,toArray_toList->Sz
open _root_.Bool renaming and_eq_true->P3
open _root_.Classical renaming byContradiction->Rc
open _root_.Fin renaming ofNat->SA
open _root_.Go.Builtin renaming append_->QS,clear_->Uj,zeroCells->Q9
open _root_.Go.Code renaming region->Sq
open _root_.Go.Fence renaming wide->Wg
open _root_.Go.Instr renaming box->Ug,indexAt->QV,makeMap->Xn,makeSlice->Rm,sliceAt->Re
open _root_.Go.IntKind renaming i64->QA,wrap_i64->Tr
open _root_.Go.KeepsOthers renaming setCell->Vw
open _root_.Go.Lib renaming run_append_nil_zeros->VI,wpList_append_run->QC
open _root_.Go.Next renaming value->Ux
open _root_.Go.Op renaming equal->VX
open _root_.Go.Oper renaming semAt_some->Ut
open _root_.Go.RowKit.Below renaming refl->Qd
open _root_.Go.Sem renaming run_bind->Qi
open _root_.Go.Value renaming agg->QD,ownBlock->Uz,slice->SR
open _root_.Go.World renaming cell?->RU,cell?_of_block->Qt,frozen?->Ti,frozen?_of_block->Ro,ownsRow_made->We,ownsRow_nil->UU,rangeAt_setCells_apart->RV,rangeAt_setCells_same->TJ,size_alloc->Qa,there_setCells->TC
open _root_.Int renaming natCast_add->Xl,natCast_mul->RS,toNat_natCast->Uh
open _root_.List renaming append_nil->SB,append_toArray->Wc,cons_append->Vj,ext_getElem?->U9,filter_sublist->V9,finRange->Xq,flatMap_append->TP,flatMap_cons->U8,foldl_append->Ww,getElem?_append_left->QL,getElem?_eq_getElem->P6,getElem?_eq_some_iff->Qe,getElem?_map->QX,getElem?_of_mem->RZ,getElem?_range->TO,getElem?_take->RA,getElem_cons_succ->VN,getElem_mem->QI,length_append->PY,length_cons->Qw,length_filter_le->VR,length_map->Qb,length_nil->Tl,length_range->Sv,length_take->SL,map_append->RL,mem_append_left->UI,mem_append_right->UD,mem_cons->QU,mem_cons_of_mem->Qv,mem_cons_self->Qy,mem_filter->Us,mem_finRange->Wv,mem_flatMap->U7,mem_map->QZ,mem_of_mem_take->VV,mem_toArray->Tz,nil_append->WU,nodup_cons->TF,nodup_finRange->UH,pairwise_map->Wu,push_toArray->Wt,range->QJ,range_succ->TE,set_cons_succ->QH,size_toArray->QB,take_add_one->Ws,take_length->U6
open _root_.List.Pairwise renaming imp->Vu
open _root_.Nat renaming div_add_mod->UF,le_of_ble_eq_true->RQ,le_refl->PQ,le_trans->Qn,lt_of_lt_of_le->PS,lt_of_succ_le->SI,lt_or_ge->UB,lt_succ_self->Su,mod_lt->RN,mul_add->Sw,mul_comm->Qr,mul_le_mul->RJ,mul_le_mul_left->TS,mul_le_mul_right->SH,mul_one->Se,mul_succ->Tv,not_lt_zero->Uu,reduceAdd->SE,reduceSub->Xt,sub_zero->Ub,zero_add->PU,zero_le->SJ
open _root_.Option renaming isSome_iff_exists->Qx,map_eq_some_iff->PV,some->Qh
open _root_.Or renaming inl->Ql,inr->Qc
open _root_.Prod renaming mk->Rz
open _root_.UInt8 renaming ofNat->P9
open Go.Proofs.Tryz (prog)
namespace RG
open Go Go.RowKit
variable {P:Program}{ops:Array Oper}{Q:Exit->Act->World->Prop}{w:World}{a0:Act}
def AllE(a:Act):List (Tmp × Value)->Prop
 | []=>True
 | x :: r=>a.eval (.tmp x.1)=x.2/\AllE a r
def evl(ps:List (Tmp × Value))(t:Tmp):Value:=match ps.find? (fun x=>x.1 == t) with|some x=>x.2|none=>undef
theorem AllE.mem{a:Act}:∀ {ps:List (Tmp × Value)},AllE a ps->∀x∈ps,a.eval (.tmp x.1)=x.2
 | [],_,x,hx=>by cases hx
 | y :: r,h,x,hx=>by
  rcases QU.1 hx with rfl|hx
  ·exact h.1
  ·exact AllE.mem h.2 x hx
theorem AllE.ev{a:Act}{ps:List (Tmp × Value)}(h:AllE a ps):∀t∈ps.map (·.1),a.eval (.tmp t)=evl ps t:=fun t ht=>by
 obtain⟨x,hx,rfl⟩:=QZ.1 ht;unfold evl;cases hf:ps.find? (fun y=>y.1 == x.1) with
 | none =>
  have:=List.find?_eq_none.1 hf x hx;simp at this
 | some y =>
  have h1:=List.mem_of_find?_eq_some hf;have h2:y.1=x.1:=by simpa using List.find?_some hf
  have:=h.mem y h1;rw[h2]at this;exact this
structure Gw where
 R:Nat->Value->World->Prop
 B:World->Prop
 sR:∀i v w w',Below w.heap.size w w'->R i v w->R i v w'
 sB:∀w w',Below w.heap.size w w'->B w->B w'
def Gw.flow(G:Gw):Flow:=⟨G.R,fun _=>G.B,fun _ w w'=>Below w.heap.size w w',fun _=>[],fun _=>[]⟩
structure PreG(G:Gw)(ops:Array Oper)(a0:Act)(k:Nat)(o:Oper)(a:Act)(w:World):Prop where
 n:∀j d,jO o j=true->eA ops j=some d->G.R j (a.eval (.tmp d)) w
 o:∀t,C7 ops k t=true->a.eval (.tmp t)=a0.eval (.tmp t)
 b:G.B w
variable {G:Gw}
theorem wC{k:Nat}{o:Oper}{a:Act}(h:PreF G.flow ops a0 k o a w):PreG G ops a0 k o a w:=⟨fun j d hj hd=>h.n j d hj rfl hd,h.o,h.b 0 rfl⟩
theorem bO{k:Nat}{o:Oper}(h:∀(a:Act) (w:World),PreG G ops a0 k o a w->∃(ps:List (Tmp × Value)) (v:Value) (w':World),AllE a ps/\(uC (ps.map (·.1)) o,(execOp (evo (evl ps)) o).run P w)=(true,.ok (.value v) w')/\Below w.heap.size w w'/\G.R k v w'):kZ P Q G.flow ops a0 k o:=
 BG fun a w hp=>by
  obtain⟨ps,v,w',he,hs,hE⟩:=h a w (wC hp);simp only[Rz.injEq]at hs;refine⟨v,w',?_,hE⟩;rw[qG (evl ps) (ps.map (·.1)) hs.1 he.ev];exact hs.2
theorem bP{k:Nat}{o:Oper}(h:∀(a:Act) (w:World),PreG G ops a0 k o a w->∃(ps:List (Tmp × Value)) (f:FuncId) (args:Array Value),AllE a ps/\(uC (ps.map (·.1)) o,(execOp (evo (evl ps)) o).run P w)=(true,.ok (.enter f args) w)/\Calls P f args w (Ret fun e w'=>Below w.heap.size w w'/\G.R k e w')):kZ P Q G.flow ops a0 k o:=by
 intro a w K h1 h2 h3 hK;obtain⟨ps,f,args,he,hs,hc⟩:=h a w (wC ⟨h1,h2,h3⟩);simp only[Rz.injEq]at hs;unfold Oper.wp;rw[qG (evl ps) (ps.map (·.1)) hs.1 he.ev,hs.2,Oper.upon_enter];refine hc.mono ?_;rintro e w' ⟨v,rfl,hE,hR⟩;exact hK _ _ hE hR
theorem cE{k:Nat}{o:Oper}(T:TypeId)(t:Tmp)(ho:o.op=.load T (.tmp t))(hu:(P.underlying T).map (·.isRow)=some true)
 (h:∀(a:Act) (w:World),PreG G ops a0 k o a w->∃g off cs,a.eval (.tmp t)=.pointer (some ⟨g,off,none⟩)/\w.rangeAt g off cs/\(P.info? T).map (·.size)=some cs.length/\G.R k (.agg cs.toArray) w):kZ P Q G.flow ops a0 k o:=
 wT T t ho hu fun a w hp=>by
  obtain⟨g,off,cs,h1,h2,h3,h4⟩:=h a w (wC hp);exact⟨g,off,cs,h1,h2,h3,Qd _ _,h4⟩
theorem Mk{k:Nat}{o:Oper}(op:BinOp)(T T':TypeId)(t1 t2:Tmp)(ho:o.op=.binOp op T (.tmp t1) (.tmp t2) T')
 (h:∀(a:Act) (w:World),PreG G ops a0 k o a w->∃v1 v2 v,a.eval (.tmp t1)=v1/\a.eval (.tmp t2)=v2/\(eqGuard op T (.tmp t1) (.tmp t2) v1 v2).run P w=.ok () w/\(binOp op T v1 v2).run P w=.ok v w/\G.R k v w):kZ P Q G.flow ops a0 k o:=
 BG fun a w hp=>by
  obtain⟨v1,v2,v,h1,h2,hg,hb,hR⟩:=h a w (wC hp);refine⟨v,w,?_,Qd _ _,hR⟩;unfold execOp;rw[ho];dsimp only;rw[h1,h2,Qi,Qi,hg];dsimp only[Result.andThen];rw[hb];rfl
theorem Gw.reg{m:Nat}(hc:JX ops a0.tmps.size=true)(h:mJ P Q G.flow ops a0 0 (ops.toList.take m)):RegF P Q G.flow ops a0 m:=
 ⟨hc,EJ h,fun i j _ _ _ _ _ v w w' hE hR=>G.sR j v w w' hE hR,fun i b _ _ w w' hE hB=>G.sB w w' hE hB⟩
theorem Gw.draws{id:Nat}(G:Gw)(hm:P.follows .mixedOrders=true)(hc:JX ops a0.tmps.size=true)(h:mJ P Q G.flow ops a0 0 (ops.toList.take ops.size))(hB:G.B w.drew)
 (hp:∀(V:Nat->Value) (w':World),(∀i,i<ops.size->G.R i (V i) w')->G.B w'->Q .normal (fU V ops.toList 0 a0) w'):(Sq id ops true).wp P Q a0 w:=
 sD G.flow hm (Gw.reg hc h) (fun _=>hB) fun V w' h1 h2=>hp V w' (fun i hi=>h1 i hi rfl) (h2 0 rfl)
theorem Gw.last{id:Nat}(G:Gw)(n:Nat)(hn:((ops.size == n+1) && (QJ n).all (fun j=>depOn ops n j || (QJ n).any (fun i=>depOn ops n i && depOn ops i j)))=true)(hm:P.follows .mixedOrders=true)(hc:JX ops a0.tmps.size=true)(h:mJ P Q G.flow ops a0 0 (ops.toList.take n))(hB:G.B w.drew)
 (hp:∀(V:Nat->Value) (w':World),(∀i,i<n->G.R i (V i) w')->G.B w'->wpList P ops Q (ops.toList.drop n) (fU V (ops.toList.take n) 0 a0) w'):(Sq id ops true).wp P Q a0 w:=by
 rw[P3,beq_iff_eq]at hn;exact EF G.flow n hn.1 hn.2 hm (Gw.reg hc h) (fun _=>hB) fun V w' h1 h2=>hp V w' (fun i hi=>h1 i hi rfl) (h2 0 rfl)
end RG
section
open Go.RowKit Go.Sort Go.Deep
variable {P:Nat}[NeZero P]{N:Nat}
theorem xY{w:World}{g o:Nat}{v:Value}{cur:Array Value}{e:TypeId}{z:Nat × Nat}(h:w.heap[g]? = some (.cells cur e z)):∃cur2:Array Value,(w.setCell ⟨g,o,none⟩ v).heap[g]? = some (.cells cur2 e z)/\cur2.size=cur.size:=by
 have hlt:g<w.heap.size:=(Qg.1 h).1;refine⟨cur.setIfInBounds o v,?_,Array.size_setIfInBounds ..⟩;have h2:w.heap[g]=.cells cur e z:=by rw[Qo hlt]at h;exact Qh.inj h
 simp[World.setCell,Array.getElem_modify,hlt,h2]
theorem mP{g:Nat}{e:TypeId}{z:Nat × Nat}:∀(vs:List Value) (o:Nat) (w:World) (cur:Array Value),w.heap[g]? = some (.cells cur e z)->∃cur2:Array Value,(w.setCells g o vs).heap[g]? = some (.cells cur2 e z)/\cur2.size=cur.size
 | [],_,_,cur,h=>⟨cur,h,rfl⟩
 | v :: r,o,w,cur,h=>by
  obtain⟨c1,h1,h2⟩:=xY (o:=o) (v:=v) h;obtain⟨c2,h3,h4⟩:=mP r (o+1) _ c1 h1;exact⟨c2,h3,h4.trans h2⟩
theorem Gi{W:World}{base n s g o cap:Nat}{e:TypeId}{xs vs:List Value}(h:W.ownsRow base e s (.slice (some ⟨g,0,none⟩) n cap) n xs)(hl:o+vs.length<=n*s):(W.setCells g o vs).ownsRow base e s (.slice (some ⟨g,0,none⟩) n cap) n (RG.rep xs o vs):=by
 have hx:o+vs.length<=xs.length:=by rw[h.1];exact hl
 refine⟨by rw[RG.bV hx];exact h.1,?_⟩;rcases h.2 with⟨h1,-⟩|⟨g',cap',cur,h1,h2,h3,h4,h5,h6,h7⟩
 ·cases h1
 ·injection h1 with e1 e2 e3
  injection e1 with e1
  injection e1 with e1
  subst e1;subst e3;obtain⟨c2,k1,k2⟩:=mP vs o W cur h3;refine Qc ⟨g,cap,c2,rfl,h2,k1,h4,h5,by rw[k2];exact h6,?_⟩;have hcs:n*s<=cur.size:=by rw[h6];exact SH s h4
  apply U9;intro i;rw[RG.rep_at hx,RA,<-h7];have c1:∀i,W.cell? ⟨g,i,none⟩=cur[i]?:=fun i=>cell_of_row W g i cur e (0,0) h3
  have c3:(W.setCells g o vs).cell? ⟨g,i,none⟩=c2[i]?:=cell_of_row _ g i c2 e (0,0) k1;by_cases hi:i<n*s
  ·rw[if_pos hi];by_cases hin:o<=i/\i<o+vs.length
   ·rw[if_pos hin];have hj:i-o<vs.length:=by omega
    have:=World.cell?_setCells_in g vs o W (fun j hj=>by rw[c1 (o+j),Qo (by omega)];rfl) (i-o) hj;rw[show o+(i-o)=i by omega,c3]at this;rw[QE,this,P6 hj]
   ·rw[if_neg hin,RA,if_pos hi,QE,QE,<-c3,<-c1 i];exact World.cell?_setCells_out g vs o W ⟨g,i,none⟩ (fun _ _=>by show i<o\/o+vs.length<=i;omega)
  ·rw[if_neg hi,if_neg (by omega),RA,if_neg hi]
theorem I4{xs ys vs:List Value}{o:Nat}:RG.rep (xs++ys) (xs.length+o) vs=xs++RG.rep ys o vs:=by
 unfold RG.rep;rw[List.take_length_add_append,Nat.add_assoc,List.drop_length_add_append,List.append_assoc]
theorem lD{n:Nat}{p:Bs}(hp:p.size=33):(wn n++aA p).length=37:=by rw[PY,aF hp];rfl
theorem dQ(x:Nat × Bs)(r:List (Nat × Bs)):aV (x :: r)=(wn x.1++aA x.2)++aV r:=by unfold aV;rw[U8]
theorem sT(s:Nat):∀(l:List (Nat × Bs)) (j:Nat) (hj:j<l.length),(∀x∈l.map (·.2),x.size=33)->aV (l.set j (s,(l[j]).2))=RG.rep (aV l) (37*j) (wn s)
 | [],j,hj,_=>by cases hj
 | x :: r,0,_,_=>by
  show aV ((s,x.2) :: r)=_;rw[dQ,dQ];rfl
 | x :: r,j+1,hj,hs=>by
  have hx:=lD (n:=x.1) (hs x.2 (by simp));show aV (x :: r.set j (s,(r[j]'(by simpa using hj)).2))=_;rw[dQ,dQ,sT s r j (by simpa using hj) (fun y hy=>hs y (Qv _ hy)),show 37*(j+1)=(wn x.1++aA x.2).length+37*j by rw[hx];omega,I4]
theorem at?_some{p:Bs}:∀ {l:List (Nat × Bs)}{i j:Nat},at? p (l.map (·.2)) i=some j->i<=j/\∃h:j-i<l.length,(l[j-i]).2=p/\∀n,dH N l n p=l.set (j-i) (sPl N (l[j-i]).1 n,p)
 | [],i,j,h=>by cases h
 | (s,q) :: r,i,j,h=>by
  rw[List.map_cons]at h;unfold at? at h;by_cases hq:p=q
  ·rw[if_pos hq]at h;obtain rfl:=Qh.inj h;refine⟨PQ _,by simp,?_,fun n=>?_⟩
   ·simp[hq]
   ·unfold dH;rw[if_pos hq];simp[hq]
  ·rw[if_neg hq]at h;obtain⟨h1,h2,h3,h4⟩:=at?_some h;have e:j-i=(j-(i+1))+1:=by omega
   refine⟨by omega,by simp;omega,?_,fun n=>?_⟩
   ·simp only[e,VN];exact h3
   ·unfold dH;rw[if_neg hq,h4 n];simp only[e,VN,QH]
theorem Ie{n:Nat}{p:Bs}{l:List (Nat × Bs)}{j:Nat}(h:at? p (l.map (·.2)) 0=some j):(dH N l n p).map (·.2)=l.map (·.2)/\(dH N l n p).length=l.length:=by
 obtain⟨-,h2,h3,h4⟩:=at?_some (N:=N) h;rw[h4 n];refine⟨?_,List.length_set ..⟩;rw[List.map_set];apply U9;intro i;rw[List.getElem?_set];by_cases hi:j-0=i
 ·subst hi;rw[if_pos rfl,if_pos (by rw[Qb];exact h2),QX,P6 h2];exact congrArg some h3.symm
 ·rw[if_neg hi]
theorem Mx.again{w W:World}{m g cap:Nat}{l:List (Nat × Bs)}{p:Bs}{j:Nat}(h:Mx w W m l (.slice (some ⟨g,0,none⟩) l.length cap))(hs:∀x∈l.map (·.2),x.size=33)(hj:at? p (l.map (·.2)) 0=some j)(hl:j<l.length)(n:Nat):
 Mx w (W.setCells g (37*j) (wn (sPl N (l[j]).1 n))) m (dH N l n p) (.slice (some ⟨g,0,none⟩) l.length cap):=by
 have hne:=h.own_ne (g:=g) rfl;obtain⟨e1,e2⟩:=Ie (N:=N) (n:=n) hj;refine⟨RG.below_setCells hne.2.1 _ _ _ h.bl,?_,h.lm,?_⟩
 ·rw[RG.bK _ _ _ _ _ (Ne.symm hne.1),e1,e2];exact h.mp
 ·obtain⟨-,h2,h3,h4⟩:=at?_some (N:=N) hj;have e3:dH N l n p=l.set j (sPl N (l[j]).1 n,(l[j]).2):=by rw[h4 n];simp only[Ub]at h3⊢;rw[h3]
  rw[e2,e3,sT _ l j hl hs];exact Gi h.ow (by show 37*j+4<=_;omega)
theorem Bg(O:Ord N)(ns:Nat->Nat)(az:Nat->Bs){k:Nat}(hn:∀j,j<k->ns j<N):∀i,i<=k->∀x∈mrg N ns az i,x.1<N
 | 0,_=>fun x hx=>by cases hx
 | i+1,hi=>by
  have ih:=Bg O ns az hn i (by omega);have h:∀(l:List (Nat × Bs)) n p,n<N->(∀x∈l,x.1<N)->∀x∈dH N l n p,x.1<N:=by
   intro l n p hp;induction l with
   | nil=>intro _ x hx;simp[dH]at hx;rw[hx];exact hp
   | cons y r ihr =>
    intro hl x hx;unfold dH at hx;split at hx
    ·rcases QU.1 hx with rfl|hx
     ·exact RN _ O.pos
     ·exact hl x (Qv _ hx)
    ·rcases QU.1 hx with rfl|hx
     ·exact hl _ Qy
     ·exact ihr (fun z hz=>hl z (Qv _ hz)) x hx
  exact h _ _ _ (hn i (by omega)) ih
end
section
open Go.RowKit Go.Sort Go.Deep
variable {N:Nat}
section
variable (w:World) (m g4 cap k6 j s n z:Nat) (l:List (Nat × Bs)) (p:Bs)
def Ra:Nat->Value->World->Prop
 | 0,v,_=>v=.slice (some ⟨g4,0,none⟩) l.length cap
 | 1,v,_=>v=.int .i64 j
 | 2,v,_=>v=.slice (some ⟨g4,0,none⟩) l.length cap
 | 3,v,_=>v=.int .i64 j
 | 4,v,_=>v=.pointer (some ⟨g4,0+37*j,none⟩)
 | 5,v,_=>v=.pointer (some ⟨g4,0+37*j,none⟩)
 | 6,v,_=>v=nv s
 | 7,v,_=>v=.pointer (some ⟨k6,0,none⟩)
 | 8,v,_=>v=nv n
 | 9,v,_=>v=nv z
 | 10,v,_=>v=.pointer (some ⟨g4,0+37*j,none⟩)
 | 11,v,_=>v=.pointer (some ⟨g4,0+37*j,none⟩)
 | _,_,_=>True
theorem MQ{i:Nat}{v:Value}{W W':World}(h:Ra g4 cap k6 j s n z l i v W):Ra g4 cap k6 j s n z l i v W':=by
 match i,h with
 | 0,h=>exact h
 | 1,h=>exact h
 | 2,h=>exact h
 | 3,h=>exact h
 | 4,h=>exact h
 | 5,h=>exact h
 | 6,h=>exact h
 | 7,h=>exact h
 | 8,h=>exact h
 | 9,h=>exact h
 | 10,h=>exact h
 | 11,h=>exact h
 | _+12,_=>trivial
def Ga:RG.Gw:=⟨Ra g4 cap k6 j s n z l,fun W=>Mx w W m l (.slice (some ⟨g4,0,none⟩) l.length cap)/\Row W k6 (wn n++aA p),fun _ _ _ _ _ h=>MQ g4 cap k6 j s n z l h,fun _ _ hb h=>⟨h.1.kept hb,h.2.below hb⟩⟩
end
theorem range_front'{W:World}{k o:Nat}{xs ys:List Value}(h:W.rangeAt k o (xs++ys)):W.rangeAt k o xs:=fun j v hj=>h j v (by rw[QL (Qe.1 hj).1];exact hj)
theorem Mx.drew{w W:World}{m:Nat}{l:List (Nat × Bs)}{v:Value}(h:Mx w W m l v):Mx w W.drew m l v:=⟨h.bl.drew,h.mp,h.lm,h.ow⟩
theorem GE(O:Ord N)(R:Value->World->Prop)(g k c:Nat)(hk:k<=1000)(ns:Nat->Nat)(az:Nat->Bs)(ha:∀j,j<k->(az j).size=33)(hn:∀j,j<k->ns j<N)(w:World)(hg:g<w.heap.size)(hr:∀j,j<k->w.rangeAt g (37*j) (wn (ns j)++aA (az j)))
 (hdel:∀W v,Mx w W w.heap.size (mrg N ns az k) v->Calls prog 136 #[v,.func (.func 137) #[] #[]] W (Ret R)) :
 Calls prog 90 #[.slice (some ⟨g,0,none⟩) k c] w (Ret R):=by
 have HDEL:=Hid.mk' hdel;clear hdel;have hmm:(Xn 205 none).run prog w=.ok (.map (some w.heap.size)) (w.alloc (.map #[] 0)):=by kernel_rfl
 obtain⟨w1,hw1⟩:∃w1,Hid (w.alloc (.map #[] 0)=w1):=⟨_,rfl⟩
 rw[hw1.out]at hmm;have M1:Hid (Mx w w1 w.heap.size (mrg N ns az 0) (.slice none 0 0)):=by
  rw[<-hw1.out];exact⟨aE w _,by show(w.heap.push (.map #[] 0))[w.heap.size]? = _;rw[Array.getElem?_push_size];rfl,PQ _,rfl,Ql ⟨rfl,rfl⟩⟩
 have HH:Hid (Ord N/\(∀j,j<k->(az j).size=33)/\(∀i,i<k->ns i<N)/\g<w.heap.size/\∀j,j<k->w.rangeAt g (37*j) (wn (ns j)++aA (az j))):=⟨O,ha,hn,hg,hr⟩
 obtain⟨d,hd1,hd2⟩:=PV.1 uCP;obtain⟨d',hd3,hd4⟩:=PV.1 uT;have HD:Hid ((prog.underlying 51=some d/\d.isRow=true)/\prog.underlying 164=some d'/\d'.isRow=true):=⟨⟨hd1,hd2⟩,hd3,hd4⟩
 clear hd1 hd2 hd3 hd4 hw1 ha hn hg hr O;go_enter Tryz.func90,Tryz.ntmps90;go_wp2;clear hmm;go_loopg [4,12] k (fun q s4 s12 W=>∃i:Nat,i+q=k/\s12=.int .i64 i/\Hid (Mx w W w.heap.size (mrg N ns az i) s4))
 case atStart=>exact⟨0,by omega,rfl,M1⟩
 case round =>
  clear M1;obtain⟨i,hik,rfl,KM⟩:=hrel;by_cases hi:i<k
  ·have hi':(i:Int)<(k:Int):=by omega
   obtain⟨n,hne⟩:∃n,Hid (ns i=n):=⟨_,rfl⟩
   obtain⟨p,hpe⟩:∃p,Hid (az i=p):=⟨_,rfl⟩
   obtain⟨l,hl⟩:∃l,Hid (mrg N ns az i=l):=⟨_,rfl⟩
   rw[hl.out]at KM;have hps:Hid (p.size=33):=by have:=HH.out.2.1 i hi;rw[hpe.out]at this;exact this
   have hll:Hid (l.length<=i):=by have:=nA (N:=N) ns az i;rw[hl.out]at this;exact this
   obtain⟨q,cap,rfl⟩:=uK KM.out.ow;obtain⟨W1,hW1⟩:∃W1,Hid (wr.alloc (.cells zT.toArray 164)=W1):=⟨_,rfl⟩
   obtain⟨W2,hW2⟩:∃W2,Hid (W1.setCells wr.heap.size 0 (wn n++aA p)=W2):=⟨_,rfl⟩
   have hlen:(wn n++aA p).length=37:=by rw[PY,aF hps.out];rfl
   have F1:Hid (Row W1 wr.heap.size zT/\Below wr.heap.size wr W1/\W1.heap.size=wr.heap.size+1):=by rw[<-hW1.out];exact⟨aM wr _ _,aE wr _,Qa _ _⟩
   have F2:Hid (Row W2 wr.heap.size (wn n++aA p)/\Below wr.heap.size wr W2/\W2.heap.size=wr.heap.size+1):=by rw[<-hW2.out];exact⟨F1.out.1.put (by rw[hlen];rfl),RG.below_setCells (PQ _) _ _ _ F1.out.2.1,by rw[RG.setCells_size];exact F1.out.2.2⟩
   have K2:Hid (Mx w W2 w.heap.size l (.slice q l.length cap)):=KM.out.kept F2.out.2.1;have hsz:∀x∈l.map (·.2),x.size=33:=by have:=kO (N:=N) ns az HH.out.2.1 i (by omega);rw[hl.out]at this;exact this
   cases hat:at? p (l.map (·.2)) 0 with
   | none =>
    have hnone:Hid (at? p (l.map (·.2)) 0=none):=hat;have B1:=Hid.mk' (rV hps.out (l.map (·.2)) hsz w.heap.size l.length W2 K2.out.mp);rw[hnone.out]at B1;have B2:Hid ((Instr.mapUpdate 205 (.map (some w.heap.size)) (.agg (aA p).toArray) (.int .i64 (l.length:Int))).run prog W2=.ok () (W2.putObj w.heap.size (.map (ents (l.map (·.2)++[p]) 0).toArray (l.length+1)))):=by
     have h:=Ck hps.out (l.map (·.2)) hsz w.heap.size W2 (by rw[Qb];exact K2.out.mp) hnone.out;rw[Qb]at h;exact h
    obtain⟨v',W5,happ,K5,lt5,-⟩:=K2.out.push hps.out (by have:=hll.out;omega) n;obtain⟨W3,hW3⟩:∃W3,Hid (W2.putObj w.heap.size (.map (ents (l.map (·.2)++[p]) 0).toArray (l.length+1))=W3):=⟨_,rfl⟩
    have F3:Hid (Row W3 wr.heap.size (wn n++aA p)/\W3.heap.size=wr.heap.size+1):=by rw[<-hW3.out];exact⟨F2.out.1.putObj K2.out.mp rfl _,by simp[World.putObj];exact F2.out.2.2⟩
    have B3:=Hid.mk' (MC hps.out n W3);obtain⟨W4,hW4⟩:∃W4,Hid (W3.alloc (.cells (wn n++aA p).toArray 164)=W4):=⟨_,rfl⟩
    rw[hW3.out]at B2 happ;rw[hW4.out]at B3 happ;rw[F3.out.2]at B3;rw[F2.out.2.2]at happ;have K5':Hid (Mx w W5 w.heap.size (mrg N ns az (i+1)) v'):=by
     have e:mrg N ns az (i+1)=l++[(n,p)]:=by
      show dH N (mrg N ns az i) (ns i) (az i)=_;rw[hl.out,hne.out,hpe.out];exact tC hnone.out
     rw[e];exact K5
    have B0:Hid (wr.rangeAt g (37*i) (wn n++aA p)):=by
     have h:=RG.range_below (HH.out.2.2.2.2 i hi) KM.out.bl HH.out.2.2.2.1;rw[hne.out,hpe.out]at h;exact h
    have HLT:Hid ((prog.info? 164).map (·.size)=some (wn n++aA p).length):=by show _=_;rw[hlen];exact iT
    have HLS:Hid ((prog.info? 164).map (·.size)=some (wn n++aA p).toArray.size/\W1.there wr.heap.size 0 (wn n++aA p).toArray.size):=by
     have e:(wn n++aA p).toArray.size=37:=by rw[QB];exact hlen
     rw[e];exact⟨iT,F1.out.1.2.2⟩
    have HLP:Hid ((prog.info? 51).map (·.size)=some (aA p).length):=by show _=_;rw[aF hps.out];exact aW
    have HB:Hid (W2.rangeAt wr.heap.size 4 (aA p)):=jE (xs:=wn n) F2.out.1.2.1;have HAL:Hid ((wn n++aA p).toArray.all (·.oneCell')=true):=by
     show _=_;rw[Si];intro u hu;exact cells_one n p u (Tz.1 hu)
    have hix:=atT g 0 k c i hi;have HAP:=Hid.mk' happ;clear happ;obtain⟨vt,hvt⟩:∃v,Hid (QD (wn n++aA p).toArray=v):=⟨_,rfl⟩
    obtain⟨vp,hvp⟩:∃v,Hid (QD (aA p).toArray=v):=⟨_,rfl⟩
    rw[hvp.out]at B1 B2;rw[hvt.out]at B3;clear hlen hsz K5 lt5 hW4 hW3 K2 KM;go_wp2_with (first|(refine wpList_load_mid rfl 164 _ rfl g (37*i) ?_ (wn n++aA p) d' ?_ ?_ ?_ ?_ ?_;rfl;exact B0.out;exact HD.out.2.1;exact HD.out.2.2;exact HLT.out;rw[hvt.out])|(refine aQ (v:=.pointer (some ⟨wr.heap.size,0,none⟩)) (w':=W1) rfl (.alloc 164) rfl ?_ ?_;(rw[<-hW1.out];kernel_rfl))|(refine wpList_store_mid rfl 164 _ _ rfl wr.heap.size 0 (wn n++aA p).toArray ?_ ?_ ?_ ?_ ?_ ?_;rfl;exact hvt.out.symm;exact HLS.out.2;exact HLS.out.1;exact HAL.out;rw[show(wn n++aA p).toArray.toList=wn n++aA p from rfl,hW2.out])|(refine wpList_load_mid rfl 51 _ rfl wr.heap.size 4 ?_ (aA p) d ?_ ?_ ?_ ?_ ?_;rfl;exact HB.out;exact HD.out.1.1;exact HD.out.1.2;exact HLP.out;rw[hvp.out])|(refine nY (x:=.map (some w.heap.size)) (y:=vp) (w':=W2) rfl 205 _ _ true rfl ?_ ?_ B1.out ?_;rfl;rfl)|(refine tR (x:=.map (some w.heap.size)) (y:=vp) (z:=.int .i64 (l.length:Int)) (w':=W3) rfl 205 _ _ _ rfl ?_ ?_ ?_ B2.out ?_;rfl;rfl;rfl)|(refine wpList_load_mid rfl 164 _ rfl wr.heap.size 0 ?_ (wn n++aA p) d' ?_ ?_ ?_ ?_ ?_;rfl;exact F3.out.1.2.1;exact HD.out.2.1;exact HD.out.2.2;exact HLT.out;rw[hvt.out])|(refine lX (v:=.slice (some ⟨wr.heap.size+1,0,none⟩) 1 1) (w':=W4) rfl 98 1 _ rfl #[(0,vt)] ?_ B3.out ?_;kernel_rfl)|(refine iV (x:=.slice q l.length cap) (y:=.slice (some ⟨wr.heap.size+1,0,none⟩) 1 1) (v:=v') (w':=W5) rfl _ _ 98 rfl ?_ ?_ ?_ ?_;rfl;rfl;exact HAP.out))
    go_roundg (gk-1)
    case measure=>omega
    case rel=>exact⟨i+1,by omega,rfl,K5'⟩
   | some j =>
    obtain⟨-,hjl,hjp,-⟩:=at?_some (N:=N) hat;rw[Ub]at hjl;simp only[Ub]at hjp;have B1:=Hid.mk' (rV hps.out (l.map (·.2)) hsz w.heap.size l.length W2 K2.out.mp);rw[hat]at B1;obtain⟨g4,cap4,he4,-,hg4,hr4⟩:=iP K2.out.ow hsz (by omega);injection he4 with q1 q2 q3
    subst q1;obtain⟨s,hse⟩:∃s,Hid ((l[j]'hjl).1=s):=⟨(l[j]'hjl).1,(rfl:(l[j]'hjl).1=(l[j]'hjl).1)⟩
    have hsN:Hid (s<N):=by
     have:=Bg HH.out.1 ns az HH.out.2.2.1 i (by omega);rw[hl.out]at this;rw[<-hse.out];exact this _ (QI hjl)
    have hnN:Hid (n<N):=by rw[<-hne.out];exact HH.out.2.2.1 i hi
    have B0:Hid (wr.rangeAt g (37*i) (wn n++aA p)):=by
     have h:=RG.range_below (HH.out.2.2.2.2 i hi) KM.out.bl HH.out.2.2.2.1;rw[hne.out,hpe.out]at h;exact h
    have HLT:Hid ((prog.info? 164).map (·.size)=some (wn n++aA p).length):=by show _=_;rw[hlen];exact iT
    have HLS:Hid ((prog.info? 164).map (·.size)=some (wn n++aA p).toArray.size/\W1.there wr.heap.size 0 (wn n++aA p).toArray.size):=by
     have e:(wn n++aA p).toArray.size=37:=by rw[QB];exact hlen
     rw[e];exact⟨iT,F1.out.1.2.2⟩
    have HLP:Hid ((prog.info? 51).map (·.size)=some (aA p).length):=by show _=_;rw[aF hps.out];exact aW
    have HB:Hid (W2.rangeAt wr.heap.size 4 (aA p)):=jE (xs:=wn n) F2.out.1.2.1;have HAL:Hid ((wn n++aA p).toArray.all (·.oneCell')=true):=by
     show _=_;rw[Si];intro u hu;exact cells_one n p u (Tz.1 hu)
    have hix:=atT g 0 k c i hi;obtain⟨vt,hvt⟩:∃v,Hid (QD (wn n++aA p).toArray=v):=⟨_,rfl⟩
    obtain⟨vp,hvp⟩:∃v,Hid (QD (aA p).toArray=v):=⟨_,rfl⟩
    rw[hvp.out]at B1;have HL:Hid (j<l.length):=hjl;have HS:Hid (∀h:j<l.length,(l[j]'h).1=s):=fun _=>hse.out
    have HJ:Hid (at? p (l.map (·.2)) 0=some j/\(∀x∈l.map (·.2),x.size=33)):=⟨hat,hsz⟩
    have HK:Hid (Mx w W2 w.heap.size l (.slice (some ⟨g4,0,none⟩) l.length cap)/\Row W2 wr.heap.size (wn n++aA p)):=⟨K2.out,F2.out.1⟩
    have KN:Hid (mrg N ns az (i+1)=dH N l n p):=by
     show dH N (mrg N ns az i) (ns i) (az i)=_;rw[hl.out,hne.out,hpe.out]
    clear hlen hsz K2 KM hjp q2 q3 hr4 hg4;clear hat;go_wp2_with (first|(refine wpList_load_mid rfl 164 _ rfl g (37*i) ?_ (wn n++aA p) d' ?_ ?_ ?_ ?_ ?_;rfl;exact B0.out;exact HD.out.2.1;exact HD.out.2.2;exact HLT.out;rw[hvt.out])|(refine aQ (v:=.pointer (some ⟨wr.heap.size,0,none⟩)) (w':=W1) rfl (.alloc 164) rfl ?_ ?_;(rw[<-hW1.out];kernel_rfl))|(refine wpList_store_mid rfl 164 _ _ rfl wr.heap.size 0 (wn n++aA p).toArray ?_ ?_ ?_ ?_ ?_ ?_;rfl;exact hvt.out.symm;exact HLS.out.2;exact HLS.out.1;exact HAL.out;rw[show(wn n++aA p).toArray.toList=wn n++aA p from rfl,hW2.out])|(refine wpList_load_mid rfl 51 _ rfl wr.heap.size 4 ?_ (aA p) d ?_ ?_ ?_ ?_ ?_;rfl;exact HB.out;exact HD.out.1.1;exact HD.out.1.2;exact HLP.out;rw[hvp.out])|(refine nY (x:=.map (some w.heap.size)) (y:=vp) (w':=W2) rfl 205 _ _ true rfl ?_ ?_ B1.out ?_;rfl;rfl)|fail)
    refine(Ga w w.heap.size g4 cap wr.heap.size j s n (sPl N s n) l p).last 12 (by kernel_rfl) (by kernel_rfl) (by kernel_rfl) ⟨
     RG.bO fun a W hp=>⟨[(4,.slice (some ⟨g4,0,none⟩) l.length cap)],.slice (some ⟨g4,0,none⟩) l.length cap,W,⟨hp.o 4 (by kernel_rfl),trivial⟩,by kernel_rfl,Qd _ _,rfl⟩,
     RG.bO fun a W hp=>⟨[(7,.int .i64 j)],.int .i64 j,W,⟨hp.o 7 (by kernel_rfl),trivial⟩,by kernel_rfl,Qd _ _,rfl⟩,
     RG.bO fun a W hp=>⟨[(4,.slice (some ⟨g4,0,none⟩) l.length cap)],.slice (some ⟨g4,0,none⟩) l.length cap,W,⟨hp.o 4 (by kernel_rfl),trivial⟩,by kernel_rfl,Qd _ _,rfl⟩,
     RG.bO fun a W hp=>⟨[(7,.int .i64 j)],.int .i64 j,W,⟨hp.o 7 (by kernel_rfl),trivial⟩,by kernel_rfl,Qd _ _,rfl⟩,
     RG.bO fun a W hp=>⟨[(36,.slice (some ⟨g4,0,none⟩) l.length cap),(37,.int .i64 j)],.pointer (some ⟨g4,0+37*j,none⟩),W,⟨hp.n 2 36 (by kernel_rfl) (by kernel_rfl),hp.n 3 37 (by kernel_rfl) (by kernel_rfl),trivial⟩,by
      rw[Rz.injEq];refine⟨by kernel_rfl,?_⟩;show((QV 98 (.slice (some ⟨g4,0,none⟩) l.length cap) (.int .i64 j)) >>= fun v=>pure (Ux v)).run prog W=_;rw[Qi,atT g4 0 l.length cap j HL.out];rfl,Qd _ _,rfl⟩,
     RG.bO fun a W hp=>⟨[(38,.pointer (some ⟨g4,0+37*j,none⟩))],.pointer (some ⟨g4,0+37*j,none⟩),W,⟨hp.n 4 38 (by kernel_rfl) (by kernel_rfl),trivial⟩,by kernel_rfl,Qd _ _,rfl⟩,
     RG.cE 46 39 rfl Go.Proofs.YtfcnimopdjjhcaaGreat.u40 fun a W hp=>⟨g4,0+37*j,wn s,hp.n 5 39 (by kernel_rfl) (by kernel_rfl),by
      obtain⟨g5,cap5,he5,-,-,hr5⟩:=iP hp.b.1.ow HJ.out.2 (by have:=HL.out;omega);injection he5 with q1 q2 q3
      injection q1 with q1
      injection q1 with q1
      subst q1;have:=hr5 j HL.out;rw[(HS.out HL.out)]at this;rw[PU];exact range_front' this,i40,rfl⟩,
     RG.bO fun a W hp=>⟨[(6,.pointer (some ⟨wr.heap.size,0,none⟩))],.pointer (some ⟨wr.heap.size,0,none⟩),W,⟨hp.o 6 (by kernel_rfl),trivial⟩,by kernel_rfl,Qd _ _,rfl⟩,
     RG.cE 46 41 rfl Go.Proofs.YtfcnimopdjjhcaaGreat.u40 fun a W hp=>⟨wr.heap.size,0,wn n,hp.n 7 41 (by kernel_rfl) (by kernel_rfl),kE hp.b.2.2.1,i40,rfl⟩,
     RG.bP fun a W hp=>⟨[(40,nv s),(42,nv n)],53,#[nv s,nv n],⟨hp.n 6 40 (by kernel_rfl) (by kernel_rfl),hp.n 8 42 (by kernel_rfl) (by kernel_rfl),trivial⟩,by kernel_rfl,(AD HH.out.1 s n hsN.out hnN.out W).mono (by
      rintro e W' ⟨u,rfl,hb,rfl⟩;exact⟨_,rfl,hb,rfl⟩)⟩,
     RG.bO fun a W hp=>⟨[(34,.slice (some ⟨g4,0,none⟩) l.length cap),(35,.int .i64 j)],.pointer (some ⟨g4,0+37*j,none⟩),W,⟨hp.n 0 34 (by kernel_rfl) (by kernel_rfl),hp.n 1 35 (by kernel_rfl) (by kernel_rfl),trivial⟩,by
      rw[Rz.injEq];refine⟨by kernel_rfl,?_⟩;show((QV 98 (.slice (some ⟨g4,0,none⟩) l.length cap) (.int .i64 j)) >>= fun v=>pure (Ux v)).run prog W=_;rw[Qi,atT g4 0 l.length cap j HL.out];rfl,Qd _ _,rfl⟩,
     RG.bO fun a W hp=>⟨[(44,.pointer (some ⟨g4,0+37*j,none⟩))],.pointer (some ⟨g4,0+37*j,none⟩),W,⟨hp.n 10 44 (by kernel_rfl) (by kernel_rfl),trivial⟩,by kernel_rfl,Qd _ _,rfl⟩,trivial⟩ ⟨HK.out.1.drew,HK.out.2⟩ ?_
    intro V W3 hR3 hB3;have hV9:V 9=nv (sPl N s n):=hR3 9 (by decide);have hV11:V 11=.pointer (some ⟨g4,0+37*j,none⟩):=hR3 11 (by decide);obtain⟨W4,hW4⟩:∃W4,Hid (W3.setCells g4 (37*j) (wn (sPl N s n))=W4):=⟨_,rfl⟩
    have K4:Hid (Mx w W4 w.heap.size (mrg N ns az (i+1)) (.slice (some ⟨g4,0,none⟩) l.length cap)):=by
     rw[<-hW4.out,KN.out,<-(HS.out HL.out)];exact hB3.1.again HJ.out.2 HJ.out.1 HL.out n
    have HTH:Hid (W3.there g4 (37*j) 4):=by
     intro t ht;have hj:=HL.out;rcases hB3.1.ow.2 with⟨h,-⟩|⟨g2,cap2,cur,he,-,hc,hn,-,hs,-⟩
     ·cases h
     ·injection he with he1 he2 he3
      injection he1 with he1
      injection he1 with he1
      subst he1;have hlt:37*j+t<cur.size:=by
       rw[hs];have:(j+1)*37<=cap2*37:=SH 37 (by omega);omega
      refine⟨?_,?_⟩
      ·simp[RU,hc,hlt]
      ·simp[Ti,hc]
    clear hR3 hB3;dsimp only[RG.fU,SE,List.take,List.drop];simp only[Act.put,List.setIfInBounds_toArray,QH,List.set_cons_zero];obtain⟨vz,hvz⟩:∃v,Hid (nv (sPl N s n)=v):=⟨_,rfl⟩
    rw[hV9,hV11,hvz.out,PU];clear hV9 hV11;generalize V 0=s0;generalize V 1=s1;generalize V 2=s2;generalize V 3=s3;generalize V 4=s4;generalize V 5=s5;generalize V 6=s6;generalize V 7=s7;generalize V 8=s8;generalize V 10=s10;go_wp2_with (first|(refine wpList_store_mid rfl 46 _ _ rfl g4 (37*j) (wn (sPl N s n)).toArray ?_ ?_ ?_ ?_ ?_ ?_;rfl;exact hvz.out.symm;exact HTH.out;exact i40;exact dK (sPl N s n);rw[show(wn (sPl N s n)).toArray.toList=wn (sPl N s n) from rfl,hW4.out])|fail)
    go_roundg (gk-1)
    case measure=>omega
    case rel=>exact⟨i+1,by omega,rfl,K4⟩
  ·have hi':¬(i:Int)<(k:Int):=by omega
   obtain rfl:i=k:=by omega
   go_wp2_with fail
   refine(HDEL.out wr _ KM.out).mono ?_;rintro e w9 ⟨vv,rfl,hR9⟩;have HR9:=Hid.mk' hR9;clear hR9 HDEL;go_wp2;go_ret;exact⟨_,rfl,HR9.out⟩
end
section
open Go.RowKit Go.Sort Go.Deep
variable {P:Nat}[NeZero P]{N:Nat}
def LF(l:List (Nat × Bs)):List (Nat × Bs):=l.filter fun x=>x.1 != 0
theorem lQ{l:List (Nat × Bs)}{j:Nat}(hj:j<l.length):LF (l.take (j+1))=LF (l.take j)++(if (l[j]).1=0 then [] else [l[j]]):=by
 unfold LF;rw[Ws,P6 hj,List.filter_append]
 congr 1
 by_cases h:(l[j]).1=0
 ·simp[h]
 ·simp[h]
theorem KZ(l:List (Nat × Bs))(j:Nat):(LF (l.take j)).length<=j:=
 Qn (VR _ _) (by rw[SL];exact Nat.min_le_left _ _)
theorem xI{l:List (Nat × Bs)}{x:Nat × Bs}(h:x∈LF l):x∈l:=(Us.1 h).1
theorem pJ{ns:Nat->Nat}:∀(m i:Nat),(∃j,i<=j/\j<i+m/\ns j=0)->∃i0,gA ns i m=((i0:Nat):Int)/\i<=i0/\i0<i+m/\ns i0=0/\∀j,i<=j->j<i0->ns j≠0
 | 0,i,h=>by obtain⟨j,h1,h2,-⟩:=h;omega
 | m+1,i,h=>by
  unfold gA;by_cases h0:ns i=0
  ·rw[if_pos h0];exact⟨i,rfl,PQ _,by omega,h0,fun j h1 h2=>by omega⟩
  ·rw[if_neg h0];obtain⟨j,h1,h2,h3⟩:=h;obtain⟨i0,e1,e2,e3,e4,e5⟩:=pJ m (i+1) ⟨j,by
    rcases UB i j with h|h
    ·omega
    ·obtain rfl:j=i:=by omega
     exact absurd h3 h0,by omega,h3⟩
   refine⟨i0,e1,by omega,by omega,e4,fun j' h1' h2'=>?_⟩;rcases UB i j' with h|h
   ·exact e5 j' h h2'
   ·obtain rfl:j'=i:=by omega
    exact h0
def Rw(W:World)(g j:Nat)(x:Nat × Bs):Prop:=W.rangeAt g (37*j) (wn x.1++aA x.2)
theorem Rw.below{W W':World}{g j:Nat}{x:Nat × Bs}(h:Rw W g j x)(hb:Below W.heap.size W W')(hg:g<W.heap.size):Rw W' g j x:=RG.range_below h hb hg
structure Dz(base:Nat)(w W:World)(g:Nat)(l:List (Nat × Bs))(j:Nat):Prop where
 bl:Below base w W
 hb:base<=W.heap.size
 lt:g<W.heap.size
 th:W.there g 0 (37*l.length)
 lo:∀a (ha:a<(LF (l.take j)).length),Rw W g a ((LF (l.take j))[a])
 hi:∀b (hb:b<l.length),j<=b->Rw W g b (l[b])
theorem Dz.grow{base:Nat}{w W W':World}{g:Nat}{l:List (Nat × Bs)}{j:Nat}(h:Dz base w W g l j)(hb:Below W.heap.size W W'):Dz base w W' g l j:=
 ⟨h.bl.trans (hb.mono h.hb),Qn h.hb hb.size,PS h.lt hb.size,RG.dN h.th hb h.lt,fun a ha=>(h.lo a ha).below hb h.lt,fun b hb' hj=>(h.hi b hb' hj).below hb h.lt⟩
theorem Dz.skip{base:Nat}{w W:World}{g:Nat}{l:List (Nat × Bs)}{j:Nat}(h:Dz base w W g l j)(hj:j<l.length)(h0:(l[j]).1=0):Dz base w W g l (j+1):=by
 have e:LF (l.take (j+1))=LF (l.take j):=by rw[lQ hj,if_pos h0,SB]
 exact⟨h.bl,h.hb,h.lt,h.th,fun a ha=>by
  have h1:=h.lo a (by rw[<-e];exact ha);simp only[e];exact h1,fun b hb hj=>h.hi b hb (by omega)⟩
theorem Dz.put{base:Nat}{w W:World}{g:Nat}{l:List (Nat × Bs)}{j:Nat}(h:Dz base w W g l j)(hg:base<=g)(hs:∀x∈l.map (·.2),x.size=33)(hj:j<l.length)(h0:(l[j]).1≠0):
 Dz base w (W.setCells g (37*(LF (l.take j)).length) (wn (l[j]).1++aA (l[j]).2)) g l (j+1):=by
 have e:LF (l.take (j+1))=LF (l.take j)++[l[j]]:=by rw[lQ hj,if_neg h0]
 have hle:=KZ l j;have hsz:∀x∈l,(wn x.1++aA x.2).length=37:=fun x hx=>lD (hs x.2 (QZ.2 ⟨x,hx,rfl⟩))
 have hlen:=hsz (l[j]) (QI hj);refine⟨RG.below_setCells hg _ _ _ h.bl,by rw[RG.setCells_size];exact h.hb,by rw[RG.setCells_size];exact h.lt,TC h.th _ _ _,fun a ha=>?_,fun b hb hjb=>?_⟩
 ·simp only[e]at ha⊢;by_cases hlt:a<(LF (l.take j)).length
  ·rw[List.getElem_append_left hlt];have h1:=h.lo a hlt;have hm:(LF (l.take j))[a]∈l:=VV (xI (QI hlt));exact RV h1 g _ _ (Qc (Ql (by rw[hsz _ hm];omega)))
  ·have ha2:a=(LF (l.take j)).length:=by rw[PY,List.length_singleton]at ha;omega
   subst ha2;rw[List.getElem_append_right (PQ _)];simp only[Nat.sub_self,List.getElem_singleton];refine TJ W g _ _ fun t ht=>?_
   rw[hlen]at ht;have:=h.th (37*(LF (l.take j)).length+t) (by omega);rwa[PU]at this
 ·exact RV (h.hi b hb (by omega)) g _ _ (Qc (Qc (by rw[hlen];omega)))
theorem EX(n:Nat):∀v∈(Q9 (QD zT.toArray).cells n).toList,v.oneCell'=true:=by
 intro v hv;have hz:=E0;have hl:(QD zT.toArray).cells.size=37:=by kernel_rfl
 unfold Q9 at hv;rw[Array.toList_map]at hv;obtain⟨i,-,rfl⟩:=QZ.1 hv;have hi:i%(QD zT.toArray).cells.size<(QD zT.toArray).cells.size:=RN _ (by rw[hl];decide);rw[getElem!_pos (QD zT.toArray).cells _ hi];exact hz _ (by
  have e:(QD zT.toArray).cells.toList=zT:=by kernel_rfl
  have h2:=Array.getElem_mem_toList hi;rwa[e]at h2)
theorem JV(g i n c:Nat)(w:World)(hn:0<n)(h:w.there g 0 (37*(i+n))):∃Z:List Value,∀ty,(Uj #[98] ty #[.slice (some ⟨g,37*i,none⟩) n c]).run prog w=.ok (.tuple #[]) (w.setCells g (37*i) Z):=by
 have h1:=EY w;have h3:=run_underlying An w;have ho:=EX n;have hl:(Q9 (QD zT.toArray).cells n).toList.length=n*37:=by
  have:(QD zT.toArray).cells.size=37:=by kernel_rfl
  rw[P8,size_zeroCells,this]
 generalize (QD zT.toArray)=Zv at h1 ho hl;generalize hZ:(Q9 Zv.cells n).toList=Z at ho hl;have h4:(storeCells ⟨g,37*i,none⟩ Z).run prog w=.ok () (w.setCells g (37*i) Z):=
  run_storeCells_cells (P:=prog) g (37*i) Z 0 w (fun j hj=>by rw[hl]at hj;have:=(h (37*i+j) (by omega)).1;simpa using this) (fun j hj=>by rw[hl]at hj;have:=(h (37*i+j) (by omega)).2;simpa using this) ho
 refine⟨Z,fun ty=>?_⟩;obtain⟨n',rfl⟩:∃n',n=n'+1:=⟨n-1,by omega⟩
 unfold Uj;simp[Qi,h3,h1,hZ,h4]
theorem OO(g n c i:Nat)(hi:i<=n)(hn:n<=c)(w:World):(Re 98 (.slice (some ⟨g,0,none⟩) n c) none (some (.int .i64 i)) none).run prog w=.ok (.slice (some ⟨g,0,none⟩) i c) w:=by
 have h1:¬(i:Int)<0:=by omega
 have h2:(i:Int)<=(c:Int):=by omega
 go_simp
theorem ON(g n c i:Nat)(hi:i<n)(hn:n<=c)(w:World):(Re 98 (.slice (some ⟨g,0,none⟩) n c) (some (.int .i64 i)) none none).run prog w=.ok (.slice (some ⟨g,37*i,none⟩) (n-i) (c-i)) w:=by
 have h1:¬(i:Int)<0:=by omega
 have h2:(i:Int)<=(n:Int):=by omega
 have h3:(n:Int)<=(c:Int):=by omega
 go_simp;rw[if_neg (by omega),Qr]
def TmL(W:World)(q:Option Addr)(l:List (Nat × Bs)):Prop:=0<l.length->∃g,q=some ⟨g,0,none⟩/\g<W.heap.size/\∀j (hj:j<l.length),W.rangeAt g (37*j) (wn (l[j]).1++aA (l[j]).2)
def PM(base:Nat)(l:List (Nat × Bs))(w:World)(e:Value)(w':World):Prop:=Below base w w'/\∃q cap,e=.slice q (LF l).length cap/\TmL w' q (LF l)
theorem DL{l:List (Nat × Bs)}(h:∀x∈l,x.1≠0):LF l=l:=List.filter_eq_self.2 fun x hx=>by simpa using h x hx
theorem KY{l:List (Nat × Bs)}{i0:Nat}(hi:i0<l.length)(h0:(l[i0]).1=0):∀j,i0<j->j<=l.length->(LF (l.take j)).length<j
 | 0,h,_=>by omega
 | j+1,h,hj=>by
  rw[lQ (by omega),PY];rcases UB i0 j with h1|h1
  ·have:=KY hi h0 j h1 (by omega);split<;>simp<;>omega
  ·obtain rfl:j=i0:=by omega
   rw[if_pos h0];have:=KZ l j;simp;omega
theorem He(l:List (Nat × Bs))(hl0:0<l.length)(hlk:l.length<=1000)(hs:∀x∈l.map (·.2),x.size=33)(hn:∀x∈l,x.1<top)(base:Nat)(v:Value)(w:World)(hb:base<=w.heap.size)(ho:w.ownsRow base 164 37 v l.length (aV l)):
 Calls prog 136 #[v,.func (.func 137) #[] #[]] w (Ret (PM base l w)):=by
 obtain⟨g,c,rfl,hg1,hg2,hr⟩:=iP ho hs hl0;have hsz:∀(j:Nat) (hj:j<l.length),(l[j]).2.size=33:=fun j hj=>hs _ (QZ.2 ⟨_,QI hj,rfl⟩)
 have hcap:l.length<=c/\w.there g 0 (37*l.length):=by
  rcases ho.2 with⟨h,-⟩|⟨g2,cap2,cur,he,-,hc,hn',-,hs',-⟩
  ·cases h
  ·injection he with he1 he2 he3
   injection he1 with he1
   injection he1 with he1
   subst he1;subst he3;refine⟨hn',fun t ht=>?_⟩;have hlt:0+t<cur.size:=by
    rw[hs'];have:l.length*37<=c*37:=SH 37 hn';omega
   exact⟨by simp only[RU,hc];simp;omega,by simp[Ti,hc]⟩
 by_cases hall:∀x∈l,x.1≠0
 ·have eL:=DL hall;refine(pM g l.length c (by omega) (fun j=>((l[j]?).getD (0,#[])).1) (fun j=>((l[j]?).getD (0,#[])).2) (fun j hj=>by rw[P6 hj];exact hn _ (QI hj)) (fun j hj=>by rw[P6 hj];exact hall _ (QI hj)) (fun j hj=>by rw[P6 hj];exact hsz j hj) w hg2 (fun j hj=>by rw[P6 hj];exact hr j hj)).mono ?_;rintro e w9 ⟨vv,rfl,hb9,rfl⟩;refine⟨_,rfl,hb9.mono hb,some ⟨g,0,none⟩,c,by rw[eL],?_⟩;rw[eL];exact fun _=>⟨g,rfl,PS hg2 hb9.size,fun j hj=>RG.range_below (hr j hj) hb9 hg2⟩
 ·have hI:=wL g l.length c (by omega) (fun j=>((l[j]?).getD (0,#[])).1) (fun j=>((l[j]?).getD (0,#[])).2) (fun j hj=>by rw[P6 hj];exact hn _ (QI hj)) (fun j hj=>by rw[P6 hj];exact hsz j hj) w hg2 (fun j hj=>by rw[P6 hj];exact hr j hj);obtain⟨i0,e1,-,e3,e4,e5⟩:=pJ (ns:=fun j=>((l[j]?).getD (0,#[])).1) l.length 0 (by
   have:∃x,x∈l/\x.1=0:=Rc fun h=>hall fun x hx h0=>h ⟨x,hx,h0⟩
   obtain⟨x,hx,hx0⟩:=this;obtain⟨j,hj⟩:=RZ hx;exact⟨j,SJ _,by have:=(Qe.1 hj).1;omega,by show((l[j]?).getD (0,#[])).1=0;rw[hj];exact hx0⟩)
  rw[e1]at hI;have hi0:i0<l.length:=by omega
  have hz0:(l[i0]).1=0:=by
   have:((l[i0]?).getD (0,#[])).1=0:=e4;rw[P6 hi0]at this;exact this
  have hpre:LF (l.take i0)=l.take i0:=DL fun x hx=>by
   obtain⟨j,hj⟩:=RZ hx;rw[RA]at hj;split at hj
   ·rename_i hji
    have:=e5 j (SJ _) hji;have h6:((l[j]?).getD (0,#[])).1≠0:=this;rw[hj]at h6;exact h6
   ·cases hj
  have hlen0:(LF (l.take i0)).length=i0:=by rw[hpre,SL];omega
  have D0:Dz base w w g l i0:=⟨Qd _ _,hb,hg2,hcap.2,fun a ha=>by
   simp only[hpre]at ha⊢;rw[List.getElem_take];exact hr a _,fun b hb' _=>hr b hb'⟩
  have D1:Dz base w w g l (i0+1):=D0.skip hi0 hz0;have e6:(LF (l.take (i0+1))).length=i0:=by rw[lQ hi0,if_pos hz0,SB];exact hlen0
  have HI:=Hid.mk' hI;have HZ:Hid (∀j,i0<j->j<=l.length->(LF (l.take j)).length<j):=KY hi0 hz0;have HD1:=Hid.mk' D1;have HF:Hid (base<=g/\l.length<=c/\(∀x∈l.map (·.2),x.size=33)/\(∀x∈l,x.1<top)/\∀(j:Nat) (hj:j<l.length),(l[j]).2.size=33):=⟨hg1,hcap.1,hs,hn,hsz⟩
  obtain⟨d',hd3,hd4⟩:=PV.1 uT;have HD:Hid (prog.underlying 164=some d'/\d'.isRow=true):=⟨hd3,hd4⟩
  have hi1:¬((i0:Int) = -1):=by omega
  clear hd3 hd4 hI D0 D1 hs hn ho hr hsz hcap hall e1 e4 e5 hpre hlen0 hz0 hg1 hg2;go_enter Tryz.func136,Tryz.ntmps136;go_wp2_with fail
  refine HI.out.mono ?_;rintro e w1 ⟨vv,rfl,hb1,rfl⟩;have K1:Hid (Dz base w w1 g l (i0+1)):=HD1.out.grow hb1;clear hb1 HI HD1;go_wp2_with fail
  go_loopg [5,6] (l.length-(i0+1)) (fun m s5 s6 W=>∃j:Nat,i0<j/\j+m=l.length/\s6=.int .i64 j/\s5=.int .i64 ((LF (l.take j)).length:Int)/\Hid (Dz base w W g l j))
  case atStart=>exact⟨i0+1,by omega,by omega,rfl,by rw[e6],K1⟩
  case round =>
   clear K1;obtain⟨j,hij,hjk,rfl,rfl,KM⟩:=hrel;by_cases hj:j<l.length
   ·have hj':(j:Int)<(l.length:Int):=by omega
    obtain⟨n,hne⟩:∃n,Hid ((l[j]'hj).1=n):=⟨(l[j]'hj).1,(rfl:(l[j]'hj).1=(l[j]'hj).1)⟩
    obtain⟨p,hpe⟩:∃p,Hid ((l[j]'hj).2=p):=⟨(l[j]'hj).2,(rfl:(l[j]'hj).2=(l[j]'hj).2)⟩
    obtain⟨i,hie⟩:∃i,Hid ((LF (l.take j)).length=i):=⟨_,rfl⟩
    have hilt:i<l.length:=by have:=HZ.out j hij (by omega);rw[hie.out]at this;omega
    rw[hie.out];have hps:Hid (p.size=33):=by rw[<-hpe.out];exact HF.out.2.2.2.2 j hj
    have hnt:Hid (n<top):=by rw[<-hne.out];exact HF.out.2.2.2.1 _ (QI hj)
    have B0:Hid (wr.rangeAt g (37*j) (wn n++aA p)):=by
     have h:=KM.out.hi j hj (PQ _);unfold Rw at h;rw[hne.out,hpe.out]at h;exact h
    obtain⟨W1,hW1⟩:∃W1,Hid (wr.alloc (.cells zT.toArray 164)=W1):=⟨_,rfl⟩
    obtain⟨W2,hW2⟩:∃W2,Hid (W1.setCells wr.heap.size 0 (wn n++aA p)=W2):=⟨_,rfl⟩
    have hlen:(wn n++aA p).length=37:=lD hps.out;have F1:Hid (Row W1 wr.heap.size zT/\Below wr.heap.size wr W1/\W1.heap.size=wr.heap.size+1):=by rw[<-hW1.out];exact⟨aM wr _ _,aE wr _,Qa _ _⟩
    have F2:Hid (Row W2 wr.heap.size (wn n++aA p)/\Below wr.heap.size wr W2):=by rw[<-hW2.out];exact⟨F1.out.1.put (by rw[hlen];rfl),RG.below_setCells (PQ _) _ _ _ F1.out.2.1⟩
    have HLT:Hid ((prog.info? 164).map (·.size)=some (wn n++aA p).length):=by show _=_;rw[hlen];exact iT
    have HLS:Hid ((prog.info? 164).map (·.size)=some (wn n++aA p).toArray.size/\W1.there wr.heap.size 0 (wn n++aA p).toArray.size):=by
     have e:(wn n++aA p).toArray.size=37:=by rw[QB];exact hlen
     rw[e];exact⟨iT,F1.out.1.2.2⟩
    have HAL:Hid ((wn n++aA p).toArray.all (·.oneCell')=true):=by
     show _=_;rw[Si];intro u hu;exact cells_one n p u (Tz.1 hu)
    have hix:=atT g 0 l.length c j hj;obtain⟨vt,hvt⟩:∃v,Hid (tvl n p=v):=⟨_,rfl⟩
    have hvt':Hid (QD (wn n++aA p).toArray=vt):=hvt;have K2:Hid (Dz base w W2 g l j):=KM.out.grow F2.out.2;have HN:=Hid.mk' (Gu hnt.out hps.out W2);rw[hvt.out]at HN;clear KM;go_wp2_with (first|(refine wpList_load_mid rfl 164 _ rfl g (37*j) ?_ (wn n++aA p) d' ?_ ?_ ?_ ?_ ?_;rfl;exact B0.out;exact HD.out.1;exact HD.out.2;exact HLT.out;rw[hvt'.out])|(refine aQ (v:=.pointer (some ⟨wr.heap.size,0,none⟩)) (w':=W1) rfl (.alloc 164) rfl ?_ ?_;(rw[<-hW1.out];kernel_rfl))|(refine wpList_store_mid rfl 164 _ _ rfl wr.heap.size 0 (wn n++aA p).toArray ?_ ?_ ?_ ?_ ?_ ?_;rfl;exact hvt'.out.symm;exact HLS.out.2;exact HLS.out.1;exact HAL.out;rw[show(wn n++aA p).toArray.toList=wn n++aA p from rfl,hW2.out])|(refine wpList_load_mid rfl 164 _ rfl wr.heap.size 0 ?_ (wn n++aA p) d' ?_ ?_ ?_ ?_ ?_;rfl;exact F2.out.1.2.1;exact HD.out.1;exact HD.out.2;exact HLT.out;rw[hvt'.out])|fail)
    refine HN.out.mono ?_;rintro e W3 ⟨vv,rfl,hb3,rfl⟩;have K3:Hid (Dz base w W3 g l j/\Row W3 wr.heap.size (wn n++aA p)):=⟨K2.out.grow hb3,F2.out.1.below hb3⟩
    clear hb3 K2 HN F2 F1;by_cases h0:n=0
    ·rw[show decide (n=0)=true by simp[h0]];have K4:Hid (Dz base w W3 g l (j+1)):=K3.out.1.skip hj (by rw[hne.out];exact h0);have e4:Hid ((LF (l.take (j+1))).length=i):=by
      show _=_;rw[lQ hj,if_pos (by rw[hne.out];exact h0),SB];exact hie.out
     go_wp2;go_roundg (gk-1)
     case measure=>omega
     case rel=>exact⟨j+1,by omega,by omega,rfl,by rw[e4.out],K4⟩
    ·rw[show decide (n=0)=false by simp[h0]];obtain⟨W4,hW4⟩:∃W4,Hid (W3.setCells g (37*i) (wn n++aA p)=W4):=⟨_,rfl⟩
     have K4:Hid (Dz base w W4 g l (j+1)):=by
      have h:=K3.out.1.put HF.out.1 HF.out.2.2.1 hj (by rw[hne.out];exact h0);rw[hie.out,hne.out,hpe.out,hW4.out]at h;exact h
     have e4:Hid ((LF (l.take (j+1))).length=i+1):=by
      show _=_;rw[lQ hj,if_neg (by rw[hne.out];exact h0),PY,hie.out];rfl
     have HTH:Hid (W3.there g (37*i) (wn n++aA p).toArray.size):=by
      have e:(wn n++aA p).toArray.size=37:=by rw[QB];exact hlen
      rw[e];intro t ht;have:=K3.out.1.th (37*i+t) (by omega);rwa[PU]at this
     have hix2:=atT g 0 l.length c i hilt;go_wp2_with (first|(refine wpList_load_mid rfl 164 _ rfl wr.heap.size 0 ?_ (wn n++aA p) d' ?_ ?_ ?_ ?_ ?_;rfl;exact K3.out.2.2.1;exact HD.out.1;exact HD.out.2;exact HLT.out;rw[hvt'.out])|(refine wpList_store_mid rfl 164 _ _ rfl g (37*i) (wn n++aA p).toArray ?_ ?_ ?_ ?_ ?_ ?_;rfl;exact hvt'.out.symm;exact HTH.out;exact HLS.out.1;exact HAL.out;rw[show(wn n++aA p).toArray.toList=wn n++aA p from rfl,hW4.out])|fail)
     go_roundg (gk-1)
     case measure=>omega
     case rel=>exact⟨j+1,by omega,by omega,rfl,by rw[e4.out];rfl,K4⟩
   ·have hj':¬(j:Int)<(l.length:Int):=by omega
    obtain rfl:j=l.length:=by omega
    have eL:LF (l.take l.length)=LF l:=by rw[U6]
    rw[eL];have hilt:(LF l).length<l.length:=by have:=HZ.out l.length hij (PQ _);rw[eL]at this;exact this
    have hlo:∀a (ha:a<(LF l).length),Rw wr g a ((LF l)[a]):=fun a ha=>by
     have:=KM.out.lo a (by rw[eL];exact ha);simp only[eL]at this;exact this
    have hszL:∀x∈LF l,(wn x.1++aA x.2).length=37:=fun x hx=>lD (HF.out.2.2.1 _ (QZ.2 ⟨x,xI hx,rfl⟩))
    obtain⟨Z,hZ⟩:=JV g (LF l).length (l.length-(LF l).length) (c-(LF l).length) wr (by omega) (by rw[show(LF l).length+(l.length-(LF l).length)=l.length by omega];exact KM.out.th);obtain⟨W5,hW5⟩:∃W5,Hid (wr.setCells g (37*(LF l).length) Z=W5):=⟨_,rfl⟩
    rw[hW5.out]at hZ;have K5:Hid (Below base w W5/\TmL W5 (some ⟨g,0,none⟩) (LF l)):=by
     rw[<-hW5.out];refine⟨RG.below_setCells HF.out.1 _ _ _ KM.out.bl,fun _=>⟨g,rfl,by rw[RG.setCells_size];exact KM.out.lt,fun a ha=>?_⟩⟩;exact RV (hlo a ha) g _ _ (Qc (Ql (by rw[hszL _ (QI ha)];omega)))
    have hs1:=ON g l.length c (LF l).length hilt HF.out.2.1;have hs2:=OO g l.length c (LF l).length (by omega) HF.out.2.1;clear KM hlo hszL eL hW5;obtain⟨i,hie⟩:∃i,Hid ((LF l).length=i):=⟨_,rfl⟩
    rw[hie.out]at hs1 hs2 hZ hilt⊢;go_wp2;go_ret;exact⟨_,rfl,K5.out.1,some ⟨g,0,none⟩,c,by rw[hie.out];rfl,K5.out.2⟩
theorem Ni{p:Option Addr}{n c:Nat}{x:UInt8}:encB x≠.slice p n c:=fun h=>by cases h
def El(n:Nat)(W:World)(x:Value)(b:Bs):Prop:=∃k c,x=.slice (some ⟨k,0,none⟩) n c/\n<=c/\b.size=n/\k<W.heap.size/\Holds encB W k 0 b
def isL(n:Nat)(W:World)(g:Nat):Prop:=∃p c,W.cell? ⟨g,0,none⟩=some (.slice p n c)
structure Gr(n:Nat)(v:Value)(W W':World):Prop where
 gr:W.grownBy W' v.ownBlock
 is:∀g,v.ownBlock=some g->isL n W g
theorem Gr.of{W W':World}{n:Nat}(h:Below W.heap.size W W'):Gr n (.slice none 0 0) W W':=
 ⟨⟨h.os,h.tape,h.output,h.size,fun k hk _=>h.block k hk⟩,fun g hg=>by cases hg⟩
theorem Gr.below{n:Nat}{v:Value}{w W W':World}{B:Nat}(h:Gr n v W W')(hb:Below B w W)(hB:B<=W.heap.size)(hv:∀g,v.ownBlock=some g->B<=g):Below B w W':=
 hb.grown h.gr hB (fun k hk=>hv k hk)
theorem Gr.block{n k:Nat}{v:Value}{W W':World}(h:Gr n v W W')(hk:k<W.heap.size)(hne:∀p c,W.cell? ⟨k,0,none⟩≠some (.slice p n c)):W'.heap[k]? = W.heap[k]? :=
 h.gr.block k hk fun e=>by
  obtain⟨p,c,hc⟩:=h.is k e.symm;exact hne p c hc
theorem Holds.kept{W W':World}{k:Nat}{b:Bs}(h:Holds encB W k 0 b)(e:W'.heap[k]? = W.heap[k]?):Holds encB W' k 0 b:=fun j hj=>by
 rw[Qt (a:=⟨k,0+j,none⟩) e,Ro (a:=⟨k,0+j,none⟩) e];exact h j hj
theorem El.kept{m n:Nat}{v x:Value}{W W':World}{b:Bs}(h:El m W x b)(hm:0<m)(hg:Gr n v W W'):El m W' x b:=by
 obtain⟨k,c,rfl,h1,h2,h3,h4⟩:=h;refine⟨k,c,rfl,h1,h2,PS h3 hg.gr.size,Holds.kept h4 (hg.block h3 fun p c' hc=>?_)⟩;have:=(h4 0 (by omega)).1;rw[PU,hc]at this;exact Ni (Qh.inj this).symm
theorem Row.kept{n k:Nat}{v:Value}{W W':World}{vs:List Value}(h:Row W k vs)(hg:Gr n v W W')(hne:∀p c,vs[0]?≠some (.slice p n c))(hl:0<vs.length):Row W' k vs:=by
 have e:=hg.block h.1 fun p c hc=>by
  have h0:=h.2.1 0 vs[0] (P6 hl);rw[PU,hc]at h0;exact hne p c (by rw[P6 hl,h0])
 refine⟨PS h.1 hg.gr.size,fun j u hj=>?_,fun j hj=>?_⟩
 ·rw[Qt (a:=⟨k,0+j,none⟩) e];exact h.2.1 j u hj
 ·rw[Qt (a:=⟨k,0+j,none⟩) e,Ro (a:=⟨k,0+j,none⟩) e];exact h.2.2 j hj
structure Lo(n base:Nat)(W:World)(v:Value)(bs:List Bs):Prop where
 ex:∃xs:List Value,xs.length=bs.length/\W.ownsRow base 28 1 v bs.length xs/\∀(j:Nat) (x:Value) (b:Bs),xs[j]? = some x->bs[j]? = some b->El n W x b
 nil:bs=[]->v=.slice none 0 0
theorem Lo.begin(n base:Nat)(W:World):Lo n base W (.slice none 0 0) []:=⟨⟨[],rfl,UU _ _ _ _,fun j x b h=>by cases h⟩,fun _=>rfl⟩
theorem add0(g j:Nat):(⟨g,0,none⟩:Addr).add j=⟨g,j,none⟩:=by unfold Addr.add;split<;>simp_all
theorem Lo.isL{n base:Nat}{W:World}{v:Value}{bs:List Bs}(h:Lo n base W v bs){g:Nat}(hg:v.ownBlock=some g):isL n W g:=by
 obtain⟨xs,h1,h2,h3⟩:=h.ex;have hne:bs≠[]:=fun e=>by rw[h.nil e]at hg;cases hg
 cases bs with
 | nil=>exact absurd rfl hne
 | cons b r =>
  cases xs with
  | nil=>cases h1
  | cons x xr =>
   obtain⟨k,c,rfl,-⟩:=h3 0 x b rfl rfl;have:=h2.cells hg 0 _ rfl;rw[add0]at this;exact⟨_,_,this⟩
theorem Lo.lt{n base:Nat}{W:World}{v:Value}{bs:List Bs}(h:Lo n base W v bs):∀g,v.ownBlock=some g->base<=g/\g<W.heap.size:=by
 obtain⟨xs,h1,h2,h3⟩:=h.ex;exact h2.lt
theorem Lo.kept{m n base:Nat}{W W':World}{v v':Value}{bs:List Bs}(h:Lo m base W v bs)(hm:0<m)(hg:Gr n v' W W')(hne:m≠n):Lo m base W' v bs:=by
 have hL:=fun {g}=>h.isL (g:=g)
 obtain⟨xs,h1,h2,h3⟩:=h.ex;refine⟨⟨xs,h1,h2.kept hg.gr ?_,fun j x b hx hb=>(h3 j x b hx hb).kept hm hg⟩,h.nil⟩;cases hv:v.ownBlock with
 | none=>exact Ql rfl
 | some g =>
  refine Qc fun e=>hne ?_
  obtain⟨p,c,hc⟩:=hL hv;obtain⟨p',c',hc'⟩:=hg.is g e.symm;rw[hc]at hc';injection hc' with hc'
  injection hc' with _ h5 _
theorem NR:(prog.info? 28).map (fun i=>(i.size,i.bytes,i.zero.map fun z=>z.cells.size))=some (1,24,some 1):=by kernel_rfl
theorem OH:prog.underlying 23=some (.slice 28):=by kernel_rfl
theorem Lo.app{n base g:Nat}{W:World}{v x:Value}{bs:List Bs}{b:Bs}(h:Lo n base W v bs)(hn:0<n)(hx:El n W x b)(hc:W.cell? ⟨g,0,none⟩=some x)(hk:bs.length<=1000000)(hb:base<=W.heap.size):
 ∃v' W',(QS #[23,23] 23 #[v,.slice (some ⟨g,0,none⟩) 1 1]).run prog W=.ok v' W'/\Lo n base W' v' (bs++[b])/\Gr n v W W':=by
 obtain⟨i,hi,he⟩:=PV.1 NR;simp only[Rz.injEq]at he;obtain⟨h1,h2,h3⟩:=he;obtain⟨z,hz,hz2⟩:=PV.1 h3;obtain⟨xs,x1,x2,x3⟩:=h.ex;obtain⟨v',W',r1,r2,r3,r4⟩:=run_append_own (P:=prog) W base 23 23 28 i z 1 24 OH hi hz h1 h2 hz2 (by decide) v bs.length xs x2 ⟨g,0,none⟩ 1 1 [x] rfl
  (fun j u hj=>by
   cases j with
   | zero =>
    obtain rfl:x=u:=by simpa using hj
    rw[add0];exact hc
   | succ j=>simp at hj) (fun u hu=>by
   obtain rfl:u=x:=by simpa using hu
   obtain⟨k,c,rfl,-⟩:=hx;rfl) (by unfold maxLen;omega) (by omega) hb
 have G:Gr n v W W':=⟨r3,fun g hg=>h.isL hg⟩
 refine⟨v',W',r1,⟨⟨xs++[x],by simp[x1],by rw[PY];exact r2,fun j y c hy hcy=>?_⟩,fun e=>by simp at e⟩,G⟩;by_cases hj:j<bs.length
 ·rw[QL (by omega)]at hy hcy;exact(x3 j y c hy hcy).kept hn G
 ·rw[List.getElem?_append_right (by omega)]at hy hcy;rw[x1]at hy;cases hjj:j-bs.length with
  | zero =>
   rw[hjj]at hy hcy;obtain rfl:x=y:=by simpa using hy
   obtain rfl:b=c:=by simpa using hcy
   exact hx.kept hn G
  | succ d=>rw[hjj]at hy;simp at hy
theorem Ej{a:Bs}(ha:a.size=33)(w:World):Calls prog 91 #[pvl a] w (Ret fun e w'=>Below w.heap.size w w'/\El 33 w' e a):=by
 have B1:=Hid.mk' (zY ha w);obtain⟨w1,hw1⟩:∃w1,Hid (w.alloc (.cells (aA a).toArray 51)=w1):=⟨_,rfl⟩
 rw[hw1.out]at B1;have K:Hid (Row w1 w.heap.size (aA a)/\Below w.heap.size w w1):=by rw[<-hw1.out];exact⟨aM w _ _,aE w _⟩
 obtain⟨va,hva⟩:∃v,Hid (pvl a=v):=⟨_,rfl⟩
 have B1':Hid ((Ug 51 va).run prog w=.ok (.pointer (some ⟨w.heap.size,0,none⟩)) w1):=by rw[<-hva.out];exact B1
 rw[hva.out];have hs:=Lp w.heap.size;clear B1 hw1;go_enter Tryz.func91,Tryz.ntmps91;go_wp2_with (first|(refine cR (u:=va) (v:=.pointer (some ⟨w.heap.size,0,none⟩)) (w':=w1) rfl 51 (.tmp 0) rfl ?_ ?_ ?_;rfl;exact B1'.out))
 go_ret;exact⟨_,rfl,K.out.2,w.heap.size,33,rfl,by omega,ha,K.out.1.1,row_holds K.out.1⟩
end
section
open Go.RowKit Go.Sort Go.Deep
variable {P:Nat}[NeZero P]{N:Nat}
def Bo(n B0:Nat)(W:World)(v:Value)(b:Bs):Prop:=∃k x,v=.slice (some ⟨k,0,none⟩) 1 1/\B0<=k/\k<W.heap.size/\W.cell? ⟨k,0,none⟩=some x/\El n W x b
theorem Bo.kept{m n B0:Nat}{W W':World}{v u:Value}{b:Bs}(h:Bo n B0 W v b)(hn:0<n)(hg:Gr m u W W')(hu:∀g,u.ownBlock=some g->g<B0):Bo n B0 W' v b:=by
 obtain⟨k,x,rfl,h1,h2,h3,h4⟩:=h;refine⟨k,x,rfl,h1,PS h2 hg.gr.size,?_,h4.kept hn hg⟩;rw[Qt (a:=⟨k,0,none⟩) (hg.gr.block k h2 fun e=>by have:=hu k e.symm;omega)];exact h3
def Tm(W:World)(q:Option Addr)(k:Nat)(ns:Nat->Nat)(az:Nat->Bs):Prop:=0<k->∃g,q=some ⟨g,0,none⟩/\g<W.heap.size/\∀j,j<k->W.rangeAt g (37*j) (wn (ns j)++aA (az j))
theorem Tm.kept{m k:Nat}{W W':World}{u:Value}{q:Option Addr}{ns:Nat->Nat}{az:Nat->Bs}(h:Tm W q k ns az)(hg:Gr m u W W'):Tm W' q k ns az:=fun hk=>by
 obtain⟨g,h1,h2,h3⟩:=h hk;refine⟨g,h1,PS h2 hg.gr.size,fun j hj i v hv=>?_⟩;have e:=hg.block h2 fun p c hc=>by
  have h0:=h3 0 hk 0 _ (show(wn (ns 0)++aA (az 0))[0]? = some _ from rfl);rw[show 37*0+0=0 from rfl,hc]at h0;cases h0
 rw[Qt (a:=⟨g,37*j+i,none⟩) e];exact h3 j hj i v hv
section
variable (w0:World) (v3 v4:Value) (k6 n B0 base:Nat) (p:Bs) (bs cs:List Bs) (q:Option Addr) (k:Nat) (ns:Nat->Nat) (az:Nat->Bs)
def PR:Nat->Value->World->Prop
 | 0,v,_=>v=v3
 | 1,v,_=>v=.pointer (some ⟨k6,0,none⟩)
 | 2,v,_=>v=nv n
 | 3,v,w=>El 32 w v (bx n)
 | 4,v,w=>Bo 32 B0 w v (bx n)
 | 5,v,w=>Lo 32 base w v (bs++[bx n])
 | 6,v,_=>v=v4
 | 7,v,_=>v=.pointer (some ⟨k6,4,none⟩)
 | 8,v,_=>v=pvl p
 | 9,v,w=>El 33 w v p
 | 10,v,w=>Bo 33 B0 w v p
 | 11,v,w=>Lo 33 base w v (cs++[p])
 | 12,v,w=>Lo 32 base w v (bs++[bx n])
 | 13,v,w=>Lo 33 base w v (cs++[p])
 | _,_,_=>True
def PBs:Nat->World->Prop
 | 0,w=>Row w k6 (wn n++aA p)
 | 1,w=>Lo 32 base w v3 bs
 | 2,w=>Lo 33 base w v4 cs
 | 3,w=>Below base w0 w/\base<=w.heap.size/\B0<=w.heap.size
 | 4,w=>Tm w q k ns az
 | 5,w=>Row w base z33
 | _,_=>True
def PE:Nat->World->World->Prop
 | 5=>Gr 32 v3
 | 11=>Gr 33 v4
 | _=>Gr 0 (.slice none 0 0)
def Pk1:Nat->List Nat
 | 4=>[5]
 | 10=>[11]
 | _=>[]
def Pk2:Nat->List Nat
 | 1=>[5]
 | 2=>[11]
 | _=>[]
def FP:RG.Flow:=⟨PR v3 v4 k6 n B0 base p bs cs,PBs w0 v3 v4 k6 n B0 base p bs cs q k ns az,PE v3 v4,Pk1,Pk2⟩
theorem Il{i:Nat}{w w':World}(h:PE v3 v4 i w w'):∃m u,Gr m u w w'/\((i=5/\m=32/\u=v3)\/(i=11/\m=33/\u=v4)\/(i≠5/\i≠11/\m=0/\u=.slice none 0 0)):=by
 unfold PE at h;split at h
 ·exact⟨_,_,h,Ql ⟨rfl,rfl,rfl⟩⟩
 ·exact⟨_,_,h,Qc (Ql ⟨rfl,rfl,rfl⟩)⟩
 ·rename_i h1 h2
  exact⟨_,_,h,Qc (Qc ⟨h1,h2,rfl,rfl⟩)⟩
variable (hv3:∀g,v3.ownBlock=some g->base<=g/\g<B0) (hv4:∀g,v4.ownBlock=some g->base<=g/\g<B0)
include hv3 hv4
theorem Ik{i m:Nat}{u:Value}(h:(i=5/\m=32/\u=v3)\/(i=11/\m=33/\u=v4)\/(i≠5/\i≠11/\m=0/\u=.slice none 0 0)):∀g,u.ownBlock=some g->base<=g/\g<B0:=by
 rcases h with⟨-,-,rfl⟩|⟨-,-,rfl⟩|⟨-,-,-,rfl⟩
 ·exact hv3
 ·exact hv4
 ·intro g hg;cases hg
theorem MU(i j:Nat)(hj:j<14)(hij:i≠j)(hk:(Pk1 j).contains i=false)(h1:¬(j=12/\i=5))(h2:¬(j=13/\i=11))(v:Value)(w w':World)(hE:PE v3 v4 i w w')(hR:PR v3 v4 k6 n B0 base p bs cs j v w):PR v3 v4 k6 n B0 base p bs cs j v w':=by
 obtain⟨m,u,hg,hc⟩:=Il v3 v4 hE;have hu:=Ik v3 v4 B0 base hv3 hv4 hc;have m32:m=32->i=5:=fun h=>by rcases hc with⟨h1,-⟩|⟨-,h2,-⟩|⟨-,-,h2,-⟩<;>omega
 have m33:m=33->i=11:=fun h=>by rcases hc with⟨-,h2,-⟩|⟨h1,-⟩|⟨-,-,h2,-⟩<;>omega
 match j,hj,hR with
 | 0,_,h=>exact h
 | 1,_,h=>exact h
 | 2,_,h=>exact h
 | 3,_,h=>exact El.kept h (by decide) hg
 | 4,_,h=>exact Bo.kept h (by decide) hg fun g hgg=>(hu g hgg).2
 | 5,_,h=>exact Lo.kept h (by decide) hg fun e=>hij (m32 e.symm)
 | 6,_,h=>exact h
 | 7,_,h=>exact h
 | 8,_,h=>exact h
 | 9,_,h=>exact El.kept h (by decide) hg
 | 10,_,h=>exact Bo.kept h (by decide) hg fun g hgg=>(hu g hgg).2
 | 11,_,h=>exact Lo.kept h (by decide) hg fun e=>hij (m33 e.symm)
 | 12,_,h=>exact Lo.kept h (by decide) hg fun e=>h1 ⟨rfl,m32 e.symm⟩
 | 13,_,h=>exact Lo.kept h (by decide) hg fun e=>h2 ⟨rfl,m33 e.symm⟩
 | _+14,hj,_=>omega
theorem Ke(i b:Nat)(hk:(Pk2 b).contains i=false)(w w':World)(hE:PE v3 v4 i w w')(hR:PBs w0 v3 v4 k6 n B0 base p bs cs q k ns az b w):PBs w0 v3 v4 k6 n B0 base p bs cs q k ns az b w':=by
 obtain⟨m,u,hg,hc⟩:=Il v3 v4 hE;have hu:=Ik v3 v4 B0 base hv3 hv4 hc;have m32:m=32->i=5:=fun h=>by rcases hc with⟨h1,-⟩|⟨-,h2,-⟩|⟨-,-,h2,-⟩<;>omega
 have m33:m=33->i=11:=fun h=>by rcases hc with⟨-,h2,-⟩|⟨h1,-⟩|⟨-,-,h2,-⟩<;>omega
 match b,hk,hR with
 | 0,_,h=>exact Row.kept h hg (fun p c e=>by cases e) (by rw[PY];exact PS (by decide) (Nat.le_add_right 4 _))
 | 1,hk,h=>exact Lo.kept h (by decide) hg fun e=>by rw[m32 e.symm]at hk;cases hk
 | 2,hk,h=>exact Lo.kept h (by decide) hg fun e=>by rw[m33 e.symm]at hk;cases hk
 | 3,_,h=>exact⟨hg.below h.1 h.2.1 fun g hgg=>(hu g hgg).1,Qn h.2.1 hg.gr.size,Qn h.2.2 hg.gr.size⟩
 | 4,_,h=>exact Tm.kept h hg
 | 5,_,h=>exact Row.kept h hg (fun p c e=>by cases e) (by decide)
 | _+6,_,_=>trivial
end
end
section
open Go.RowKit Go.Sort Go.Deep
variable {P:Nat}[NeZero P]{N:Nat}
theorem Lo.drew{n base:Nat}{W:World}{v:Value}{bs:List Bs}(h:Lo n base W v bs):Lo n base W.drew v bs:=⟨h.ex,h.nil⟩
theorem SumR.all(C:Fld P)(O:Ord N){w w':World}{k:Nat}(hk:k<=512){ns:Nat->Nat}{X:Nat->EC.Pt P}(hn:∀j,j<k->ns j<N)(hX:∀j,j<k->EC.On (X j)){L M:Nat->Bs}(hL:∀j,j<k->L j=bx (ns j))(hM:∀j,j<k->M j=wr (X j)){e:Value}(h:SumR P N w k k L M e w'):
 Cd w (wr (EC.tot X k (fun j=>(ns j:Int)))) e w':=by
 have hq:∀j,j<k->rq N (L j)=some (ns j):=fun j hj=>by
  rw[hL j hj];have hb:beV (bx (ns j)).toList=ns j:=wX (PS (hn j hj) O.le);unfold rq;rw[if_pos ⟨cN _,by rw[hb];exact hn j hj⟩,hb]
 have hr:∀j,j<k->∃p,rd P (M j)=some p/\pt p=X j:=fun j hj=>by rw[hM j hj];exact rC C (hX j hj)
 rcases h with⟨h,-⟩|⟨-,h,-⟩|⟨-,-,⟨⟨j,hj,hn'⟩,-⟩|⟨ns',hns,⟨⟨j,hj,hn'⟩,-⟩|⟨xs,ys,hxy,h⟩⟩⟩
 ·exact absurd rfl h
 ·omega
 ·rw[hq j hj]at hn';cases hn'
 ·obtain⟨p,hp,-⟩:=hr j hj;rw[hp]at hn';cases hn'
 ·have e1:∀j,j<k->ns' j=ns j:=fun j hj=>by
   have:=hns j hj;rw[hq j hj]at this;exact(Qh.inj this).symm
  have hp:∀j,j<k->EC.Pair (xs j) (ys j) (X j)/\EC.On (X j):=fun j hj=>by
   obtain⟨p,hp,hpt⟩:=hr j hj;have h1:=hxy j hj;rw[hp]at h1;have h2:=Qh.inj h1;have h3:=CE C hp;rw[hpt]at h3;rw[h2]at h3;exact h3
  have hJ:=xU C (ns:=ns') (xs:=xs) (ys:=ys) (p:=X) (N:=k) (fun i hi=>by rw[e1 i hi];exact PS (hn i hi) O.le) (fun i hi=>(hp i hi).1) (fun i hi=>(hp i hi).2);have e2:EC.tot X k (fun j=>(ns' j:Int))=EC.tot X k (fun j=>(ns j:Int)):=EC.dM k fun j hj=>by rw[e1 j hj]
  rw[e2]at hJ;rw[<-wW C (hJ.pair C) hJ.2];exact h
structure Pz(w W:World)(q:Option Addr)(k i:Nat)(ns:Nat->Nat)(az:Nat->Bs)(s3 s4:Value):Prop where
 bl:Below w.heap.size w W
 l3:Lo 32 w.heap.size W s3 ((QJ i).map fun j=>bx (ns j))
 l4:Lo 33 w.heap.size W s4 ((QJ i).map az)
 tm:Tm W q k ns az
 r2:Row W w.heap.size z33
theorem El.of_made{w w':World}{k n:Nat}{b:Bs}(h:RG.Made w k (cb b) w')(hb:b.size=n):El n w' (.slice (some ⟨k,0,none⟩) n n) b:=⟨k,n,rfl,PQ _,hb,h.lt,cb_holds h.range h.there⟩
theorem Bo.of{n B0:Nat}{w:World}{x:Value}{b:Bs}(h:El n w x b)(hn:0<n)(hB:B0<=w.heap.size)(T:TypeId):Bo n B0 (w.alloc (.cells #[x] T)) (.slice (some ⟨w.heap.size,0,none⟩) 1 1) b:=
 ⟨w.heap.size,x,rfl,hB,by rw[Qa];omega,by rw[World.cell?_alloc_new];rfl,h.kept hn (Gr.of (n:=0) (aE w _))⟩
theorem Lo.args{n base:Nat}{W:World}{v:Value}{bs:List Bs}(h:Lo n base W v bs):∃q cap,v=.slice q bs.length cap/\(0<bs.length->∃g,q=some ⟨g,0,none⟩/\g<W.heap.size/\∀(j:Nat) (b:Bs),bs[j]? = some b->∃x,W.cell? ⟨g,j,none⟩=some x/\El n W x b):=by
 obtain⟨xs,h1,h2,h3⟩:=h.ex;have h4:=fun {g:Nat}=>h2.cells (g:=g)
 rcases h2.2 with⟨rfl,h0⟩|⟨g,cap,cur,rfl,-,hc,-⟩
 ·exact⟨none,0,by rw[h0],fun h=>by omega⟩
 ·refine⟨_,_,rfl,fun _=>⟨g,rfl,(Qg.1 hc).1,fun j b hb=>?_⟩⟩;have hj:j<xs.length:=by rw[h1];exact(Qe.1 hb).1
  have:=h4 (g:=g) rfl j xs[j] (P6 hj);rw[add0]at this;exact⟨_,this,h3 j _ b (P6 hj) hb⟩
theorem El.arg{W:World}{x:Value}{b:Bs}(h:El 32 W x b):Arg W x b:=by
 obtain⟨k,c,rfl,h1,h2,h3,h4⟩:=h;exact⟨_,_,_,rfl,h2,fun _=>⟨k,0,rfl,h1,h3,h4⟩⟩
theorem El.arg33{W:World}{x:Value}{b:Bs}(h:El 33 W x b):Arg33 W x b:=by
 obtain⟨k,c,rfl,h1,h2,h3,h4⟩:=h;exact⟨_,_,_,rfl,h2,fun _=>⟨k,0,rfl,h1,h3,h4⟩⟩
theorem iY(C:Fld P)(O:Ord N)(v:Value)(w:World)(k:Nat)(hk:k<=512)(ns:Nat->Nat)(X:Nat->EC.Pt P)(hn:∀j,j<k->ns j<N)(hX:∀j,j<k->EC.On (X j))
 (hmer:∀W,Below w.heap.size w W->Calls prog 90 #[v] W (Ret fun e w'=>Below W.heap.size W w'/\∃q cap,e=.slice q k cap/\Tm w' q k ns (fun j=>wr (X j)))) :
 Calls prog 48 #[v] w (Ret fun e w'=>Below w.heap.size w w'/\e=pvl (wr (EC.tot X k (fun j=>(ns j:Int))))):=by
 have HM:=Hid.mk' hmer;have HC:Hid (Fld P/\Ord N/\(∀j,j<k->ns j<N)/\∀j,j<k->EC.On (X j)):=⟨C,O,hn,hX⟩
 obtain⟨az,haz⟩:∃az:Nat->Bs,Hid ((fun j=>wr (X j))=az):=⟨_,rfl⟩
 have haz':Hid (∀j,az j=wr (X j)):=fun j=>by rw[<-haz.out]
 rw[haz.out]at HM;obtain⟨w1,hw1⟩:∃w1,Hid (w.alloc (.cells z33.toArray 51)=w1):=⟨_,rfl⟩
 have K1:Hid (Row w1 w.heap.size z33/\Below w.heap.size w w1):=by rw[<-hw1.out];exact⟨aM w _ _,aE w _⟩
 obtain⟨d,hd1,hd2⟩:=PV.1 uCP;obtain⟨d',hd3,hd4⟩:=PV.1 uT;have HD:Hid ((prog.underlying 51=some d/\d.isRow=true)/\prog.underlying 164=some d'/\d'.isRow=true):=⟨⟨hd1,hd2⟩,hd3,hd4⟩
 clear hd1 hd2 hd3 hd4 hmer hn hX haz C O;go_enter Tryz.func48,Tryz.ntmps48;go_wp2_with (refine aQ (v:=.pointer (some ⟨w.heap.size,0,none⟩)) (w':=w1) rfl (.alloc 51) rfl ?_ ?_;(rw[<-hw1.out];kernel_rfl))
 clear hw1;refine(HM.out w1 K1.out.2).mono ?_;rintro e w2 ⟨vv,rfl,hb2,q,cap,rfl,hT⟩;have K2:Hid (Pz w w2 q k 0 ns az (.slice none 0 0) (.slice none 0 0)):=⟨K1.out.2.trans (hb2.mono K1.out.2.size),Lo.begin _ _ _,Lo.begin _ _ _,hT,K1.out.1.below hb2⟩
 clear hb2 hT K1 HM;go_wp2_with fail
 go_loopg [3,4,12] k (fun m s3 s4 s12 W=>∃i:Nat,i+m=k/\s12=.int .i64 i/\Hid (Pz w W q k i ns az s3 s4))
 case atStart=>exact⟨0,by omega,rfl,K2⟩
 case round =>
  clear K2;obtain⟨i,hik,rfl,KM⟩:=hrel;by_cases hi:i<k
  ·have hi':(i:Int)<(k:Int):=by omega
   obtain⟨g,hq,hg,hr⟩:=KM.out.tm (by omega);subst hq;obtain⟨n,hne⟩:∃n,Hid (ns i=n):=⟨_,rfl⟩
   obtain⟨p,hpe⟩:∃p,Hid (az i=p):=⟨_,rfl⟩
   have B0:Hid (wr.rangeAt g (37*i) (wn n++aA p)):=by
    have h:=hr i hi;rw[hne.out,hpe.out]at h;exact h
   have hps:Hid (p.size=33):=by rw[<-hpe.out,haz'.out i];exact aX _
   have hnN:Hid (n<N):=by rw[<-hne.out];exact HC.out.2.2.1 i hi
   obtain⟨W1,hW1⟩:∃W1,Hid (wr.alloc (.cells zT.toArray 164)=W1):=⟨_,rfl⟩
   obtain⟨W2,hW2⟩:∃W2,Hid (W1.setCells wr.heap.size 0 (wn n++aA p)=W2):=⟨_,rfl⟩
   have hlen:(wn n++aA p).length=37:=by rw[PY,aF hps.out];rfl
   have F1:Hid (Row W1 wr.heap.size zT/\Below wr.heap.size wr W1/\W1.heap.size=wr.heap.size+1):=by rw[<-hW1.out];exact⟨aM wr _ _,aE wr _,Qa _ _⟩
   have F2:Hid (Row W2 wr.heap.size (wn n++aA p)/\Below wr.heap.size wr W2):=by rw[<-hW2.out];exact⟨F1.out.1.put (by rw[hlen];rfl),RG.below_setCells (PQ _) _ _ _ F1.out.2.1⟩
   have HLT:Hid ((prog.info? 164).map (·.size)=some (wn n++aA p).length):=by show _=_;rw[hlen];exact iT
   have HLS:Hid ((prog.info? 164).map (·.size)=some (wn n++aA p).toArray.size/\W1.there wr.heap.size 0 (wn n++aA p).toArray.size):=by
    have e:(wn n++aA p).toArray.size=37:=by rw[QB];exact hlen
    rw[e];exact⟨iT,F1.out.1.2.2⟩
   have HAL:Hid ((wn n++aA p).toArray.all (·.oneCell')=true):=by
    show _=_;rw[Si];intro u hu;exact cells_one n p u (Tz.1 hu)
   have hix:=atT g 0 k cap i hi;obtain⟨vt,hvt⟩:∃v,Hid (QD (wn n++aA p).toArray=v):=⟨_,rfl⟩
   have G2:Gr 0 (.slice none 0 0) wr W2:=Gr.of F2.out.2;have HB:Hid (∀b,PBs w u3 u4 wr.heap.size n W2.heap.size w.heap.size p ((QJ i).map fun j=>bx (ns j)) ((QJ i).map az) (some ⟨g,0,none⟩) k ns az b W2.drew):=fun b=>by
    match b with
    | 0=>exact F2.out.1
    | 1=>exact(KM.out.l3.kept (by decide) G2 (by decide)).drew
    | 2=>exact(KM.out.l4.kept (by decide) G2 (by decide)).drew
    | 3=>exact⟨(KM.out.bl.trans (F2.out.2.mono KM.out.bl.size)).drew,Qn KM.out.bl.size F2.out.2.size,PQ _⟩
    | 4=>exact KM.out.tm.kept (W':=W2) G2
    | 5=>exact KM.out.r2.below (W':=W2) F2.out.2
    | _+6=>trivial
   have H3:Hid (∀g,u3.ownBlock=some g->w.heap.size<=g/\g<W2.heap.size):=fun g hg=>⟨(KM.out.l3.lt g hg).1,PS (KM.out.l3.lt g hg).2 F2.out.2.size⟩
   have H4:Hid (∀g,u4.ownBlock=some g->w.heap.size<=g/\g<W2.heap.size):=fun g hg=>⟨(KM.out.l4.lt g hg).1,PS (KM.out.l4.lt g hg).2 F2.out.2.size⟩
   have HG:=Hid.mk' hg;clear hlen hr G2 KM F2 hg;go_wp2_with (first|(refine wpList_load_mid rfl 164 _ rfl g (37*i) ?_ (wn n++aA p) d' ?_ ?_ ?_ ?_ ?_;rfl;exact B0.out;exact HD.out.2.1;exact HD.out.2.2;exact HLT.out;rw[hvt.out])|(refine aQ (v:=.pointer (some ⟨wr.heap.size,0,none⟩)) (w':=W1) rfl (.alloc 164) rfl ?_ ?_;(rw[<-hW1.out];kernel_rfl))|(refine wpList_store_mid rfl 164 _ _ rfl wr.heap.size 0 (wn n++aA p).toArray ?_ ?_ ?_ ?_ ?_ ?_;rfl;exact hvt.out.symm;exact HLS.out.2;exact HLS.out.1;exact HAL.out;rw[show(wn n++aA p).toArray.toList=wn n++aA p from rfl,hW2.out])|fail)
   refine RG.sD (FP w u3 u4 wr.heap.size n W2.heap.size w.heap.size p ((QJ i).map fun j=>bx (ns j)) ((QJ i).map az) (some ⟨g,0,none⟩) k ns az) (by kernel_rfl) ⟨by kernel_rfl,RG.Hq ?_,fun i' j hi0 hj hij hkl hdp=>MU u3 u4 wr.heap.size n W2.heap.size w.heap.size p _ _ H3.out H4.out i' j hj hij hkl (fun h=>by rw[h.1,h.2]at hdp;exact absurd (show false=true from hdp.symm.trans (by kernel_rfl)) (by decide)) (fun h=>by rw[h.1,h.2]at hdp;exact absurd (show false=true from hdp.symm.trans (by kernel_rfl)) (by decide)),fun i' b _ hkl=>Ke w u3 u4 wr.heap.size n W2.heap.size w.heap.size p _ _ _ k ns az H3.out H4.out i' b hkl⟩ HB.out ?_
   ·have hb0:∀W:World,Gr 0 (.slice none 0 0) W W:=fun W=>Gr.of (Qd _ _)
    refine⟨RG.kV 3 fun a W hp=>⟨a.eval (.tmp 3),W,by kernel_rfl,by kernel_rfl,hb0 W,hp.o 3 (by kernel_rfl)⟩,
     RG.kV 6 fun a W hp=>⟨.pointer (some ⟨wr.heap.size,0,none⟩),W,by kernel_rfl,by rw[show a.eval (.tmp 6)=.pointer (some ⟨wr.heap.size,0,none⟩) from hp.o 6 (by kernel_rfl)];kernel_rfl,hb0 W,rfl⟩,
     RG.wT 46 17 rfl u40 fun a W hp=>⟨wr.heap.size,0,wn n,hp.n 1 17 (by kernel_rfl) (by kernel_rfl) (by kernel_rfl),kE (show Row W wr.heap.size (wn n++aA p) from hp.b 0 (by kernel_rfl)).2.1,i40,hb0 W,rfl⟩,
     RG.Dl 18 fun a W hp=>⟨20,#[nv n],by kernel_rfl,by rw[show a.eval (.tmp 18)=nv n from hp.n 2 18 (by kernel_rfl) (by kernel_rfl) (by kernel_rfl)];kernel_rfl,(yA HC.out.2.1 hnN.out W).mono (by
      rintro e W' ⟨u,rfl,k',hm,rfl⟩;exact⟨_,rfl,Gr.of hm.bel,El.of_made hm (cN n)⟩)⟩,
     RG.kV 19 fun a W hp=>⟨.slice (some ⟨W.heap.size,0,none⟩) 1 1,W.alloc (.cells #[a.eval (.tmp 19)] 28),by kernel_rfl,by
      obtain⟨k',c',he,-⟩:=show El 32 W (a.eval (.tmp 19)) (bx n) from hp.n 3 19 (by kernel_rfl) (by kernel_rfl) (by kernel_rfl)
      rw[he];kernel_rfl,Gr.of (aE W _),Bo.of (show El 32 W (a.eval (.tmp 19)) (bx n) from hp.n 3 19 (by kernel_rfl) (by kernel_rfl) (by kernel_rfl)) (by decide) (hp.b 3 (by kernel_rfl)).2.2 _⟩,
     RG.Hp 16 20 23 rfl fun a W hp=>?_,
     RG.kV 4 fun a W hp=>⟨a.eval (.tmp 4),W,by kernel_rfl,by kernel_rfl,hb0 W,hp.o 4 (by kernel_rfl)⟩,
     RG.kV 6 fun a W hp=>⟨.pointer (some ⟨wr.heap.size,4,none⟩),W,by kernel_rfl,by rw[show a.eval (.tmp 6)=.pointer (some ⟨wr.heap.size,0,none⟩) from hp.o 6 (by kernel_rfl)];kernel_rfl,hb0 W,rfl⟩,
     RG.wT 51 23 rfl uCP fun a W hp=>⟨wr.heap.size,4,aA p,hp.n 7 23 (by kernel_rfl) (by kernel_rfl) (by kernel_rfl),jE (xs:=wn n) (show Row W wr.heap.size (wn n++aA p) from hp.b 0 (by kernel_rfl)).2.1,by rw[aF hps.out];exact aW,hb0 W,rfl⟩,
     RG.Dl 24 fun a W hp=>⟨91,#[pvl p],by kernel_rfl,by rw[show a.eval (.tmp 24)=pvl p from hp.n 8 24 (by kernel_rfl) (by kernel_rfl) (by kernel_rfl)];kernel_rfl,(Ej hps.out W).mono (by
      rintro e W' ⟨u,rfl,hb,hE⟩;exact⟨_,rfl,Gr.of hb,hE⟩)⟩,
     RG.kV 25 fun a W hp=>⟨.slice (some ⟨W.heap.size,0,none⟩) 1 1,W.alloc (.cells #[a.eval (.tmp 25)] 28),by kernel_rfl,by
      obtain⟨k',c',he,-⟩:=show El 33 W (a.eval (.tmp 25)) p from hp.n 9 25 (by kernel_rfl) (by kernel_rfl) (by kernel_rfl)
      rw[he];kernel_rfl,Gr.of (aE W _),Bo.of (show El 33 W (a.eval (.tmp 25)) p from hp.n 9 25 (by kernel_rfl) (by kernel_rfl) (by kernel_rfl)) (by decide) (hp.b 3 (by kernel_rfl)).2.2 _⟩,
     RG.Hp 22 26 23 rfl fun a W hp=>?_,
     RG.kV 21 fun a W hp=>⟨a.eval (.tmp 21),W,by kernel_rfl,by kernel_rfl,hb0 W,hp.n 5 21 (by kernel_rfl) (by kernel_rfl) (by kernel_rfl)⟩,
     RG.kV 27 fun a W hp=>⟨a.eval (.tmp 27),W,by kernel_rfl,by kernel_rfl,hb0 W,hp.n 11 27 (by kernel_rfl) (by kernel_rfl) (by kernel_rfl)⟩,trivial⟩
    ·obtain⟨k',x,he,h1,h2,h3,h4⟩:=show Bo 32 W2.heap.size W (a.eval (.tmp 20)) (bx n) from hp.n 4 20 (by kernel_rfl) (by kernel_rfl) (by kernel_rfl)
     obtain⟨v',W',r1,r2,r3⟩:=Lo.app (show Lo 32 w.heap.size W u3 _ from hp.b 1 (by kernel_rfl)) (by decide) h4 h3 (by rw[Qb,Sv];omega) (hp.b 3 (by kernel_rfl)).2.1;refine⟨v',W',?_,r3,r2⟩;rw[he,show a.eval (.tmp 16)=u3 from hp.n 0 16 (by kernel_rfl) (by kernel_rfl) (by kernel_rfl)];exact r1
    ·obtain⟨k',x,he,h1,h2,h3,h4⟩:=show Bo 33 W2.heap.size W (a.eval (.tmp 26)) p from hp.n 10 26 (by kernel_rfl) (by kernel_rfl) (by kernel_rfl)
     obtain⟨v',W',r1,r2,r3⟩:=Lo.app (show Lo 33 w.heap.size W u4 _ from hp.b 2 (by kernel_rfl)) (by decide) h4 h3 (by rw[Qb,Sv];omega) (hp.b 3 (by kernel_rfl)).2.1;refine⟨v',W',?_,r3,r2⟩;rw[he,show a.eval (.tmp 22)=u4 from hp.n 6 22 (by kernel_rfl) (by kernel_rfl) (by kernel_rfl)];exact r1
   ·intro V w5 hR5 hB5;have KN:Hid (Pz w w5 (some ⟨g,0,none⟩) k (i+1) ns az (V 12) (V 13)):=by
     have h1:=hR5 12 (SI (RQ (by kernel_rfl))) rfl;have h2:=hR5 13 (SI (RQ (by kernel_rfl))) rfl;refine⟨(hB5 3 rfl).1,?_,?_,hB5 4 rfl,hB5 5 rfl⟩
     ·rw[TE,RL];show Lo 32 w.heap.size w5 (V 12) (_++[bx (ns i)]);rw[hne.out];exact h1
     ·rw[TE,RL];show Lo 33 w.heap.size w5 (V 13) (_++[az i]);rw[hpe.out];exact h2
    clear hR5 hB5 HB H3 H4;dsimp only[RG.fU,SE];generalize V 12=s3 at KN⊢;generalize V 13=s4 at KN⊢;go_wp2;go_roundg (gk-1)
    case measure=>omega
    case rel=>exact⟨i+1,by omega,rfl,KN⟩
  ·have hi':¬(i:Int)<(k:Int):=by omega
   obtain rfl:i=k:=by omega
   obtain⟨q3,c3,rfl,h3⟩:=KM.out.l3.args;obtain⟨q4,c4,rfl,h4⟩:=KM.out.l4.args;rw[Qb,Sv]at h3 h4;have HA:Hid (ArgsScs wr q3 i (fun j=>bx (ns j))):=fun h0=>by
    obtain⟨g,e1,e2,e3⟩:=h3 h0;refine⟨g,e1,e2,fun j hj=>?_⟩;obtain⟨x,x1,x2⟩:=e3 j (bx (ns j)) (by rw[QX,TO hj];rfl);exact⟨x,x1,x2.arg⟩
   have HP:Hid (ArgsPts wr q4 i az):=fun h0=>by
    obtain⟨g,e1,e2,e3⟩:=h4 h0;refine⟨g,e1,e2,fun j hj=>?_⟩;obtain⟨x,x1,x2⟩:=e3 j (az j) (by rw[QX,TO hj];rfl);exact⟨x,x1,x2.arg33⟩
   rw[Qb,Sv,Qb,Sv];have KB:Hid (Below w.heap.size w wr/\Row wr w.heap.size z33):=⟨KM.out.bl,KM.out.r2⟩
   clear h3 h4 KM;go_wp2_with fail
   refine(GV HC.out.1 HC.out.2.1.gap HC.out.2.1.le q3 q4 i c3 i c4 (fun j=>bx (ns j)) az wr HA.out HP.out).mono ?_;rintro e w6 ⟨vv,rfl,hb6,hS⟩;obtain⟨gs,cs,rfl,-,-,h6,h7⟩:=SumR.all HC.out.1 HC.out.2.1 (by omega) HC.out.2.2.1 HC.out.2.2.2 (fun _ _=>rfl) (fun j _=>haz'.out j) hS;obtain⟨T,hT⟩:∃T,Hid (Go.Proofs.YtfcnimopdjjhcaaGreat.wr (EC.tot X i (fun j=>(ns j:Int)))=T):=⟨_,rfl⟩
   have hTs:T.size=33:=by rw[<-hT.out];exact aX _
   rw[hT.out]at h7;have K6:Hid (Row w6 w.heap.size z33/\Below w.heap.size w w6/\Row w6 gs (aA T)):=⟨KB.out.2.below hb6,KB.out.1.trans (hb6.mono KB.out.1.size),FM h7 h6⟩
   clear hb6 hS h6 h7 KB HA HP;have harr:=KO gs cs;obtain⟨w7,hw7⟩:∃w7,Hid (w6.setCells w.heap.size 0 (aA T)=w7):=⟨_,rfl⟩
   have hlen:(aA T).length=33:=aF hTs;have K7:Hid (Row w7 w.heap.size (aA T)/\Below w.heap.size w w7):=by rw[<-hw7.out];exact⟨K6.out.1.put (by rw[hlen];rfl),RG.below_setCells (PQ _) _ _ _ K6.out.2.1⟩
   obtain⟨vt,hvt⟩:∃vt,Hid (QD (aA T).toArray=vt):=⟨_,rfl⟩
   have HI:Hid ((prog.info? 51).map (·.size)=some (aA T).length/\w6.there w.heap.size 0 (aA T).toArray.size/\(prog.info? 51).map (·.size)=some (aA T).toArray.size):=by
    have e:(aA T).toArray.size=33:=by rw[QB];exact hlen
    refine⟨by rw[hlen];exact aW,by rw[e];exact K6.out.1.2.2,by rw[e];exact aW⟩
   clear hlen;go_wp2_with (first|(refine wpList_load_mid rfl 51 _ rfl gs 0 ?_ (aA T) d ?_ ?_ ?_ ?_ ?_;rfl;exact K6.out.2.2.2.1;exact HD.out.1.1;exact HD.out.1.2;exact HI.out.1;rw[hvt.out])|(refine wpList_store_mid rfl 51 _ _ rfl w.heap.size 0 (aA T).toArray ?_ ?_ ?_ ?_ ?_ ?_;rfl;exact hvt.out.symm;exact HI.out.2.1;exact HI.out.2.2;exact eX T;rw[show(aA T).toArray.toList=aA T from rfl,hw7.out]))
   refine bodyPost_ret (aY 2 51 rfl K7.out.1 rfl uCP HI.out.1) rfl ?_;exact⟨_,rfl,K7.out.2,by rw[hT.out];rfl⟩
end
namespace EC
variable {P:Nat}[NeZero P]
def pts(P:Nat)[NeZero P]:List (Pt P):=
 none :: (Xq P).flatMap fun x=>((Xq P).filter fun y=>decide (y^2=x^3+7)).map fun y=>some (x,y)
theorem jJ(a:Pt P):a∈pts P↔On a:=by
 unfold pts;rcases a with _|⟨x,y⟩
 ·exact⟨fun _=>trivial,fun _=>Qy⟩
 ·rw[QU,U7];constructor
  ·rintro(h|⟨u,-,h⟩)
   ·cases h
   ·obtain⟨v,hv,e⟩:=QZ.1 h;cases e
    have h2:=(Us.1 hv).2;exact(decide_eq_true_iff (p:=y^2=x^3+7)).1 h2
  ·intro h;have h:y^2=x^3+7:=h;exact Qc ⟨x,Wv x,QZ.2 ⟨y,Us.2 ⟨Wv y,decide_eq_true h⟩,rfl⟩⟩
theorem uN:(pts P).Nodup:=by
 unfold pts;refine TF.2 ⟨fun h=>?_,?_⟩
 ·obtain⟨u,-,h⟩:=U7.1 h;obtain⟨v,-,e⟩:=QZ.1 h;cases e
 ·refine List.pairwise_flatMap.2 ⟨fun x _=>Wu.2 ?_,?_⟩
  ·refine Vu ?_ ((UH P).sublist V9);intro a b h e;exact h (by cases e;rfl)
  ·refine Vu ?_ (UH P);intro a b h u hu v hv e;obtain⟨c,-,rfl⟩:=QZ.1 hu;obtain⟨d,-,rfl⟩:=QZ.1 hv;exact h (by cases e;rfl)
theorem II{u v c:Fin P}(hu:u^2=c)(hv:v^2=c):(u-v)*(u+v)=0:=by grobner
theorem Jz{a b d:Fin P}(e1:a+b=0)(e2:a+d=0):b=d:=by grobner
theorem DX(C:Cur P){c:Fin P}:∀l:List (Fin P),l.Nodup->(∀y,y∈l->y^2=c)->l.length<=2
 | [],_,_=>SJ _
 | [_],_,_=>Nat.le_succ _
 | [_,_],_,_=>PQ _
 | a :: b :: d :: l,hn,h=>by
  exfalso;have ha:a^2=c:=h a (by simp);have hb:b^2=c:=h b (by simp);have hd:d^2=c:=h d (by simp);have n1:a≠b:=fun e=>(TF.1 hn).1 (by rw[e];simp)
  have n2:a≠d:=fun e=>(TF.1 hn).1 (by rw[e];simp)
  have n3:b≠d:=fun e=>(TF.1 (TF.1 hn).2).1 (by rw[e];simp)
  have f:∀u v:Fin P,u^2=c->v^2=c->u≠v->u+v=0:=fun u v hu hv hn=>by
   exact Rc fun hs=>mul_ne C.pr (jX hn) hs (II hu hv)
  have e1:=f a b ha hb n1;have e2:=f a d ha hd n2;exact n3 (Jz e1 e2)
theorem zJ{α β:Type}(f:α->List β)(k:Nat)(h:∀a,(f a).length<=k):∀l:List α,(l.flatMap f).length<=k*l.length
 | []=>SJ _
 | a :: l=>by
  rw[U8,PY,Qw,Tv,Nat.add_comm];exact Nat.add_le_add (zJ f k h l) (h a)
theorem JL(C:Cur P):(pts P).length<=2*P+1:=by
 unfold pts;rw[Qw];refine Nat.succ_le_succ (Qn (zJ _ 2 (fun x=>?_) _) (by rw[List.length_finRange];exact PQ _));rw[Qb];exact DX C (c:=x^3+7) _ ((UH P).sublist V9) fun y hy=>of_decide_eq_true (Us.1 hy).2
theorem Jk:0<(pts P).length:=Nat.succ_pos _
def pW:List (Pt P)->Pt P
 | []=>none
 | a :: l=>add a (pW l)
theorem qF(C:Cur P):∀l:List (Pt P),(∀a,a∈l->On a)->On (pW l)
 | [],_=>eN
 | a :: l,h=>C.on (h a Qy) (qF C l fun b hb=>h b (Qv _ hb))
theorem Ey(C:Cur P){l m:List (Pt P)}(p:l.Perm m):(∀a,a∈l->On a)->pW l=pW m:=by
 induction p with
 | nil=>intro _;rfl
 | cons x _ ih =>
  intro h;show add x _=add x _;rw[ih fun b hb=>h b (Qv _ hb)]
 | swap x y l =>
  intro h;have hy:=h y Qy;have hx:=h x (Qv _ Qy);have hl:=qF C l fun b hb=>h b (Qv _ (Qv _ hb))
  show add y (add x (pW l))=add x (add y (pW l));rw[<-C.assoc hy hx hl,C.comm hy hx,C.assoc hx hy hl]
 | trans p _ ih1 ih2 =>
  intro h;rw[ih1 h,ih2 fun a ha=>h a (p.mem_iff.2 ha)]
theorem rU(C:Cur P){r:Pt P}(hr:On r):∀l:List (Pt P),(∀a,a∈l->On a)->pW (l.map fun a=>add a r)=add (pW l) (mul l.length r)
 | [],_=>rfl
 | a :: l,h=>by
  have ha:=h a Qy;have hl:∀b,b∈l->On b:=fun b hb=>h b (Qv _ hb)
  show add (add a r) (pW (l.map _))=add (add a (pW l)) (add (mul l.length r) r);rw[rU C hr l hl,C.comm (bI C hr _) hr,C.swap ha hr (qF C l hl) (bI C hr _)]
theorem tB(C:Cur P){a b r:Pt P}(ha:On a)(hb:On b)(hr:On r)(e:add a r=add b r):a=b:=by
 have:add (add a r) (neg r)=add (add b r) (neg r):=by rw[e]
 rwa[C.assoc ha hr (b8 hr),C.assoc hb hr (b8 hr),add_neg,bD,bD]at this
theorem qW(C:Cur P){r:Pt P}(hr:On r):((pts P).map fun a=>add a r).Perm (pts P):=by
 refine(List.perm_ext_iff_of_nodup ?_ uN).2 fun a=>?_
 ·refine Wu.2 (List.Pairwise.imp_of_mem ?_ (uN (P:=P)));intro a b ha hb h e;exact h (tB C ((jJ a).1 ha) ((jJ b).1 hb) hr e)
 ·rw[jJ,QZ];constructor
  ·rintro⟨b,hb,rfl⟩;exact C.on ((jJ b).1 hb) hr
  ·intro ha;refine⟨add a (neg r),(jJ _).2 (C.on ha (b8 hr)),?_⟩;rw[C.assoc ha (b8 hr) hr,C.neg_l hr,bD]
theorem CV(C:Cur P){r:Pt P}(hr:On r):mul (pts P).length r=none:=by
 have h0:∀a,a∈pts P->On a:=fun a ha=>(jJ a).1 ha
 have h1:=rU C hr (pts P) h0;rw[Ey C (qW C hr) fun a ha=>(jJ a).1 ((qW C hr).mem_iff.1 ha)]at h1;have hs:=qF C (pts P) h0;have hm:=bI C hr (pts P).length;have h2:add (mul (pts P).length r) (pW (pts P))=add none (pW (pts P)):=by
  rw[C.comm hm hs,<-h1,fX]
 exact tB C hm eN hs h2
theorem fH(C:Cur P){a:Pt P}(ha:On a)(m:Nat):∀n,mul (m*n) a=mul n (mul m a)
 | 0=>rfl
 | n+1=>by
  rw[Tv,mul_add C ha,fH C ha m n];rfl
theorem kN:∀n,mul n (none:Pt P)=none
 | 0=>rfl
 | n+1=>by
  show add (mul n none) none=none;rw[kN n];rfl
theorem Ao(C:Cur P){a:Pt P}(ha:On a)(e:add a a=none):a=none:=by
 rcases a with _|⟨x,y⟩
 ·rfl
 ·exfalso;have ho:=C.opp_ne ha;rw[bL C.pr C.two ha ha ho (aZ C.pr C.two ha ha ho)]at e;cases e
theorem Gn(C:Cur P){n:Nat}(hn:NT.IsP n)(h3:2*P+1<3*n){g:Pt P}(hg:On g)(h0:g≠none)(hz:mul n g=none){r:Pt P}(hr:On r):mul n r=none:=by
 have hd:n ∣ (pts P).length:=Rc fun hd=>by
  have h1:=hn.fermat1 _ hd;have h2:mul ((pts P).length^(n-1)) g=none:=by
   have:n-1=(n-2)+1:=by have:=hn.1;omega
   rw[this,Nat.pow_succ,Qr,fH C hg,CV C hg,kN]
  have h4:=UF ((pts P).length^(n-1)) n;rw[h1]at h4;rw[<-h4,mul_add C hg,fH C hg,hz,kN,fX]at h2;exact h0 h2
 obtain⟨c,hc⟩:=hd;have hl:=JL C;have hp:=Jk (P:=P);have hm:=CV C hr;rw[hc]at hl hp hm;have hc3:c<3:=Nat.lt_of_mul_lt_mul_left (a:=n) (by omega);match c,hc3 with
 | 0,_=>omega
 | 1,_=>rwa[Se]at hm
 | 2,_ =>
  rw[fH C hr]at hm;exact Ao C (bI C hr n) hm
end EC
section
open Go.RowKit Go.Sort Go.Deep
variable {P:Nat}[NeZero P]{N:Nat}
def fE(P:Nat)[NeZero P](b:Bs):EC.Pt P:=match rd P b with|some p=>pt p|none=>none
theorem dS(C:Fld P){X:EC.Pt P}(h:EC.On X):fE P (wr X)=X:=by
 obtain⟨p,h1,h2⟩:=rC C h;unfold fE;rw[h1];exact h2
def fF(P:Nat)[NeZero P]:List (Nat × Bs)->EC.Pt P
 | []=>none
 | x :: r=>EC.add (EC.mul x.1 (fE P x.2)) (fF P r)
def PtsL(P:Nat)[NeZero P](l:List (Nat × Bs)):Prop:=∀x∈l,∃X:EC.Pt P,EC.On X/\x.2=wr X
theorem PtsL.on(C:Fld P){l:List (Nat × Bs)}(h:PtsL P l){x:Nat × Bs}(hx:x∈l):EC.On (fE P x.2):=by
 obtain⟨X,h1,h2⟩:=h x hx;rw[h2,dS C h1];exact h1
theorem vN(C:Fld P):∀ {l:List (Nat × Bs)},PtsL P l->EC.On (fF P l)
 | [],_=>EC.eN
 | x :: r,h=>C.cur.on (EC.bI C.cur (h.on C Qy) _) (vN C fun y hy=>h y (Qv _ hy))
theorem lC(C:Fld P)(y:Nat × Bs)(hy:EC.On (fE P y.2)):∀ {l:List (Nat × Bs)},PtsL P l->fF P (l++[y])=EC.add (fF P l) (EC.mul y.1 (fE P y.2))
 | [],_=>EC.bD _
 | x :: r,h=>by
  have hr:PtsL P r:=fun z hz=>h z (Qv _ hz)
  show EC.add (EC.mul x.1 (fE P x.2)) (fF P (r++[y]))=_;rw[lC C y hy hr];exact(C.cur.assoc (EC.bI C.cur (h.on C Qy) _) (vN C hr) (EC.bI C.cur hy _)).symm
theorem vO:∀l:List (Nat × Bs),fF P (LF l)=fF P l
 | []=>rfl
 | x :: r=>by
  unfold LF;rw[List.filter_cons];by_cases h:x.1=0
  ·rw[if_neg (by simp[h])];show fF P (LF r)=EC.add (EC.mul x.1 (fE P x.2)) (fF P r);rw[h,vO r];rfl
  ·rw[if_pos (by simp[h])];show EC.add _ (fF P (LF r))=EC.add _ (fF P r);rw[vO r]
theorem mul_mod(C:Fld P)(hord:∀r:EC.Pt P,EC.On r->EC.mul N r=none){X:EC.Pt P}(hX:EC.On X)(n:Nat):EC.mul (n%N) X=EC.mul n X:=by
 have h:=EC.mul_add C.cur hX (N*(n/N)) (n%N);rw[UF,EC.fH C.cur hX N (n/N),hord X hX,EC.kN,EC.fX]at h;exact h.symm
theorem tY(C:Fld P)(hord:∀r:EC.Pt P,EC.On r->EC.mul N r=none)(n:Nat)(p:Bs)(hp:EC.On (fE P p)):∀ {l:List (Nat × Bs)},PtsL P l->fF P (dH N l n p)=EC.add (fF P l) (EC.mul n (fE P p))
 | [],_=>EC.bD _
 | (s,q) :: r,h=>by
  have hr:PtsL P r:=fun z hz=>h z (Qv _ hz)
  have hq:=h.on C (x:=(s,q)) Qy;have h1:=EC.bI C.cur hq s;have h2:=vN C hr;have h3:=EC.bI C.cur hp n;unfold dH;by_cases e:p=q
  ·rw[if_pos e];subst e;show EC.add (EC.mul (sPl N s n) (fE P p)) (fF P r)=EC.add (EC.add (EC.mul s (fE P p)) (fF P r)) (EC.mul n (fE P p));unfold sPl;rw[mul_mod C hord hp,EC.mul_add C.cur hp,C.cur.assoc h1 h3 h2,C.cur.assoc h1 h2 h3,C.cur.comm h3 h2]
  ·rw[if_neg e];show EC.add (EC.mul s (fE P q)) (fF P (dH N r n p))=EC.add (EC.add (EC.mul s (fE P q)) (fF P r)) (EC.mul n (fE P p));rw[tY C hord n p hp hr,C.cur.assoc h1 h2 h3]
theorem DF{n:Nat}{p:Bs}(hp:∃X:EC.Pt P,EC.On X/\p=wr X):∀ {l:List (Nat × Bs)},PtsL P l->PtsL P (dH N l n p)
 | [],_=>fun x hx=>by
  have:x=(n,p):=by simpa[dH]using hx
  rw[this];exact hp
 | (s,q) :: r,h=>by
  have hr:PtsL P r:=fun z hz=>h z (Qv _ hz)
  unfold dH;split
  ·intro x hx;rcases QU.1 hx with rfl|hx
   ·exact h (s,q) Qy
   ·exact hr x hx
  ·intro x hx;rcases QU.1 hx with rfl|hx
   ·exact h (s,q) Qy
   ·exact DF hp hr x hx
theorem wI(ns:Nat->Nat)(X:Nat->EC.Pt P){k:Nat}(hX:∀j,j<k->EC.On (X j)):∀i,i<=k->PtsL P (mrg N ns (fun j=>wr (X j)) i)
 | 0,_=>fun x hx=>by cases hx
 | i+1,hi=>DF ⟨X i,hX i (by omega),rfl⟩ (wI ns X hX i (by omega))
theorem CW(C:Fld P)(hord:∀r:EC.Pt P,EC.On r->EC.mul N r=none)(ns:Nat->Nat)(X:Nat->EC.Pt P){k:Nat}(hX:∀j,j<k->EC.On (X j)):∀i,i<=k->fF P (mrg N ns (fun j=>wr (X j)) i)=EC.tot X i (fun j=>(ns j:Int))
 | 0,_=>rfl
 | i+1,hi=>by
  have hi':=hX i (by omega);show fF P (dH N (mrg N ns (fun j=>wr (X j)) i) (ns i) (wr (X i)))=EC.add (EC.tot X i (fun j=>(ns j:Int))) (EC.mul (ns i) (X i));rw[tY C hord _ _ (by rw[dS C hi'];exact hi') (wI ns X hX i (by omega)),CW C hord ns X hX i (by omega),dS C hi']
theorem qQ(C:Fld P)(l:List (Nat × Bs))(h:PtsL P l):∀i,i<=l.length->EC.tot (fun j=>fE P ((l[j]?).getD (0,#[])).2) i (fun j=>(((l[j]?).getD (0,#[])).1:Int))=fF P (l.take i)
 | 0,_=>by rw[List.take_zero];rfl
 | i+1,hi=>by
  have hlt:i<l.length:=by omega
  show EC.add (EC.tot _ i _) (EC.mul ((l[i]?).getD (0,#[])).1 (fE P ((l[i]?).getD (0,#[])).2))=_;rw[qQ C l h i (by omega),Ws,P6 hlt];exact(lC C (l[i]) (h.on C (QI hlt)) fun x hx=>h x (VV hx)).symm
theorem Aw(C:Fld P)(O:Ord N)(hord:∀r:EC.Pt P,EC.On r->EC.mul N r=none)(g k c:Nat)(hk0:0<k)(hk:k<=512)(ns:Nat->Nat)(X:Nat->EC.Pt P)(hn:∀j,j<k->ns j<N)(hX:∀j,j<k->EC.On (X j))(w:World)(hg:g<w.heap.size)(hr:∀j,j<k->w.rangeAt g (37*j) (wn (ns j)++aA (wr (X j)))):
 Calls prog 48 #[.slice (some ⟨g,0,none⟩) k c] w (Ret fun e w'=>Below w.heap.size w w'/\e=pvl (wr (EC.tot X k (fun j=>(ns j:Int))))):=by
 have hM:=wI (N:=N) ns X hX k (PQ _);have hlt:=Bg O ns (fun j=>wr (X j)) hn k (PQ _);have hsz:=kO (N:=N) ns (fun j=>wr (X j)) (k:=k) (fun j _=>aX _) k (PQ _);have hle:=nA (N:=N) ns (fun j=>wr (X j)) k;have hsum:=CW C hord ns X hX k (PQ _);have hpos:0<(mrg N ns (fun j=>wr (X j)) k).length:=by
  obtain⟨k',rfl⟩:∃k',k=k'+1:=⟨k-1,by omega⟩
  show 0<(dH N _ _ _).length;cases mrg N ns (fun j=>wr (X j)) k' with
  | nil=>exact Su 0
  | cons x r=>unfold dH;split<;>simp
 have hmer:=fun W (hb:Below w.heap.size w W)=>GE O (fun e w'=>Below W.heap.size W w'/\∃q cap,e=.slice q (LF (mrg N ns (fun j=>wr (X j)) k)).length cap/\TmL w' q (LF (mrg N ns (fun j=>wr (X j)) k))) g k c (by omega) ns (fun j=>wr (X j)) (fun j _=>aX _) hn W (PS hg hb.size) (fun j hj=>RG.range_below (hr j hj) hb hg) (fun W' v hMx=>by
  refine(He _ hpos (by omega) hsz (fun x hx=>PS (hlt x hx) O.le) W.heap.size v W' hMx.bl.size hMx.ow).mono ?_;rintro e w' ⟨u,rfl,hb',hT⟩;exact⟨_,rfl,hMx.bl.trans hb',hT⟩)
 generalize mrg N ns (fun j=>wr (X j)) k=L at hM hlt hsz hle hsum hpos hmer;have hF:PtsL P (LF L):=fun x hx=>hM x (xI hx)
 have hFl:(LF L).length<=L.length:=VR _ _;refine(iY C O _ w (LF L).length (by omega) (fun j=>(((LF L)[j]?).getD (0,#[])).1) (fun j=>fE P (((LF L)[j]?).getD (0,#[])).2) (fun j hj=>by rw[P6 hj];exact hlt _ (xI (QI hj))) (fun j hj=>by rw[P6 hj];exact hF.on C (QI hj)) fun W hb=>?_).mono ?_
 ·refine(hmer W hb).mono ?_;rintro e w' ⟨u,rfl,hb',q,cap,rfl,hT⟩;refine⟨_,rfl,hb',q,cap,rfl,fun h0=>?_⟩;obtain⟨g',e1,e2,e3⟩:=hT h0;refine⟨g',e1,e2,fun j hj=>?_⟩;have h5:=e3 j hj;obtain⟨Y,y1,y2⟩:=hF _ (QI hj);show w'.rangeAt g' (37*j) (wn (((LF L)[j]?).getD (0,#[])).1++aA (wr (fE P (((LF L)[j]?).getD (0,#[])).2)));rw[P6 hj];show w'.rangeAt g' (37*j) (wn ((LF L)[j]).1++aA (wr (fE P ((LF L)[j]).2)));rw[y2,dS C y1,<-y2];exact h5
 ·rintro e w' ⟨u,rfl,hb',rfl⟩;refine⟨_,rfl,hb',?_⟩;rw[qQ C (LF L) hF _ (PQ _),U6,vO,hsum]
theorem Nf:prog.underlying 28=some (.slice 5):=by kernel_rfl
theorem Nh:prog.underlying 3=some (.int .i64):=by kernel_rfl
theorem Ky:(prog.info? 5).map (fun i=>(i.size,i.bytes,i.zero.map fun z=>z.cells.size))=some (1,1,some 1):=by kernel_rfl
theorem atB(k o n c i:Nat)(hi:i<n)(w:World):(QV 23 (.slice (some ⟨k,o,none⟩) n c) (.int .i64 i)).run prog w=.ok (.pointer (some ⟨k,o+1*i,none⟩)) w:=by
 have h1:¬(i:Int)<0:=by omega
 have h2:(i:Int)<n:=by omega
 go_simp
theorem Ml(n:Nat)(hn:n<=10000000)(w:World):Calls prog 52 #[.slice none 0 0,.int .i64 n] w (Ret fun e w'=>Below w.heap.size w w'/\w'.ownsRow w.heap.size 5 1 e 0 []):=by
 by_cases h0:n=0
 ·subst h0;go_enter Tryz.func52,Tryz.ntmps52;go_wp2;go_ret;exact⟨_,rfl,Qd _ _,UU _ _ _ _⟩
 ·obtain⟨i,hi,he⟩:=PV.1 Ky;simp only[Rz.injEq]at he;obtain⟨h1,h2,h3⟩:=he;obtain⟨z,hz,hz2⟩:=PV.1 h3;have hr:=VI (P:=prog) w 28 3 28 5 i z .i64 .i64 Nf Nh hi hz n (by omega) (by omega) (by omega) (by rw[h2];omega);have hcap:=grownCap_ge w n 0 5;have hcap2:=grownCap_le_maxLen w n 0 5 (by unfold maxLen;omega);have hcs:(Q9 z.cells n++Q9 z.cells (grownCap w n 0 5-n)).size=grownCap w n 0 5*1:=by rw[QF,size_zeroCells,size_zeroCells,hz2];omega
  generalize grownCap w n 0 5=cp at hr hcap hcap2 hcs;generalize Q9 z.cells n++Q9 z.cells (cp-n)=cur at hr hcs;obtain⟨w1,hw1⟩:∃w1,Hid (w.drew.alloc (.cells cur 5)=w1):=⟨_,rfl⟩
  rw[hw1.out]at hr;have HR:=Hid.mk' hr;have K:Hid (Below w.heap.size w w1/\w1.ownsRow w.heap.size 5 1 (.slice (some ⟨w.heap.size,0,none⟩) 0 cp) 0 []):=by
   rw[<-hw1.out];exact⟨(Qd _ _).drew.alloc (PQ _) _,We w.drew cur cp (PQ _) hcap2 hcs⟩
  clear hr hw1 hcs hi hz hz2 h1 h2 h3;have hn1:(0:Int)<(n:Int):=by omega
  have hn2:¬((n:Int)<0):=by omega
  have hw:QA.wrap (n:Int)=n:=by rw[Tr];omega
  go_enter Tryz.func52,Tryz.ntmps52;go_wp2_with (at_builtin;refine QC _ rfl _ _ _ _ rfl _ _ rfl rfl _ _ HR.out ?_)
  go_ret;exact⟨_,rfl,K.out.1,K.out.2⟩
def gI(L:Nat->Bs)(k:Nat):List UInt8:=(QJ k).flatMap fun j=>(L j).toList
theorem fN(L:Nat->Bs)(i:Nat):gI L (i+1)=gI L i++(L i).toList:=by
 unfold gI;rw[TE,TP];simp
theorem Do(L:Nat->Bs){k m:Nat}(hs:∀j,j<k->(L j).size<=m):∀i,i<=k->(gI L i).length<=m*i
 | 0,_=>PQ _
 | i+1,hi=>by
  have h1:=Do L hs i (by omega);have h2:=hs i (by omega);have e:(L i).toList.length=(L i).size:=rfl;rw[fN,PY,e,Tv];omega
theorem El.below{n B:Nat}{W W':World}{x:Value}{b:Bs}(h:El n W x b)(hb:Below B W W')(hB:W.heap.size<=B):El n W' x b:=by
 obtain⟨k,c,rfl,h1,h2,h3,h4⟩:=h;exact⟨k,c,rfl,h1,h2,PS h3 hb.size,Holds.kept h4 (hb.block k (by omega))⟩
theorem Js{base n m:Nat}{W:World}{v x:Value}{xs:List Value}{b:Bs}(hown:W.ownsRow base 5 1 v n xs)(hx:El m W x b)(hn:n+m<=100000000)(hb:base<=W.heap.size):
 ∃v' W',(QS #[28,28] 28 #[v,x]).run prog W=.ok v' W'/\W'.ownsRow base 5 1 v' (n+m) (xs++cb b)/\W.grownBy W' v.ownBlock:=by
 obtain⟨i,hi,he⟩:=PV.1 Ky;simp only[Rz.injEq]at he;obtain⟨h1,h2,h3⟩:=he;obtain⟨z,hz,hz2⟩:=PV.1 h3;obtain⟨k,c,rfl,e1,e2,e3,e4⟩:=hx;obtain⟨v',W',r1,r2,r3,-⟩:=run_append_own (P:=prog) W base 28 28 5 i z 1 1 Nf hi hz h1 h2 hz2 (by decide) v n xs hown ⟨k,0,none⟩ m c (cb b) (by rw[lN,e2];omega)
  (fun j u hj=>by
   have:=(nM e4).1 j u hj;rw[PU]at this;rw[add0];exact this) (fun u hu=>by
   obtain⟨y,-,rfl⟩:=QZ.1 hu;rfl) (by unfold maxLen;omega) (by omega) hb
 exact⟨v',W',r1,r2,r3⟩
theorem MA(L:Nat->Bs)(i:Nat):(gI L (i+1)).map encB=(gI L i).map encB++cb (L i):=by rw[fN,RL];rfl
theorem Hk(g k c:Nat)(L:Nat->Bs)(hk:k<=1000)(hs:∀j,j<k->(L j).size<=10000)(w:World)(hg:g<w.heap.size)(hL:∀j,j<k->∃x,w.cell? ⟨g,j,none⟩=some x/\El (L j).size w x (L j)):
 Calls prog 18 #[.slice (some ⟨g,0,none⟩) k c] w (Ret fun e w'=>Below w.heap.size w w'/\w'.ownsRow w.heap.size 5 1 e (gI L k).length ((gI L k).map encB)):=by
 have HL:=Hid.mk' hL;have HS:Hid (∀i,i<=k->(gI L i).length<=10000*i):=Do L hs;have HG:=Hid.mk' hg;clear hL hs hg;go_enter Tryz.func18,Tryz.ntmps18;go_wp2_with fail
 go_loopg [3,11] k (fun m s3 s11 W=>∃i:Nat,i+m=k/\s11=.int .i64 i/\s3=.int .i64 ((gI L i).length:Int)/\w=W)
 case atStart=>exact⟨0,by omega,rfl,rfl,rfl⟩
 case round =>
  obtain⟨i,hik,rfl,rfl,rfl⟩:=hrel;by_cases hi:i<k
  ·have hi':(i:Int)<(k:Int):=by omega
   obtain⟨x,hc,hE⟩:=HL.out i hi;obtain⟨kx,cx,rfl,h1,-⟩:=hE;have hix:=atB g 0 k c i hi;rw[show 0+1*i=i by omega]at hix;have hlen:(gI L (i+1)).length=(gI L i).length+(L i).size:=by rw[fN,PY];rfl
   have hb1:=HS.out i (by omega);have hb2:=HS.out (i+1) (by omega);obtain⟨a,ha⟩:∃a,Hid ((gI L i).length=a):=⟨_,rfl⟩
   obtain⟨b,hb⟩:∃b,Hid ((L i).size=b):=⟨_,rfl⟩
   rw[ha.out]at hlen hb1;rw[hb.out]at hlen h1;rw[ha.out];have hwr:QA.wrap ((a:Int)+(b:Int))=((a+b:Nat):Int):=by rw[Tr];omega
   have hng:¬(((a+b:Nat):Int)<0):=by omega
   rw[hb.out]at hc;go_wp2;go_roundg (gk-1)
   case measure=>omega
   case rel=>exact⟨i+1,by omega,rfl,by rw[hlen,Xl],rfl⟩
  ·have hi':¬(i:Int)<(k:Int):=by omega
   obtain rfl:i=k:=by omega
   go_wp2_with fail
   refine(Ml (gI L i).length (by have:=HS.out i (PQ _);omega) w).mono ?_;rintro e w1 ⟨v,rfl,hb1,ho1⟩;have K1:Hid (Below w.heap.size w w1/\w1.ownsRow w.heap.size 5 1 v (gI L 0).length ((gI L 0).map encB)):=⟨hb1,ho1⟩
   clear hb1 ho1;go_wp2_with fail
   go_loopg [6,27] i (fun m s6 s27 W=>∃j:Nat,j+m=i/\s27=.int .i64 j/\Hid (Below w.heap.size w W/\W.ownsRow w.heap.size 5 1 s6 (gI L j).length ((gI L j).map encB)))
   case atStart=>exact⟨0,by omega,rfl,K1⟩
   case round =>
    clear K1;obtain⟨j,hjk,rfl,KM⟩:=hrel;by_cases hj:j<i
    ·have hj':(j:Int)<(i:Int):=by omega
     obtain⟨x,hc0,hE0⟩:=HL.out j hj;have hc:wr.cell? ⟨g,j,none⟩=some x:=by rw[KM.out.1.cell (p:=⟨g,j,none⟩) HG.out];exact hc0
     have hE:=hE0.below KM.out.1 (PQ _);have hb2:=HS.out (j+1) (by omega);have hlen:(gI L (j+1)).length=(gI L j).length+(L j).size:=by rw[fN,PY];rfl
     obtain⟨v',W',r1,r2,r3⟩:=Js KM.out.2 hE (by omega) KM.out.1.size;rw[<-hlen,<-MA]at r2;have KN:Hid (Below w.heap.size w W'/\W'.ownsRow w.heap.size 5 1 v' (gI L (j+1)).length ((gI L (j+1)).map encB)):=⟨KM.out.1.grown r3 KM.out.1.size (fun k hk=>(KM.out.2.lt k hk).1),r2⟩
     have HAP:=Hid.mk' r1;obtain⟨kx,cx,rfl,-⟩:=hE;have hix:=atB g 0 i c j hj;rw[show 0+1*j=j by omega]at hix;clear r1 r2 r3 hlen hb2 KM hE0 hc0;go_wp2_with (first|(refine iV (x:=u6) (y:=.slice (some ⟨kx,0,none⟩) (L j).size cx) (v:=v') (w':=W') rfl _ _ 28 rfl ?_ ?_ ?_ ?_;rfl;rfl;exact HAP.out)|fail)
     go_roundg (gk-1)
     case measure=>omega
     case rel=>exact⟨j+1,by omega,rfl,KN⟩
    ·have hj':¬(j:Int)<(i:Int):=by omega
     obtain rfl:j=i:=by omega
     go_wp2;go_ret;exact⟨_,rfl,KM.out.1,KM.out.2⟩
end
section
open Go.RowKit Go.Sort Go.Deep Go.Shelf
attribute [local go_sem] Ut
variable {P:Nat}[NeZero P]
theorem GM{w:World}{g o:Nat}{bs:Bs}(h:Holds encB w g o bs)(hs:0<bs.size):g<w.heap.size:=by
 obtain⟨ob,ho,-⟩:=cells_of_cell (h 0 hs).1;exact(Qg.1 ho).1
noncomputable def cand (P:Nat) [NeZero P] (lab:ByteArray) (b:List UInt8) (i:Nat):Option (Fin P × Fin P):=
 if beV (SP.iF ((⟨#[112,111,105,110,116,32]⟩:ByteArray)++lab).data.toList [b,[P9 i]]).toList<P then
  (rt (SA P (beV (SP.iF ((⟨#[112,111,105,110,116,32]⟩:ByteArray)++lab).data.toList [b,[P9 i]]).toList)*SA P (beV (SP.iF ((⟨#[112,111,105,110,116,32]⟩:ByteArray)++lab).data.toList [b,[P9 i]]).toList)*SA P (beV (SP.iF ((⟨#[112,111,105,110,116,32]⟩:ByteArray)++lab).data.toList [b,[P9 i]]).toList)+7)).map fun y=>(SA P (beV (SP.iF ((⟨#[112,111,105,110,116,32]⟩:ByteArray)++lab).data.toList [b,[P9 i]]).toList),y)
 else none
noncomputable def cands (P:Nat) [NeZero P] (lab:ByteArray) (b:List UInt8) (i:Nat):List (Fin P × Fin P):=(QJ i).filterMap (cand P lab b)
end
section
open Go.RowKit Go.Sort Go.Deep Go.Shelf
attribute [local go_sem] Ut
section
variable {F:Fence}{n:Nat}{P:Program}{ops:Array Oper}{rest:List Oper}{op:Oper}{a:Act}{w:World}{Q:Exit->Act->World->Prop}
end
variable {P:Nat}[NeZero P]
end
section
open Go.RowKit Go.Sort Go.Deep Go.Shelf
variable {P:Nat}[NeZero P]{N:Nat}
noncomputable def hpt (P:Nat) [NeZero P] (lab:ByteArray) (b:List UInt8):Fin P × Fin P:=(cands P lab b 256).headD (gX P,gY P)
end
section
open Go.RowKit Go.Sort Go.Deep
variable {P:Nat}[NeZero P]{N:Nat}
end
section
open Go.RowKit Go.Sort Go.Deep
variable {P:Nat}[NeZero P]{N:Nat}
def Sm(B:Nat)(W:World)(v:Value)(l:List (Nat × Bs)):Prop:=∃g c,v=.slice (some ⟨g,0,none⟩) l.length c/\l.length<=c/\B<=g/\g<W.heap.size/\W.rangeAt g 0 (aV l)
theorem Sm.grow{B:Nat}{W W':World}{v:Value}{l:List (Nat × Bs)}(h:Sm B W v l)(hb:Below W.heap.size W W'):Sm B W' v l:=by
 obtain⟨g,c,h1,h2,h3,h4,h5⟩:=h;exact⟨g,c,h1,h2,h3,PS h4 hb.size,RG.range_below h5 hb h4⟩
theorem cellsT_one'(n:Nat)(a:Bs):aV [(n,a)]=wn n++aA a:=by rw[dQ];exact SB _
theorem Sm.one{B W k n}{w:World}{a:Bs}(h:Row w k (wn n++aA a))(hB:B<=k)(hW:w=W):Sm B W (.slice (some ⟨k,0,none⟩) 1 1) [(n,a)]:=by
 subst hW;exact⟨k,1,rfl,PQ _,hB,h.1,by rw[cellsT_one'];exact h.2.1⟩
section
variable (a:Bs) (w:World) (k1:Nat)
end
theorem infoT':(prog.info? 164).map (fun i=>(i.size,i.bytes,i.zero.map fun z=>z.cells.size))=some (37,72,some 37):=by kernel_rfl
theorem JP(n:Nat)(hn:n<=10000000)(w:World):Calls prog 144 #[.slice none 0 0,.int .i64 n] w (Ret fun e w'=>Below w.heap.size w w'/\w'.ownsRow w.heap.size 164 37 e 0 []):=by
 by_cases h0:n=0
 ·subst h0;go_enter Tryz.func144,Tryz.ntmps144;go_wp2;go_ret;exact⟨_,rfl,Qd _ _,UU _ _ _ _⟩
 ·obtain⟨i,hi,he⟩:=PV.1 infoT';simp only[Rz.injEq]at he;obtain⟨h1,h2,h3⟩:=he;obtain⟨z,hz,hz2⟩:=PV.1 h3;have hr:=VI (P:=prog) w 98 3 98 164 i z .i64 .i64 An Nh hi hz n (by omega) (by omega) (by omega) (by rw[h2];omega);have hcap:=grownCap_ge w n 0 164;have hcap2:=grownCap_le_maxLen w n 0 164 (by unfold maxLen;omega);have hcs:(Q9 z.cells n++Q9 z.cells (grownCap w n 0 164-n)).size=grownCap w n 0 164*37:=by rw[QF,size_zeroCells,size_zeroCells,hz2];omega
  generalize grownCap w n 0 164=cp at hr hcap hcap2 hcs;generalize Q9 z.cells n++Q9 z.cells (cp-n)=cur at hr hcs;obtain⟨w1,hw1⟩:∃w1,Hid (w.drew.alloc (.cells cur 164)=w1):=⟨_,rfl⟩
  rw[hw1.out]at hr;have HR:=Hid.mk' hr;have K:Hid (Below w.heap.size w w1/\w1.ownsRow w.heap.size 164 37 (.slice (some ⟨w.heap.size,0,none⟩) 0 cp) 0 []):=by
   rw[<-hw1.out];exact⟨(Qd _ _).drew.alloc (PQ _) _,We w.drew cur cp (PQ _) hcap2 hcs⟩
  clear hr hw1 hcs hi hz hz2 h1 h2 h3;have hn1:(0:Int)<(n:Int):=by omega
  have hn2:¬((n:Int)<0):=by omega
  have hw:QA.wrap (n:Int)=n:=by rw[Tr];omega
  go_enter Tryz.func144,Tryz.ntmps144;go_wp2_with (at_builtin;refine QC _ rfl _ _ _ _ rfl _ _ rfl rfl _ _ HR.out ?_)
  go_ret;exact⟨_,rfl,K.out.1,K.out.2⟩
theorem BK(l m:List (Nat × Bs)):aV (l++m)=aV l++aV m:=by unfold aV;rw[TP]
theorem EM(l:List (Nat × Bs)):∀u∈aV l,u.oneCell'=true:=fun u hu=>by
 unfold aV at hu;obtain⟨x,-,hx⟩:=U7.1 hu;exact cells_one x.1 x.2 u hx
theorem sU:∀ {l:List (Nat × Bs)},(∀x∈l,x.2.size=33)->(aV l).length=l.length*37
 | [],_=>rfl
 | x :: r,h=>by
  rw[dQ,PY,lD (h x Qy),sU fun y hy=>h y (Qv _ hy),Qw];omega
theorem Gk{base B:Nat}{W:World}{v x:Value}{l m:List (Nat × Bs)}(hown:W.ownsRow base 164 37 v l.length (aV l))(hm:∀y∈m,y.2.size=33)(hx:Sm B W x m)(hn:l.length+m.length<=1000000)(hb:base<=W.heap.size):
 ∃v' W',(QS #[98,98] 98 #[v,x]).run prog W=.ok v' W'/\W'.ownsRow base 164 37 v' (l++m).length (aV (l++m))/\W.grownBy W' v.ownBlock:=by
 obtain⟨i,hi,he⟩:=PV.1 infoT';simp only[Rz.injEq]at he;obtain⟨h1,h2,h3⟩:=he;obtain⟨z,hz,hz2⟩:=PV.1 h3;obtain⟨k,c,rfl,e1,e2,e3,e4⟩:=hx;obtain⟨v',W',r1,r2,r3,-⟩:=run_append_own (P:=prog) W base 98 98 164 i z 37 72 An hi hz h1 h2 hz2 (by decide) v l.length (aV l) hown ⟨k,0,none⟩ m.length c (aV m) (sU hm)
  (fun j u hj=>by
   have:=e4 j u hj;rw[PU]at this;rw[add0];exact this) (EM m) (by unfold maxLen;omega) (by omega) hb
 exact⟨v',W',r1,by rw[PY,BK];exact r2,r3⟩
end
section
open Go.RowKit Go.Sort Go.Deep
variable {P:Nat}[NeZero P]{N:Nat}
theorem atS(k o n c i:Nat)(hi:i<n)(w:World):(QV 212 (.slice (some ⟨k,o,none⟩) n c) (.int .i64 i)).run prog w=.ok (.pointer (some ⟨k,o+1*i,none⟩)) w:=by
 have h1:¬(i:Int)<0:=by omega
 have h2:(i:Int)<n:=by omega
 go_simp
def gQ(L:Nat->List (Nat × Bs))(k:Nat):List (Nat × Bs):=(QJ k).flatMap L
theorem fM(L:Nat->List (Nat × Bs))(i:Nat):gQ L (i+1)=gQ L i++L i:=by
 unfold gQ;rw[TE,TP];simp
theorem Dn(L:Nat->List (Nat × Bs)){k m:Nat}(hs:∀j,j<k->(L j).length<=m):∀i,i<=k->(gQ L i).length<=m*i
 | 0,_=>PQ _
 | i+1,hi=>by
  have h1:=Dn L hs i (by omega);have h2:=hs i (by omega);rw[fM,PY,Tv];omega
theorem Jq{W:World}{base:Nat}{v:Value}{l:List (Nat × Bs)}(h:W.ownsRow base 164 37 v l.length (aV l))(hl:0<l.length):Sm base W v l:=by
 have h0:=fun {g:Nat}=>h.cells (g:=g)
 rcases h.2 with⟨-,h2⟩|⟨g,cap,cur,rfl,h1,hc,hn,-⟩
 ·omega
 ·refine⟨g,cap,rfl,hn,h1,(Qg.1 hc).1,fun j u hu=>?_⟩;have:=h0 (g:=g) rfl j u hu;rw[add0]at this;rw[PU];exact this
theorem Sm.point(C:Fld P)(O:Ord N)(hord:∀r:EC.Pt P,EC.On r->EC.mul N r=none){B:Nat}{w:World}{v:Value}{l:List (Nat × Bs)}(h:Sm B w v l)(hl0:0<l.length)(hl:l.length<=512)(hn:∀x∈l,x.1<N)(hp:PtsL P l):
 Calls prog 48 #[v] w (Ret fun e w'=>Below w.heap.size w w'/\e=pvl (wr (fF P l))):=by
 obtain⟨g,c,rfl,-,-,hg,hr⟩:=h;have h33:∀x∈l.map (·.2),x.size=33:=fun x hx=>by
  obtain⟨y,hy,rfl⟩:=QZ.1 hx;obtain⟨X,-,e⟩:=hp y hy;rw[e];exact aX _
 have hm:∀j (hj:j<l.length),((l[j]?).getD (0,#[]))=l[j]:=fun j hj=>by rw[P6 hj];rfl
 have hX:∀j,j<l.length->EC.On (fE P ((l[j]?).getD (0,#[])).2):=fun j hj=>by rw[hm j hj];exact hp.on C (QI hj)
 refine(Aw C O hord g l.length c hl0 hl (fun j=>((l[j]?).getD (0,#[])).1) (fun j=>fE P ((l[j]?).getD (0,#[])).2) (fun j hj=>by rw[hm j hj];exact hn _ (QI hj)) hX w hg (fun j hj=>?_)).mono ?_
 ·rw[hm j hj];obtain⟨X,x1,x2⟩:=hp _ (QI hj);rw[x2,dS C x1,<-x2];intro t u hu;have ht:t<37:=by
   have:=(Qe.1 hu).1;rw[lD (h33 _ (QZ.2 ⟨_,QI hj,rfl⟩))]at this;exact this
  have:=hr (37*j+t) u (by rw[o8 l h33 j hj t ht];exact hu);rw[PU]at this;exact this
 ·rintro e w' ⟨u,rfl,hb,rfl⟩;refine⟨_,rfl,hb,?_⟩;rw[qQ C l hp _ (PQ _),U6]
theorem yW(C:Fld P){a b:EC.Pt P}(ha:EC.On a)(hb:EC.On b):∀n,EC.mul n (EC.add a b)=EC.add (EC.mul n a) (EC.mul n b)
 | 0=>rfl
 | n+1=>by
  show EC.add (EC.mul n (EC.add a b)) (EC.add a b)=EC.add (EC.add (EC.mul n a) a) (EC.add (EC.mul n b) b);rw[yW C ha hb n];exact C.cur.swap (EC.bI C.cur ha n) (EC.bI C.cur hb n) ha hb
structure BtE(P:Nat) where
 w:Nat
 z:Nat
 c:Nat
 F:EC.Pt P
 Q:EC.Pt P
def BtE.Good(e:BtE P):Prop:=EC.On e.F/\EC.On e.Q
def btL(N:Nat)(l:List (BtE P)):Nat:=l.foldl (fun a e=>sPl N a (sTi N e.w e.z)) 0
def btR(N:Nat)(l:List (BtE P)):EC.Pt P:=l.foldl (fun R e=>EC.add R (EC.add (EC.mul e.w e.F) (EC.mul (sTi N e.w e.c) e.Q))) none
omit [NeZero P] in
theorem nO(l:List (BtE P))(e:BtE P):btL N (l++[e])=sPl N (btL N l) (sTi N e.w e.z):=by unfold btL;rw[Ww];rfl
theorem nN(l:List (BtE P))(e:BtE P):btR N (l++[e])=EC.add (btR N l) (EC.add (EC.mul e.w e.F) (EC.mul (sTi N e.w e.c) e.Q)):=by unfold btR;rw[Ww];rfl
theorem xX{α:Type}{p:List α->Prop}(h0:p [])(h1:∀l a,p l->p (l++[a]))(l:List α):p l:=by
 have:∀r:List α,p r.reverse:=fun r=>by
  induction r with
  | nil=>exact h0
  | cons a r ih=>rw[List.reverse_cons];exact h1 _ _ ih
 have h:=this l.reverse;rwa[List.reverse_reverse]at h
theorem Hv(C:Fld P)(l:List (BtE P)):(∀e∈l,e.Good)->EC.On (btR N l):=by
 refine xX (p:=fun l=>(∀e∈l,BtE.Good e)->EC.On (btR N l)) (fun _=>EC.eN) (fun l e ih h=>?_) l;have hl:=ih fun x hx=>h x (UI _ hx)
 have he:=h e (UD _ Qy);rw[nN];exact C.cur.on hl (C.cur.on (EC.bI C.cur he.1 _) (EC.bI C.cur he.2 _))
theorem Hu(C:Fld P)(hord:∀r:EC.Pt P,EC.On r->EC.mul N r=none){G:EC.Pt P}(hG:EC.On G)(l:List (BtE P)):(∀e∈l,e.Good/\EC.mul e.z G=EC.add e.F (EC.mul e.c e.Q))->EC.mul (btL N l) G=btR N l:=by
 refine xX (p:=fun l=>(∀e∈l,BtE.Good e/\EC.mul e.z G=EC.add e.F (EC.mul e.c e.Q))->EC.mul (btL N l) G=btR N l) (fun _=>rfl) (fun l e ih h=>?_) l;have hl:=ih fun x hx=>h x (UI _ hx)
 obtain⟨⟨h1,h2⟩,h3⟩:=h e (UD _ Qy);have hc:=EC.bI C.cur h2 e.c;rw[nO,nN,<-hl];unfold sPl sTi;rw[mul_mod C hord hG,EC.mul_add C.cur hG,mul_mod C hord hG,mul_mod C hord h2,Qr e.w e.z,EC.fH C.cur hG,h3,yW C h1 hc,Qr e.w e.c,EC.fH C.cur h2]
def SmZ(B:Nat)(W:World)(v:Value)(l:List (Nat × Bs)):Prop:=(v=.slice none 0 0/\l=[])\/Sm B W v l
theorem SmZ.grow{B:Nat}{W W':World}{v:Value}{l:List (Nat × Bs)}(h:SmZ B W v l)(hb:Below W.heap.size W W'):SmZ B W' v l:=by
 rcases h with h|h
 ·exact Ql h
 ·exact Qc (h.grow hb)
theorem SmZ.form{B:Nat}{W:World}{v:Value}{l:List (Nat × Bs)}(h:SmZ B W v l):∃q c,v=.slice q l.length c/\l.length<=c:=by
 rcases h with⟨rfl,rfl⟩|⟨g,c,h1,h2,-⟩
 ·exact⟨none,0,rfl,PQ _⟩
 ·exact⟨_,_,h1,h2⟩
theorem MK:∀W:World,(QS #[98,98] 98 #[.slice none 0 0,.slice none 0 0]).run prog W=.ok (.slice none 0 0) W:=fun W=>by kernel_rfl
theorem Gj{base B:Nat}{W:World}{v x:Value}{l m:List (Nat × Bs)}(hown:W.ownsRow base 164 37 v l.length (aV l))(hm:∀y∈m,y.2.size=33)(hx:SmZ B W x m)(hn:l.length+m.length<=1000000)(hb:base<=W.heap.size):
 ∃v' W',(QS #[98,98] 98 #[v,x]).run prog W=.ok v' W'/\W'.ownsRow base 164 37 v' (l++m).length (aV (l++m))/\W.grownBy W' v.ownBlock:=by
 rcases hx with⟨rfl,rfl⟩|hx
 ·rw[SB];rcases id hown.2 with⟨rfl,h0⟩|⟨g,cap,cur,rfl,h1,h2,h3,-⟩
  ·exact⟨_,_,MK W,hown,⟨rfl,rfl,rfl,PQ _,fun _ _ _=>rfl⟩⟩
  ·obtain⟨i,hi,he⟩:=PV.1 infoT';have:=run_append_room_src (P:=prog) W 98 98 98 164 i An hi g 0 l.length cap (.slice none 0 0) 0 [] (Src.ofNil (e':=164) _ An 0) (by omega) (fun j hj=>by cases hj) (fun j hj=>by cases hj);exact⟨_,_,this,hown,⟨rfl,rfl,rfl,PQ _,fun _ _ _=>rfl⟩⟩
 ·exact Gk hown hm hx hn hb
theorem EH(g k c:Nat)(L:Nat->List (Nat × Bs))(hk:k<=1000)(hs:∀j,j<k->(L j).length<=600)(h33:∀j,j<k->∀x∈L j,x.2.size=33)(w:World)(hg:g<w.heap.size)(hL:∀j,j<k->∃x,w.cell? ⟨g,j,none⟩=some x/\SmZ 0 w x (L j)):
 Calls prog 101 #[.slice (some ⟨g,0,none⟩) k c] w (Ret fun e w'=>Below w.heap.size w w'/\w'.ownsRow w.heap.size 164 37 e (gQ L k).length (aV (gQ L k))):=by
 have HL:=Hid.mk' hL;have HS:Hid (∀i,i<=k->(gQ L i).length<=600*i):=Dn L hs;have HG:=Hid.mk' hg;have H3:=Hid.mk' h33;clear hL hs hg h33;go_enter Tryz.func101,Tryz.ntmps101;go_wp2_with fail
 go_loopg [3,11] k (fun m s3 s11 W=>∃i:Nat,i+m=k/\s11=.int .i64 i/\s3=.int .i64 ((gQ L i).length:Int)/\w=W)
 case atStart=>exact⟨0,by omega,rfl,rfl,rfl⟩
 case round =>
  obtain⟨i,hik,rfl,rfl,rfl⟩:=hrel;by_cases hi:i<k
  ·have hi':(i:Int)<(k:Int):=by omega
   obtain⟨x,hc,hE⟩:=HL.out i hi;obtain⟨kx,cx,rfl,h1⟩:=hE.form;have hix:=atS g 0 k c i hi;rw[show 0+1*i=i by omega]at hix;have hlen:(gQ L (i+1)).length=(gQ L i).length+(L i).length:=by rw[fM,PY]
   have hb1:=HS.out i (by omega);have hb2:=HS.out (i+1) (by omega);obtain⟨a,ha⟩:∃a,Hid ((gQ L i).length=a):=⟨_,rfl⟩
   obtain⟨b,hb⟩:∃b,Hid ((L i).length=b):=⟨_,rfl⟩
   rw[ha.out]at hlen hb1;rw[hb.out]at hlen h1;rw[ha.out];have hwr:QA.wrap ((a:Int)+(b:Int))=((a+b:Nat):Int):=by rw[Tr];omega
   have hng:¬(((a+b:Nat):Int)<0):=by omega
   rw[hb.out]at hc;go_wp2;go_roundg (gk-1)
   case measure=>omega
   case rel=>exact⟨i+1,by omega,rfl,by rw[hlen,Xl],rfl⟩
  ·have hi':¬(i:Int)<(k:Int):=by omega
   obtain rfl:i=k:=by omega
   go_wp2_with fail
   refine(JP (gQ L i).length (by have:=HS.out i (PQ _);omega) w).mono ?_;rintro e w1 ⟨v,rfl,hb1,ho1⟩;have K1:Hid (Below w.heap.size w w1/\w1.ownsRow w.heap.size 164 37 v (gQ L 0).length (aV (gQ L 0))):=⟨hb1,ho1⟩
   clear hb1 ho1;go_wp2_with fail
   go_loopg [6,27] i (fun m s6 s27 W=>∃j:Nat,j+m=i/\s27=.int .i64 j/\Hid (Below w.heap.size w W/\W.ownsRow w.heap.size 164 37 s6 (gQ L j).length (aV (gQ L j))))
   case atStart=>exact⟨0,by omega,rfl,K1⟩
   case round =>
    clear K1;obtain⟨j,hjk,rfl,KM⟩:=hrel;by_cases hj:j<i
    ·have hj':(j:Int)<(i:Int):=by omega
     obtain⟨x,hc0,hE0⟩:=HL.out j hj;have hc:wr.cell? ⟨g,j,none⟩=some x:=by rw[KM.out.1.cell (p:=⟨g,j,none⟩) HG.out];exact hc0
     have hE:=hE0.grow KM.out.1;have hb2:=HS.out (j+1) (by omega);have hlen:(gQ L (j+1)).length=(gQ L j).length+(L j).length:=by rw[fM,PY]
     obtain⟨v',W',r1,r2,r3⟩:=Gj KM.out.2 (H3.out j hj) hE (by rw[<-hlen];omega) KM.out.1.size;rw[<-fM]at r2;have KN:Hid (Below w.heap.size w W'/\W'.ownsRow w.heap.size 164 37 v' (gQ L (j+1)).length (aV (gQ L (j+1)))):=⟨KM.out.1.grown r3 KM.out.1.size (fun k hk=>(KM.out.2.lt k hk).1),r2⟩
     have HAP:=Hid.mk' r1;obtain⟨kx,cx,rfl,-⟩:=hE.form;have hix:=atS g 0 i c j hj;rw[show 0+1*j=j by omega]at hix;clear r1 r2 r3 hlen hb2 KM hE0 hc0;go_wp2_with (first|(refine iV (x:=u6) (y:=.slice kx (L j).length cx) (v:=v') (w':=W') rfl _ _ 98 rfl ?_ ?_ ?_ ?_;rfl;rfl;exact HAP.out)|fail)
     go_roundg (gk-1)
     case measure=>omega
     case rel=>exact⟨j+1,by omega,rfl,KN⟩
    ·have hj':¬(j:Int)<(i:Int):=by omega
     obtain rfl:j=i:=by omega
     go_wp2;go_ret;exact⟨_,rfl,KM.out.1,KM.out.2⟩
theorem qR(B:Nat)(s t:Value)(l m:List (Nat × Bs))(hl0:0<(l++m).length)(hl:l.length<=500)(hm:m.length<=500)(hl3:∀x∈l,x.2.size=33)(hm3:∀x∈m,x.2.size=33)(w:World)(h1:SmZ B w s l)(h2:SmZ B w t m):
 Calls prog 57 #[s,t] w (Ret fun e w'=>Below w.heap.size w w'/\Sm w.heap.size w' e (l++m)):=by
 obtain⟨g1,c1,e1,-⟩:=h1.form;obtain⟨g2,c2,e2,-⟩:=h2.form;subst e1;subst e2;obtain⟨w1,hw1⟩:∃w1,Hid (w.alloc (.cells #[.slice g1 l.length c1,.slice g2 m.length c2] 98)=w1):=⟨_,rfl⟩
 have hb:Below w.heap.size w w1:=by rw[<-hw1.out];exact aE _ _
 have hlt:w.heap.size<w1.heap.size:=by rw[<-hw1.out,Qa];omega
 have hM:w1.rangeAt w.heap.size 0 [.slice g1 l.length c1,.slice g2 m.length c2]:=by rw[<-hw1.out];exact(RG.Made.alloc w [.slice g1 l.length c1,.slice g2 m.length c2] 98).range
 have HC:=Hid.mk' (EH w.heap.size 2 2 (fun j=>if j=0 then l else m) (by decide) (fun j _=>by show(if j=0 then l else m).length<=600;split<;>omega) (fun j _=>by
  show ∀x∈(if j=0 then l else m),x.2.size=33;split
  ·exact hl3
  ·exact hm3) w1 hlt (fun j hj=>by
  have hz:∀ {v:Value}{l:List (Nat × Bs)},SmZ B w v l->SmZ 0 w1 v l:=fun h=>by
   rcases h.grow hb with h|⟨g,c,q1,q2,-,q4,q5⟩
   ·exact Ql h
   ·exact Qc ⟨g,c,q1,q2,SJ _,q4,q5⟩
  have hj2:j=0\/j=1:=by omega
  rcases hj2 with rfl|rfl
  ·exact⟨_,hM 0 _ rfl,hz h1⟩
  ·exact⟨_,hM 1 _ rfl,hz h2⟩))
 have hcat:gQ (fun j=>if j=0 then l else m) 2=l++m:=by rw[fM,fM];rfl
 have HB:=Hid.mk' hb;have HK:Hid (gQ (fun j=>if j=0 then l else m) 2=l++m/\0<(l++m).length):=⟨hcat,hl0⟩
 clear h1 h2 hM hlt hb hcat hl3 hm3;go_enter Tryz.func57,Tryz.ntmps57;go_wp2_with fail
 rw[hw1.out];refine HC.out.mono ?_;rintro e w2 ⟨vv,rfl,hb2,ho⟩;rw[HK.out.1]at ho;have K2:Hid (Below w.heap.size w w2/\Sm w.heap.size w2 vv (l++m)):=by
  obtain⟨g,c,q1,q2,q3,q4,q5⟩:=Jq ho HK.out.2;exact⟨HB.out.trans (hb2.mono HB.out.size),g,c,q1,q2,Qn HB.out.size q3,q4,q5⟩
 clear hb2 ho HC;go_wp2;go_ret;exact⟨_,rfl,K2.out.1,K2.out.2⟩
theorem EA(w:World):Calls prog 158 #[.slice none 0 0,.func (.func 137) #[] #[]] w (Ret fun e w'=>Below w.heap.size w w'/\e=.int .i64 (-1)):=by
 go_enter Tryz.func158,Tryz.ntmps158;go_wp2;go_loopg [8] 0 (fun q s8 W=>q=0/\s8=.int .i64 0/\W=w)
 case atStart=>exact⟨rfl,rfl,rfl⟩
 case round =>
  obtain⟨rfl,rfl,rfl⟩:=hrel;go_wp2;go_ret;exact⟨_,rfl,Qd _ _,rfl⟩
theorem Bz(w:World):Calls prog 136 #[.slice none 0 0,.func (.func 137) #[] #[]] w (Ret fun e w'=>Below w.heap.size w w'/\e=.slice none 0 0):=by
 have hI:=EA;go_enter Tryz.func136,Tryz.ntmps136;go_wp2_with fail
 refine(hI w).mono ?_;rintro e w1 ⟨v1,rfl,hb1,rfl⟩;have K1:=Hid.mk' hb1;clear hb1 hI;go_wp2;go_ret;exact⟨_,rfl,K1.out,rfl⟩
theorem Bi(w:World):Calls prog 90 #[.slice none 0 0] w (Ret fun e w'=>Below w.heap.size w w'/\e=.slice none 0 0):=by
 have hmm:(Xn 205 none).run prog w=.ok (.map (some w.heap.size)) (w.alloc (.map #[] 0)):=by kernel_rfl
 obtain⟨w1,hw1⟩:∃w1,Hid (w.alloc (.map #[] 0)=w1):=⟨_,rfl⟩
 rw[hw1.out]at hmm;have K1:Hid (Below w.heap.size w w1):=by rw[<-hw1.out];exact aE w _
 have hD:=Hid.mk' Bz;clear hw1;go_enter Tryz.func90,Tryz.ntmps90;go_wp2;clear hmm;go_loopg [4,12] 0 (fun q s4 s12 W=>q=0/\s4=.slice none 0 0/\s12=.int .i64 0/\W=w1)
 case atStart=>exact⟨rfl,rfl,rfl,rfl⟩
 case round =>
  obtain⟨rfl,rfl,rfl,rfl⟩:=hrel;go_wp2_with fail
  refine(hD.out wr).mono ?_;rintro e w2 ⟨v2,rfl,hb2,rfl⟩;have K2:Hid (Below w.heap.size w w2):=K1.out.trans (hb2.mono K1.out.size);clear hb2 hD K1;go_wp2;go_ret;exact⟨_,rfl,K2.out,rfl⟩
theorem Em(C:Fld P)(O:Ord N)(w:World):Calls prog 48 #[.slice none 0 0] w (Ret fun e w'=>Below w.heap.size w w'/\e=pvl (wr (none:EC.Pt P))):=by
 refine(iY C O (.slice none 0 0) w 0 (by decide) (fun _=>0) (fun _=>none) (fun j hj=>absurd hj (Uu _)) (fun j hj=>absurd hj (Uu _)) fun W _=>(Bi W).mono ?_).mono ?_
 ·rintro e w' ⟨v,rfl,hb,rfl⟩;exact⟨_,rfl,hb,_,_,rfl,fun h=>absurd h (Nat.lt_irrefl _)⟩
 ·rintro e w' ⟨v,rfl,hb,rfl⟩;exact⟨_,rfl,hb,rfl⟩
def BL(W:World)(q:Option Addr)(n:Nat)(X:Nat->List UInt8):Prop:=0<n->∃g,q=some ⟨g,0,none⟩/\g<W.heap.size/\∀i,i<n->∃a l c,W.cell? ⟨g,i,none⟩=some (.slice a l c)/\SP.PartOk W (.slice a l c) (X i)
theorem BL.below{W W':World}{q:Option Addr}{n:Nat}{X:Nat->List UInt8}(h:BL W q n X)(hb:Below W.heap.size W W'):BL W' q n X:=fun hn=>by
 obtain⟨g,h1,h2,h3⟩:=h hn;refine⟨g,h1,PS h2 hb.size,fun i hi=>?_⟩;obtain⟨a,l,c,h4,h5⟩:=h3 i hi;exact⟨a,l,c,by rw[hb.cell (p:=⟨g,i,none⟩) h2];exact h4,h5.below hb⟩
structure Ar(w W:World)(K e n i:Nat)(R:Nat->List Value):Prop where
 bl:Below w.heap.size w W
 lt:K<W.heap.size
 th:W.there K 0 (e*n)
 rw:∀j,j<i->W.rangeAt K (e*j) (R j)
theorem Ar.put{w W:World}{K e n i:Nat}{R:Nat->List Value}(h:Ar w W K e n i R)(hK:w.heap.size<=K)(hi:i<n)(hL:∀j,j<=i->(R j).length=e):Ar w (W.setCells K (e*i) (R i)) K e n (i+1) R:=by
 refine⟨RG.below_setCells hK _ _ _ h.bl,by rw[RG.setCells_size];exact h.lt,TC h.th _ _ _,fun j hj=>?_⟩;by_cases hji:j=i
 ·subst hji;refine TJ W K _ _ fun t ht=>?_
  rw[hL j (PQ _)]at ht;have h1:e*j+e<=e*n:=by
   have:=TS e (Nat.succ_le_of_lt hi);rwa[Tv]at this
  have:=h.th (e*j+t) (by omega);rwa[PU]at this
 ·have h1:e*j+e<=e*i:=by
   have:=TS e (show j+1<=i by omega);rwa[Tv]at this
  exact RV (h.rw j (by omega)) K _ _ (Qc (Ql (by rw[hL j (by omega)];omega)))
theorem Kt{T E:TypeId}{e:Nat}(hu:prog.underlying T=some (.slice E))(hi:(prog.info? E).map (fun i=>(i.size,decide (i.bytes<=4000),i.zero.isSome))=some (e,true,true))(n:Nat)(hN:n<=512):∃C0:List Value,C0.length=e*n/\∀w:World,(Rm T (.int .i64 n) (.int .i64 n)).run prog w=.ok (.slice (some ⟨w.heap.size,0,none⟩) n n) (w.alloc (.cells C0.toArray E)):=by
 obtain⟨i,hi1,hi2⟩:=PV.1 hi;simp only[Rz.injEq,decide_eq_true_eq]at hi2;obtain⟨h1,h2,h3⟩:=hi2;obtain⟨z,hz⟩:=Qx.1 h3;refine⟨(madeCells z.cells (n*e)).toList,by rw[P8,size_madeCells,Qr],fun w=>?_⟩;have hb:(i.bytes:Int)*(n:Int)<=281474976710656:=by
  have:i.bytes*n<=4000*512:=RJ h2 hN;have h5:((i.bytes*n:Nat):Int)<=281474976710656:=by omega
  rwa[RS]at h5
 have:=run_make (P:=prog) w T E i z hu hi1 hz .i64 .i64 (n:Int) (n:Int) (by omega) (by omega) hb (by omega);rw[Uh,h1]at this;rw[Sz];exact this
theorem Ar.new{w w1:World}{K e n:Nat}{C0:List Value}{E:TypeId}(R:Nat->List Value)(hC:C0.length=e*n)(hw:w.alloc (.cells C0.toArray E)=w1)(hK:w.heap.size=K):Ar w w1 K e n 0 R:=by
 subst hK;have hR:Row w1 w.heap.size C0:=by rw[<-hw];exact aM w _ _
 exact⟨by rw[<-hw];exact aE _ _,hR.1,by rw[<-hC];exact hR.2.2,fun j hj=>absurd hj (Uu _)⟩
theorem AC(O:Ord N)(r:Nat)(L:Bs)(lab:ByteArray)(w:World)(hlab:lab.size<=1048576)(hL:Holds encB w r 0 L)(hl:L.size=32):
 Calls prog 58 #[.agg #[.pointer (some ⟨r,0,none⟩)],.string lab] w (Ret fun e w'=>SP.Only r 0 32 w w'/\Holds encB w' r 0 (SP.gJ L lab.data.toList)/\e=nv (fG N (SP.iK L lab.data.toList 64))):=by
 obtain⟨A,hA⟩:∃A,Hid (SP.iK L lab.data.toList 64=A):=⟨_,rfl⟩
 obtain⟨L',hL'⟩:∃L',Hid (SP.gJ L lab.data.toList=L'):=⟨_,rfl⟩
 rw[hL'.out];have hLs:L'.size=32:=by rw[<-hL'.out];exact SP.pS _ _
 have hAs:A.size=64:=by rw[<-hA.out];exact SP.lO _ _ _
 rw[hA.out];have hr:=Holds.lt hL (by omega);obtain⟨w1,hw1⟩:∃w1,Hid ((w.alloc (.cells #[.pointer (some ⟨r,0,none⟩)] 102)).alloc (.cells #[.int .u64 0,.int .u64 0,.int .u64 0,.int .u64 0] 46)=w1):=⟨_,rfl⟩
 have K1:Hid (Row w1 (w.heap.size+1) [.int .u64 0,.int .u64 0,.int .u64 0,.int .u64 0]/\Below w.heap.size w w1/\Holds encB w1 r 0 L):=by
  rw[<-hw1.out];have hb:Below w.heap.size w ((w.alloc (.cells #[.pointer (some ⟨r,0,none⟩)] 102)).alloc (.cells #[.int .u64 0,.int .u64 0,.int .u64 0,.int .u64 0] 46)):=(aE w _).alloc (by rw[Qa];omega) _;have hR:=aM (w.alloc (.cells #[.pointer (some ⟨r,0,none⟩)] 102)) [.int .u64 0,.int .u64 0,.int .u64 0,.int .u64 0] 46;rw[Qa]at hR;exact⟨hR,hb,Holds.below hL hb hr⟩
 clear hL;go_enter Tryz.func58,Tryz.ntmps58;go_wp2_with fail
 rw[hw1.out];clear hw1;refine(SP.DR r L lab 64 w1 hlab (by decide) K1.out.2.2 hl).mono ?_;rintro e w2 ⟨r2,rfl,h1,hO,hL2,hA2⟩;rw[hA.out]at hA2;rw[hL'.out]at hL2;have hr2:=Holds.lt hL2 (by omega);have K2:Hid (Row w2 (w.heap.size+1) [.int .u64 0,.int .u64 0,.int .u64 0,.int .u64 0]/\SP.Only r 0 32 w w2/\Holds encB w2 r2 0 A/\Holds encB w2 r 0 L'):=⟨K1.out.1.only hO (by omega),(SP.Only.of_below K1.out.2.1 rfl hr).trans hO,hA2,hL2⟩
 clear h1 hO hA2 hL2 K1;go_wp2_with fail
 refine(oI O r2 A hAs w2 (Holds.lt K2.out.2.2.1 (by omega)) K2.out.2.2.1).mono ?_;rintro e w4 ⟨v,rfl,hb4,rfl⟩;have K4:Hid (Row w4 (w.heap.size+1) [.int .u64 0,.int .u64 0,.int .u64 0,.int .u64 0]/\SP.Only r 0 32 w w4/\Holds encB w4 r 0 L'):=⟨K2.out.1.below hb4,K2.out.2.1.trans (SP.Only.of_below hb4 rfl (PS hr K2.out.2.1.size)),Holds.below K2.out.2.2.2 hb4 hr2⟩
 clear hb4 K2;obtain⟨m,hm⟩:∃m,Hid (fG N A=m):=⟨_,rfl⟩
 rw[hm.out];obtain⟨w5,hw5⟩:∃w5,Hid (w4.setCells (w.heap.size+1) 0 (wn m)=w5):=⟨_,rfl⟩
 have K5:Hid (Row w5 (w.heap.size+1) (wn m)/\SP.Only r 0 32 w w5/\Holds encB w5 r 0 L'):=by
  rw[<-hw5.out];refine⟨K4.out.1.put rfl,eM K4.out.2.1 hr (by omega) _,fun j hj=>?_⟩;have e:=RG.bK (w.heap.size+1) (wn m) 0 w4 r (by omega);rw[Qt (a:=⟨r,0+j,none⟩) e,Ro (a:=⟨r,0+j,none⟩) e];exact K4.out.2.2 j hj
 obtain⟨vm,hvm⟩:∃vm,Hid (nv m=vm):=⟨_,rfl⟩
 rw[hvm.out];go_wp2_with (refine wpList_store_mid rfl 46 _ _ rfl (w.heap.size+1) 0 (wn m).toArray ?_ ?_ ?_ ?_ ?_ ?_;rfl;exact hvm.out.symm;exact K4.out.1.2.2;exact i40;exact dK m;rw[show(wn m).toArray.toList=wn m from rfl,hw5.out])
 refine bodyPost_ret (aY 4 46 rfl K5.out.1 rfl u40 i40) rfl ?_;exact⟨_,rfl,K5.out.2.1,K5.out.2.2,by rw[hm.out];rfl⟩
theorem FK{W W':World}{k:Nat}{vs:List Value}(h:Row W k vs)(hs:W.heap.size<=W'.heap.size)(e:W'.heap[k]? = W.heap[k]?):Row W' k vs:=
 ⟨PS h.1 hs,fun j v hj=>by rw[Qt (a:=⟨k,0+j,none⟩) e];exact h.2.1 j v hj,fun j hj=>by rw[Qt (a:=⟨k,0+j,none⟩) e,Ro (a:=⟨k,0+j,none⟩) e];exact h.2.2 j hj⟩
def blg(X Y Z:Nat->List UInt8):Nat->Bs
 | 0=>SP.newL [98,97,116,99,104]
 | i+1=>SP.cT (SP.cT (SP.cT (blg X Y Z i) [112,117,98,108,105,99] (X i)) [116,101,120,116] (Y i)) [115,105,103,110] (Z i)
theorem sX(X Y Z:Nat->List UInt8):∀i,(blg X Y Z i).size=32
 | 0=>SP.lI _
 | _+1=>SP.cI _ _ _
def wlg(L:Bs):Nat->Bs
 | 0=>L
 | i+1=>SP.gJ (wlg L i) [119,101,105,103,104,116]
theorem xP{L:Bs}(h:L.size=32):∀i,(wlg L i).size=32
 | 0=>h
 | _+1=>SP.pS _ _
def wgt(N:Nat)(L:Bs)(i:Nat):Nat:=fG N (SP.iK (wlg L i) [119,101,105,103,104,116] 64)
theorem Fb(O:Ord N)(L:Bs)(i:Nat):wgt N L i<N:=vV O _
structure Wk(w W:World)(k7 r:Nat)(L:Bs):Prop where
 bl:Below w.heap.size w W
 r7:Row W k7 [.pointer (some ⟨r,0,none⟩)]
 lg:Holds encB W r 0 L
 lr:w.heap.size<=r
 n7:k7≠r
theorem Wk.say{w W W':World}{k7 r:Nat}{L L':Bs}(h:Wk w W k7 r L)(hO:SP.Only r 0 32 W W')(hL:Holds encB W' r 0 L'):Wk w W' k7 r L':=
 ⟨h.bl.trans (hO.below h.bl.size h.lr),h.r7.only hO h.n7,hL,h.lr,h.n7⟩
theorem Wk.drew{w W:World}{k7 r:Nat}{L:Bs}(h:Wk w W k7 r L):Wk w W.drew k7 r L:=⟨h.bl.drew,h.r7,h.lg,h.lr,h.n7⟩
theorem Wk.cell{w W:World}{k7 r:Nat}{L:Bs}(h:Wk w W k7 r L):W.cell? ⟨k7,0,none⟩=some (.pointer (some ⟨r,0,none⟩)):=h.r7.2.1 0 _ rfl
theorem Wk.at{w W:World}{k7 r g i:Nat}{L:Bs}{v:Value}(h:Wk w W k7 r L)(hc:w.cell? ⟨g,i,none⟩=some v/\g<w.heap.size):W.cell? ⟨g,i,none⟩=some v:=by rw[h.bl.cell (p:=⟨g,i,none⟩) hc.2];exact hc.1
theorem Mg(g n c i:Nat)(hi:i<n)(w:World):(QV 23 (.slice (some ⟨g,0,none⟩) n c) (.int .i64 i)).run prog w=.ok (.pointer (some ⟨g,i,none⟩)) w:=by
 have h1:¬(i:Int)<0:=by omega
 have h2:(i:Int)<(n:Int):=by omega
 go_simp
theorem Kz(g n c i:Nat)(hi:i<n)(w:World):(QV 63 (.slice (some ⟨g,0,none⟩) n c) (.int .i64 i)).run prog w=.ok (.pointer (some ⟨g,4*i,none⟩)) w:=by
 have h1:¬(i:Int)<0:=by omega
 have h2:(i:Int)<(n:Int):=by omega
 go_simp
theorem uS4:prog.underlying 63=some (.slice 46):=by kernel_rfl
theorem iS4:(prog.info? 46).map (fun i=>(i.size,decide (i.bytes<=4000),i.zero.isSome))=some (4,true,true):=by kernel_rfl
def WtR(N:Nat)(w:World)(n:Nat)(L:Bs)(e:Value)(w':World):Prop:=Below w.heap.size w w'/\∃K,e=.slice (some ⟨K,0,none⟩) n n/\w.heap.size<=K/\K<w'.heap.size/\w'.there K 0 (4*n)/\∀j,j<n->w'.rangeAt K (4*j) (wn (wgt N L j))
theorem DU(O:Ord N)(q0 q1 q2:Option Addr)(n c0 c1 c2:Nat)(X Y Z:Nat->List UInt8)(hn:n<=64)(w:World)(h0:BL w q0 n X)(h1:BL w q1 n Y)(h2:BL w q2 n Z):
 Calls prog 23 #[.slice q0 n c0,.slice q1 n c1,.slice q2 n c2] w (Ret (WtR N w n (blg X Y Z n))):=by
 have H0:=Hid.mk' h0;have H1:=Hid.mk' h1;have H2:=Hid.mk' h2;have HO:=Hid.mk' O;have hNL:=uD ⟨#[98,97,116,99,104]⟩ w (by decide);clear h0 h1 h2 O;go_enter Tryz.func23,Tryz.ntmps23;go_wp2_with fail
 refine hNL.mono ?_;rintro e w1 ⟨v1,rfl,hb1,r,rfl,hr1,hr2,hL1⟩;obtain⟨k7,hk7⟩:∃k7,Hid (w1.heap.size=k7):=⟨_,rfl⟩
 obtain⟨w2,hw2⟩:∃w2,Hid (w1.alloc (.cells #[.pointer none] 102)=w2):=⟨_,rfl⟩
 obtain⟨w3,hw3⟩:∃w3,Hid (w2.setCells k7 0 [.pointer (some ⟨r,0,none⟩)]=w3):=⟨_,rfl⟩
 have r2:Row w2 k7 [.pointer none]:=by rw[<-hw2.out,<-hk7.out];exact aM w1 _ _
 have hth:Hid (w2.there k7 0 1):=r2.2.2;have b13:Below w1.heap.size w1 w3:=by rw[<-hw3.out,<-hw2.out];exact RG.below_setCells (by rw[hk7.out];exact PQ _) _ _ _ (aE w1 _)
 have K3:Hid (Wk w w3 k7 r (blg X Y Z 0)):=⟨hb1.trans (b13.mono hb1.size),by rw[<-hw3.out];exact r2.put rfl,Holds.below hL1 b13 hr2,hr1,by rw[<-hk7.out];omega⟩
 clear hNL hb1 hr1 hr2 hL1 r2 b13;go_wp2_with (first|(refine aQ (v:=.pointer (some ⟨k7,0,none⟩)) (w':=w2) rfl (.alloc 102) rfl ?_ ?_;(rw[<-hw2.out,<-hk7.out];kernel_rfl))|(refine wpList_store_mid rfl 102 _ _ rfl k7 0 #[.pointer (some ⟨r,0,none⟩)] ?_ ?_ ?_ ?_ ?_ ?_;kernel_rfl;kernel_rfl;exact hth.out;exact i124;kernel_rfl;rw[show(#[.pointer (some ⟨r,0,none⟩)]:Array Value).toList=[.pointer (some ⟨r,0,none⟩)] from rfl,hw3.out])|fail)
 clear hth hw2 hw3 hk7;go_loopg [14] n (fun gk s14 wr=>∃i:Nat,i+gk=n/\s14=.int .i64 i/\Hid (Wk w wr k7 r (blg X Y Z i)))
 case atStart=>exact⟨0,PU _,rfl,K3⟩
 case round =>
  clear K3;obtain⟨i,hi,rfl,KM⟩:=hrel;by_cases hlt:i<n
  ·have hlt':(i:Int)<(n:Int):=by omega
   obtain⟨g0,rfl,hg0,hc0⟩:=H0.out (by omega);obtain⟨g1,rfl,hg1,hc1⟩:=H1.out (by omega);obtain⟨g2,rfl,hg2,hc2⟩:=H2.out (by omega);obtain⟨a0,l0,b0,hc0,hp0⟩:=hc0 i hlt;obtain⟨a1,l1,b1,hc1,hp1⟩:=hc1 i hlt;obtain⟨a2,l2,b2,hc2,hp2⟩:=hc2 i hlt;have C0:=Hid.mk' (Uy hc0 hg0);have C1:=Hid.mk' (Uy hc1 hg1);have C2:=Hid.mk' (Uy hc2 hg2);have P0:=Hid.mk' hp0;have P1:=Hid.mk' hp1;have P2:=Hid.mk' hp2;have hi0:=Mg g0 n c0 i hlt;have hi1:=Mg g1 n c1 i hlt;have hi2:=Mg g2 n c2 i hlt;obtain⟨L0,hL0⟩:∃L0,Hid (blg X Y Z i=L0):=⟨_,rfl⟩
   have s0:L0.size=32:=by rw[<-hL0.out];exact sX X Y Z i
   obtain⟨L1,h1⟩:∃L1,Hid (SP.cT L0 [112,117,98,108,105,99] (X i)=L1):=⟨_,rfl⟩
   have s1:L1.size=32:=by rw[<-h1.out];exact SP.cI _ _ _
   obtain⟨L2,h2⟩:∃L2,Hid (SP.cT L1 [116,101,120,116] (Y i)=L2):=⟨_,rfl⟩
   have s2:L2.size=32:=by rw[<-h2.out];exact SP.cI _ _ _
   obtain⟨L3,h3⟩:∃L3,Hid (SP.cT L2 [115,105,103,110] (Z i)=L3):=⟨_,rfl⟩
   have H3:Hid (blg X Y Z (i+1)=L3):=by show _=_;rw[<-h3.out,<-h2.out,<-h1.out,<-hL0.out];rfl
   rw[hL0.out]at KM;have KP:=KM.out;clear hc0 hc1 hc2 hp0 hp1 hp2 hg0 hg1 hg2 KM hL0;go_wp2_with fail
   go_region_held3 (fun W=>W.cell? ⟨k7,0,none⟩=some (.pointer (some ⟨r,0,none⟩))/\W.cell? ⟨g0,i,none⟩=some (.slice a0 l0 b0)/\∃L,Wk w W k7 r L) (first|(with_reducible exact⟨KP.cell,KP.at C0.out,_,KP⟩)|(with_reducible exact⟨KP.drew.cell,KP.drew.at C0.out,_,KP.drew⟩)|fail) (first|(go_at_call 50;(first|(with_reducible refine(SP.eD r L0 ⟨#[112,117,98,108,105,99]⟩ a0 l0 b0 (X i) _ (by decide) (qU KP.lg) s0 (P0.out.below KP.bl)).mono ?_)|(with_reducible refine(SP.eD r L0 ⟨#[112,117,98,108,105,99]⟩ a0 l0 b0 (X i) _ (by decide) (qU KP.drew.lg) s0 (P0.out.below KP.drew.bl)).mono ?_));rintro e w5 ⟨rfl,hO,hL⟩;rw[show SP.cT L0 (⟨#[112,117,98,108,105,99]⟩:ByteArray).data.toList (X i)=L1 from h1.out]at hL;(first|(with_reducible (have KP1:=KP.drew.say hO (qT hL)))|(with_reducible (have KP1:=KP.say hO (qT hL)))|fail);clear KP hO hL;have KP:=KP1;clear KP1))
   go_wp2_with fail
   go_region_held3 (fun W=>W.cell? ⟨k7,0,none⟩=some (.pointer (some ⟨r,0,none⟩))/\W.cell? ⟨g1,i,none⟩=some (.slice a1 l1 b1)/\∃L,Wk w W k7 r L) (first|(with_reducible exact⟨KP.cell,KP.at C1.out,_,KP⟩)|(with_reducible exact⟨KP.drew.cell,KP.drew.at C1.out,_,KP.drew⟩)|fail) (first|(go_at_call 50;(first|(with_reducible refine(SP.eD r L1 ⟨#[116,101,120,116]⟩ a1 l1 b1 (Y i) _ (by decide) (qU KP.lg) s1 (P1.out.below KP.bl)).mono ?_)|(with_reducible refine(SP.eD r L1 ⟨#[116,101,120,116]⟩ a1 l1 b1 (Y i) _ (by decide) (qU KP.drew.lg) s1 (P1.out.below KP.drew.bl)).mono ?_));rintro e w6 ⟨rfl,hO,hL⟩;rw[show SP.cT L1 (⟨#[116,101,120,116]⟩:ByteArray).data.toList (Y i)=L2 from h2.out]at hL;(first|(with_reducible (have KP1:=KP.drew.say hO (qT hL)))|(with_reducible (have KP1:=KP.say hO (qT hL)))|fail);clear KP hO hL;have KP:=KP1;clear KP1))
   go_wp2_with fail
   go_region_held3 (fun W=>W.cell? ⟨k7,0,none⟩=some (.pointer (some ⟨r,0,none⟩))/\W.cell? ⟨g2,i,none⟩=some (.slice a2 l2 b2)/\∃L,Wk w W k7 r L) (first|(with_reducible exact⟨KP.cell,KP.at C2.out,_,KP⟩)|(with_reducible exact⟨KP.drew.cell,KP.drew.at C2.out,_,KP.drew⟩)|fail) (first|(go_at_call 50;(first|(with_reducible refine(SP.eD r L2 ⟨#[115,105,103,110]⟩ a2 l2 b2 (Z i) _ (by decide) (qU KP.lg) s2 (P2.out.below KP.bl)).mono ?_)|(with_reducible refine(SP.eD r L2 ⟨#[115,105,103,110]⟩ a2 l2 b2 (Z i) _ (by decide) (qU KP.drew.lg) s2 (P2.out.below KP.drew.bl)).mono ?_));rintro e w7 ⟨rfl,hO,hL⟩;rw[show SP.cT L2 (⟨#[115,105,103,110]⟩:ByteArray).data.toList (Z i)=L3 from h3.out]at hL;(first|(with_reducible (have KP1:=KP.drew.say hO (qT hL)))|(with_reducible (have KP1:=KP.say hO (qT hL)))|fail);clear KP hO hL;have KP:=KP1;clear KP1))
   have KN:Hid (Wk w w7 k7 r (blg X Y Z (i+1))):=by rw[H3.out];exact KP
   go_wp2;go_roundg (gk-1)
   case measure=>omega
   case rel=>exact⟨i+1,by omega,rfl,KN⟩
  ·have hlt':¬(i:Int)<(n:Int):=by omega
   obtain rfl:i=n:=by omega
   obtain⟨C0,hC0,hmk0⟩:=Kt uS4 iS4 i (by omega);have hmk:=hmk0 wr;clear hmk0;obtain⟨K9,hK9⟩:∃K9,Hid (wr.heap.size=K9):=⟨_,rfl⟩
   obtain⟨w4,hw4⟩:∃w4,Hid (wr.alloc (.cells C0.toArray 46)=w4):=⟨_,rfl⟩
   rw[hw4.out,hK9.out]at hmk;obtain⟨L,hL⟩:∃L,Hid (blg X Y Z i=L):=⟨_,rfl⟩
   have sL:L.size=32:=by rw[<-hL.out];exact sX X Y Z i
   rw[hL.out]at KM⊢;have b4:Below wr.heap.size wr w4:=by rw[<-hw4.out];exact aE wr _
   have K4:Hid (Wk w w4 k7 r (wlg L 0)/\Ar wr w4 K9 4 i 0 (fun j=>wn (wgt N L j))):=⟨⟨KM.out.bl.trans (b4.mono KM.out.bl.size),KM.out.r7.below b4,Holds.below KM.out.lg b4 (Holds.lt KM.out.lg (by omega)),KM.out.lr,KM.out.n7⟩,Ar.new _ hC0 hw4.out hK9.out⟩
   have HK9:Hid (w.heap.size<=K9/\r<K9/\k7<K9):=by
    rw[<-hK9.out];exact⟨KM.out.bl.size,Holds.lt KM.out.lg (by omega),KM.out.r7.1⟩
   have HB:=Hid.mk' KM.out.bl;obtain⟨d,hd1,hd2⟩:=PV.1 u124;have HD:Hid (prog.underlying 102=some d/\d.isRow=true):=⟨hd1,hd2⟩
   clear hd1 hd2 b4 KM hC0 hw4 H0 H1 H2;go_wp2;clear hmk hlt';go_loopg [44] i (fun gk s44 wr2=>∃j:Nat,j+gk=i/\s44=.int .i64 j/\Hid (Wk w wr2 k7 r (wlg L j)/\wr2.there K9 0 (4*i)/\K9<wr2.heap.size/\∀t,t<j->wr2.rangeAt K9 (4*t) (wn (wgt N L t))))
   case atStart=>exact⟨0,PU _,rfl,K4.out.1,K4.out.2.th,K4.out.2.lt,fun t ht=>absurd ht (Uu _)⟩
   case round =>
    clear K4;obtain⟨j,hj,rfl,KN⟩:=hrel;by_cases hjl:j<i
    ·have hjl':(j:Int)<(i:Int):=by omega
     have hS:=AC HO.out r (wlg L j) ⟨#[119,101,105,103,104,116]⟩ wr (by decide) KN.out.1.lg (xP sL j);have hix:=Kz K9 i i j hjl;have hwt:fG N (SP.iK (wlg L j) (⟨#[119,101,105,103,104,116]⟩:ByteArray).data.toList 64)=wgt N L j:=rfl;rw[hwt]at hS;clear hwt;obtain⟨x,hx⟩:∃x,Hid (wgt N L j=x):=⟨_,rfl⟩
     rw[hx.out]at hS;obtain⟨vx,hvx⟩:∃vx,Hid (nv x=vx):=⟨_,rfl⟩
     rw[hvx.out]at hS;have HS:=Hid.mk' hS;clear hS;go_wp2_with (first|(refine wpList_load_mid rfl 102 _ rfl k7 0 ?_ [.pointer (some ⟨r,0,none⟩)] d ?_ ?_ ?_ ?_ ?_;rfl;exact KN.out.1.r7.2.1;exact HD.out.1;exact HD.out.2;exact i124;skip)|fail)
     refine HS.out.mono ?_;rintro e w6 ⟨v6,rfl,hO,hL6,rfl⟩;have hne:K9≠r:=by have:=HK9.out.2.1;omega
     have th6:w6.there K9 0 (4*i):=fun t ht=>by
      have h1:=KN.out.2.1 t ht;have h2:=hO.other (c:=K9) (o:=0+t) hne KN.out.2.2.1;exact⟨by rw[h2.1];exact h1.1,by rw[h2.2];exact h1.2⟩
     have lt6:K9<w6.heap.size:=PS KN.out.2.2.1 hO.size;have rg6:∀t,t<j->w6.rangeAt K9 (4*t) (wn (wgt N L t)):=fun t ht u v hu=>by
      rw[(hO.other (c:=K9) (o:=4*t+u) hne KN.out.2.2.1).1];exact KN.out.2.2.2 t ht u v hu
     have W6:Wk w w6 k7 r (wlg L (j+1)):=KN.out.1.say hO hL6;obtain⟨w7,hw7⟩:∃w7,Hid (w6.setCells K9 (4*j) (wn x)=w7):=⟨_,rfl⟩
     have A6:Ar w w6 K9 4 i j (fun t=>wn (wgt N L t)):=⟨W6.bl,lt6,th6,rg6⟩
     have A7:=A6.put HK9.out.1 hjl (fun t _=>rfl);have e7:w6.setCells K9 (4*j) (wn (wgt N L j))=w7:=by rw[hx.out];exact hw7.out
     rw[e7]at A7;have hoth:∀y,y≠K9->w7.heap[y]? = w6.heap[y]?:=fun y hy=>by rw[<-hw7.out];exact RG.bK _ _ _ _ _ hy
     have K7:Hid (Wk w w7 k7 r (wlg L (j+1))/\w7.there K9 0 (4*i)/\K9<w7.heap.size/\∀t,t<j+1->w7.rangeAt K9 (4*t) (wn (wgt N L t))):=by
      refine⟨⟨A7.bl,?_,?_,W6.lr,W6.n7⟩,A7.th,A7.lt,A7.rw⟩
      ·exact FK W6.r7 (by rw[<-hw7.out,RG.setCells_size];exact PQ _) (hoth k7 (Nat.ne_of_lt HK9.out.2.2))
      ·exact Holds.kept W6.lg (hoth r (by omega))
     have hth:Hid (w6.there K9 (4*j) 4):=fun t ht=>by
      have:=th6 (4*j+t) (by omega);rwa[PU]at this
     clear hO hL6 th6 lt6 rg6 W6 A6 A7 e7 hoth KN HS;go_wp2_with (first|(refine wpList_store_mid rfl 46 _ _ rfl K9 (4*j) (wn x).toArray ?_ ?_ ?_ ?_ ?_ ?_;rfl;exact hvx.out.symm;exact hth.out;exact i40;exact dK x;rw[show(wn x).toArray.toList=wn x from rfl,hw7.out])|fail)
     go_roundg (gk-1)
     case measure=>omega
     case rel=>exact⟨j+1,by omega,rfl,K7⟩
    ·have hjl':¬(j:Int)<(i:Int):=by omega
     obtain rfl:j=i:=by omega
     go_wp2;go_ret;refine⟨_,rfl,KN.out.1.bl,K9,rfl,HK9.out.1,KN.out.2.2.1,KN.out.2.1,?_⟩;rw[hL.out];exact KN.out.2.2.2
end
section
open Go.RowKit Go.Sort Go.Deep Go.Shelf
attribute [local go_sem] Ut
def chv(sb so c i:Nat):Value:=.slice (some ⟨sb,so+c*i,none⟩) c c
theorem GP{w w':World}(h:Below w.heap.size w w')(row:Option Nat):w.grownBy w' row:=⟨h.os,h.tape,h.output,h.size,fun k hk _=>h.block k hk⟩
theorem sl3(sb so n cap x y:Nat)(h1:x<y)(h2:y<=cap)(w:World):(Re 28 (.slice (some ⟨sb,so,none⟩) n cap) (some (.int .i64 x)) (some (.int .i64 y)) (some (.int .i64 y))).run prog w=.ok (.slice (some ⟨sb,so+x,none⟩) (y-x) (y-x)) w:=by
 have h3:¬y=x:=by omega
 have h4:(x:Int)<=y:=by omega
 have h5:(y:Int)<=cap:=by omega
 have h6:x<=y:=by omega
 go_simp
theorem JW(sb so c m n cap k1 k2:Nat)(w:World)(hc:0<c)(hn:n=c*m)(hcap:n<=cap)(hbig:n<=1073741824)(h1:w.cell? ⟨k1,0,none⟩=some (.slice (some ⟨sb,so,none⟩) n cap))(h2:w.cell? ⟨k2,0,none⟩=some (.int .i64 c))(l1:k1<w.heap.size)(l2:k2<w.heap.size)(nn:Nat):
 SeqStopsK Wg nn prog 143 #[.pointer (some ⟨k1,0,none⟩),.pointer (some ⟨k2,0,none⟩)] (fun i:Nat=>#[chv sb so c i]) (Below w.heap.size) (fun xs=>xs=QJ m) (fun _=>True) m w:=by
 intro l J Jx W hW hJ hJx hY h0;have HN:Hid (n=c*m):=hn;clear hn;refine callsIn_of_wp Tryz.func143 rfl trivial ?_ rfl;simp only[Tryz.ntmps143,QB,Qw,Tl,SE,Xt,VU,VT,Wt,Wc,WU,Vj]
 gi_wp2
 gi_loopw [4] (fun p wr=>∃i:Nat,i<=m/\p=.int .i64 ((c*i:Nat):Int)/\J (QJ i) wr/\Below w.heap.size w wr/\W.heap.size<=wr.heap.size) (fun p wr=>n-(intOf p).toNat)
 case atStart =>
  exact⟨0,SJ _,by rw[Nat.mul_zero];rfl,h0,hW,PQ _⟩
 case round =>
  obtain⟨i,hi,rfl,hJi,hB,hsz⟩:=hrel;have c1:wr.cell? ⟨k1,0,none⟩=some (.slice (some ⟨sb,so,none⟩) n cap):=(Qt (hB.block k1 l1)).trans h1;have c2:wr.cell? ⟨k2,0,none⟩=some (.int .i64 c):=(Qt (hB.block k2 l2)).trans h2;by_cases he:i=m
  ·subst he;have hge:¬((c*i:Nat):Int)<(n:Int):=by rw[HN.out];omega
   gi_wp2
   go_end0
   exact⟨⟨_,rfl⟩,.inl hJi⟩
  ·obtain⟨x,hx⟩:∃x,Hid (c*i=x):=⟨_,rfl⟩
   have hxn:x+c<=n:=by
    have:=TS c (show i+1<=m by omega);rw[Sw,hx.out,<-HN.out]at this;omega
   have hlt:(x:Int)<(n:Int):=by omega
   rw[hx.out]
   gi_wp2_with fail
   refine wpIn_wide.2 ?_;have hsl:(Re 28 (.slice (some ⟨sb,so,none⟩) n cap) (some (.int .i64 x)) none none).run prog wr.drew=.ok (.slice (some ⟨sb,so+x,none⟩) (n-x) (cap-x)) wr.drew:=by
    have h1:¬(x:Int)<0:=by omega
    have h2:(x:Int)<=n:=by omega
    have h3:(n:Int)<=cap:=by omega
    have h4:¬cap=x:=by omega
    go_simp
   have c1':wr.drew.cell? ⟨k1,0,none⟩=some (.slice (some ⟨sb,so,none⟩) n cap):=c1;have c2':wr.drew.cell? ⟨k2,0,none⟩=some (.int .i64 c):=c2;go_region
   rename_i K ha
   refine ha _ _ ?_;clear ha hsl c1' c2' hlt;obtain⟨fn,tmps,assign,body,hy,hR⟩:=hY (QJ i) i wr.drew (hJ _ wr _ none hJi (GP ((Qd _ wr).drew) none) (fun _ e=>by cases e)) (by rw[Sv];omega);have c1':wr.drew.cell? ⟨k1,0,none⟩=some (.slice (some ⟨sb,so,none⟩) n cap):=c1;have c2':wr.drew.cell? ⟨k2,0,none⟩=some (.int .i64 c):=c2;have hsl:∀w:World,(Re 28 (.slice (some ⟨sb,so,none⟩) n cap) (some (.int .i64 x)) (some (.int .i64 ((x+c:Nat):Int))) (some (.int .i64 ((x+c:Nat):Int)))).run prog w=.ok (.slice (some ⟨sb,so+x,none⟩) c c) w:=fun w=>by
    have:=sl3 sb so n cap x (x+c) (by omega) (by omega) w;rwa[show x+c-x=c by omega]at this
   unfold chv at hy;rw[hx.out]at hy
   gi_wp2_with fail
   clear hy;refine⟨fun h=>(by cases h),hR.mono ?_⟩;clear hR hsl c1' c2' c1;have hBd:Below w.heap.size w wr.drew:=hB.drew;rintro e W8 (⟨rfl,hJ8,hk8⟩|⟨rfl,hJx8⟩)
   ·have c3:W8.cell? ⟨k2,0,none⟩=some (.int .i64 c):=(Qt ((hBd.trans hk8).block k2 l2)).trans h2
    gi_wp2_with fail
    refine⟨⟨i+1,by omega,?_,?_,hBd.trans hk8,Qn hsz hk8.size⟩,?_⟩
    ·rw[Sw,hx.out,Se];rfl
    ·rw[TE];exact hJ8
    ·simp[intOf];omega
   ·gi_wp2_with fail
    refine bodyPost_ret (results_none rfl _ _ _) rfl ?_;exact⟨⟨_,rfl⟩,.inr ⟨_,trivial,hJx8⟩⟩
end
section
open Go.RowKit Go.Sort Go.Deep Go.Shelf
attribute [local go_sem] Ut
theorem yP(base:Nat)(T:TypeId)(v:Value)(n:Nat)(xs:List Value):Own (fun(_:Unit) W=>W.ownsRow base T 1 v n xs):=fun s A B row hs hg hr=>by
 refine hs.kept hg ?_;rcases hs.2 with⟨rfl,_⟩|⟨g,cap,cur,rfl,_,hgb,_⟩
 ·exact .inl rfl
 ·refine .inr fun e'=>?_
  obtain⟨o,ho,hw⟩:=hr g (by simpa[Uz]using e'.symm);rw[hgb]at ho;cases ho;cases hw
theorem iG{W:World}{base:Nat}{T U:TypeId}{v:Value}{n k:Nat}{xs:List Value}(h:W.ownsRow base T 1 v n xs){o:Obj}(hk:W.heap[k]? = some o)(hT:∀cs,o≠.cells cs T (0,0)):v.ownBlock=none\/v.ownBlock≠some k:=by
 rcases h.2 with⟨rfl,_⟩|⟨g,cap,cur,rfl,_,hgb,_⟩
 ·exact .inl rfl
 ·refine .inr fun e'=>?_
  have:g=k:=by simpa[Uz]using e'
  subst this;rw[hgb]at hk;cases hk;exact hT cur rfl
theorem GK{W W':World}{base:Nat}{T:TypeId}{v:Value}{n:Nat}{xs:List Value}(h:W.ownsRow base T 1 v n xs)(hg:W.grownBy W' v.ownBlock):KeepsOthers W W':=by
 refine⟨hg.size,fun k o hk ho=>?_⟩;rw[hg.block k (Qg.1 hk).1 ?_]
 ·exact hk
 ·rcases h.2 with⟨rfl,_⟩|⟨g,cap,cur,rfl,_,hgb,_⟩
  ·simp[Uz]
  ·intro e;have:k=g:=by simpa[Uz]using e
   subst this;rw[hgb]at hk;cases hk;cases ho
def Box(T U:TypeId)(base Bs:Nat)(xs:List Value)(W:World):Prop:=∃v,W.heap[Bs]? = some (.cells #[v] U (0,0))/\W.ownsRow base T 1 v xs.length xs/\(v=.slice none 0 0↔xs=[])
theorem J2(T U:TypeId)(base Bs:Nat)(xs:List Value):Own (fun(_:Unit) W=>Box T U base Bs xs W):=fun s A B row hs hg hr=>by
 obtain⟨v,h1,h2,h3⟩:=hs;refine⟨v,?_,yP base T v _ xs () A B row h2 hg hr,h3⟩;rw[hg.block Bs (Qg.1 h1).1 ?_]
 ·exact h1
 ·intro e;obtain⟨o,ho,hw⟩:=hr Bs e.symm;rw[h1]at ho;cases ho;cases hw
theorem J1{W:World}{B:Nat}{v:Value}{t:TypeId}(v':Value)(h:W.heap[B]? = some (.cells #[v] t (0,0))):(W.setCell ⟨B,0,none⟩ v').heap[B]? = some (.cells #[v'] t (0,0)):=by
 obtain⟨hlt,hk⟩:=Qg.1 h;show(W.heap.modify B _)[B]? = _;rw[Qo (by rw[Array.size_modify];exact hlt),Array.getElem_modify_self,hk];rfl
theorem EO(W:World)(b:Nat)(v:Value):W.grownBy (W.setCell ⟨b,0,none⟩ v) (some b):=
 ⟨rfl,rfl,rfl,(Vw W _ v).size,fun k _ hk=>Below.heap_setCell _ _ _ k (fun e=>hk (by rw[e]))⟩
theorem iBy:(prog.info? 28).map (fun i=>(i.zero,i.size,i.bytes))=some (some (.slice none 0 0),1,24):=by kernel_rfl
theorem uBB:prog.underlying 23=some (.slice 28):=by kernel_rfl
theorem Ad(g:Nat->Addr)(c:Nat)(gf:Nat)(eg:∀args w,(callFunc gf args).run prog w=.ok (.enter gf args) w)(lb:Array Value)(N:Nat)(hN:N<=1048576)(w:World)
 (hseq:∀n,SeqStopsK Wg n prog gf lb (fun i:Nat=>#[.slice (some (g i)) c c]) (Below w.heap.size) (fun xs=>xs=QJ N) (fun _=>True) N w) :
 Calls prog 142 #[.slice none 0 0,.func (.func gf) #[] lb] w (Ret fun e w'=>Below w.heap.size w w'/\w'.ownsRow w.heap.size 28 1 e N ((QJ N).map (fun i=>SR (some (g i)) c c))/\(e=.slice none 0 0↔N=0)):=by
 obtain⟨i0,hi,hz0,hz1,hz2⟩:=info_parts iBy;refine(callsIn_wide (n:=5)).1 ?_;refine callsIn_of_wp_marks Tryz.func142 rfl trivial ?_ rfl;simp only[Tryz.ntmps142,QB,Qw,Tl,SE,Xt,VU,VT,Wt,Wc,WU,Vj]
 gi_wp2
 obtain⟨W0,hW0⟩:∃W0,W0=w.alloc (.cells #[.slice none 0 0] 23):=⟨_,rfl⟩
 have hsz:W0.heap.size=w.heap.size+1:=by rw[hW0,Qa]
 have hv0:W0.heap[w.heap.size]? = some (.cells #[.slice none 0 0] 23 (0,0)):=by rw[hW0];exact World.alloc_heap_new w _
 have hB0:Below w.heap.size w W0:=by rw[hW0];exact(Qd _ w).alloc (PQ _) _
 rw[<-hW0];clear hW0;refine wpIn_rangeFunc_ownH (α:=Nat) rfl (by decide) (gf:=gf) (lb:=lb) rfl trivial eg (hseq 4) belowK_t (belowK_b (by omega)) hB0 (fun _=>rfl)
  (fun pre W=>Box 28 23 w.heap.size w.heap.size (pre.map (fun i=>SR (some (g i)) c c)) W/\Below w.heap.size w W)
  (fun c pre W=>False)
  (OwnFrom.and (Own.from (show Own (fun(pre:List Nat) W=>Box 28 23 w.heap.size w.heap.size (pre.map (fun i=>SR (some (g i)) c c)) W) from fun s A B row hs hg hr=>J2 28 23 w.heap.size w.heap.size (s.map (fun i=>SR (some (g i)) c c)) () A B row hs hg hr) _) (ownFrom_below (PQ _) (by omega)))
  (fun c=>fun s A B row hs hg hr=>hs.elim)
  ⟨⟨_,hv0,⟨rfl,.inl ⟨rfl,rfl⟩⟩,by simp⟩,hB0⟩
  (fun x a' W=>a' = { tmps:=#[.slice none 0 0,.func (.func gf) #[] lb,.pointer (some ⟨w.heap.size,0,none⟩),undef,.slice none 0 0,(.slice (some (g x)) c c),.func (.func gf) #[] lb,(.slice (some (g x)) c c),undef,undef,undef,undef,undef],defers:=[] })
  (fun x a'=>fun s A B row hs hg hr=>hs) ?assign ?body ?done ?stop
 case assign =>
  intro l pre x W K hI hK
  gi_wp2
  exact hK _ _ (KeepsFrom.refl _ _) (Qd _ _) hI rfl
 case body =>
  rintro l pre x a' W hl ⟨r,hr⟩ ⟨⟨v,hv,hrow,hnil⟩,hB⟩ rfl hlt;have hc:W.cell? ⟨w.heap.size,0,none⟩=some v:=by simp[RU,hv]
  have hfz:W.frozen? ⟨w.heap.size,0,none⟩=false:=by simp[Ti,hv]
  have hBlt:w.heap.size<W.heap.size:=(Qg.1 hv).1;have hlen:(pre.map (fun i=>SR (some (g i)) c c)).length=pre.length:=Qb _;have hrow2:(W.alloc (.cells #[(.slice (some (g x)) c c)] 28)).ownsRow w.heap.size 28 1 v (pre.map (fun i=>SR (some (g i)) c c)).length (pre.map (fun i=>SR (some (g i)) c c)):=hrow.alloc _;have hv2:(W.alloc (.cells #[(.slice (some (g x)) c c)] 28)).heap[w.heap.size]? = some (.cells #[v] 23 (0,0)):=(Below.heap_alloc _ _ _ hBlt).trans hv;have hap:=iG (U:=0) hrow2 hv2 (fun cs e=>by cases e)
  gi_wp2_with (gi_at_builtin;refine Hid.out ?_)
  show wpListIn _ _ _ _ _ _ _ _
  (refine wpListIn_append_own _ rfl _ _ 23 rfl w.heap.size 28 i0 (.slice none 0 0) 1 24 uBB hi hz0 hz1 hz2 rfl (by decide) v _ _ rfl hrow2 ⟨W.heap.size,0,none⟩ 1 1 [(.slice (some (g x)) c c)] rfl rfl (cell_one_new _ _ _) (fun u hu=>by rw[List.mem_singleton.1 hu];rfl) (by rw[hlen];exact Qn (show pre.length+1<=1048577 by omega) (by decide)) (by rw[hlen];omega) (by simp;omega) ?_;intro v' w3 hown' hg3 hnil3)
  have hne:(some w.heap.size:Option Nat)≠v.ownBlock:=by
   rcases hap with e|e
   ·rw[e];simp
   ·exact fun e'=>e e'.symm
  have hv3:w3.heap[w.heap.size]? = some (.cells #[v] 23 (0,0)):=(hg3.block _ (by rw[Qa];omega) hne).trans hv2;have hc3:w3.cell? ⟨w.heap.size,0,none⟩=some v:=by simp[RU,hv3]
  have hf3:w3.frozen? ⟨w.heap.size,0,none⟩=false:=by simp[Ti,hv3]
  have hk3:KeepsOthers W w3:=(KeepsOthers.alloc W _).trans (GK hrow2 hg3);have hb3:Below w.heap.size W w3:=((Qd _ W).alloc (Nat.le_of_lt hBlt) _).grown hg3 (by rw[Qa];omega) (fun k e=>(hrow2.lt k e).1);obtain⟨g',cap',cur',rfl,hbase',hgb',hr⟩:∃g' cap' cur',v'=.slice (some ⟨g',0,none⟩) ((pre.map (fun i=>SR (some (g i)) c c)).length+1) cap'/\w.heap.size<=g'/\w3.heap[g']? = some (.cells cur' 28 (0,0))/\True:=by
   rcases hown'.2 with⟨_,h0⟩|⟨g',cap',cur',h1,h2,h3,_⟩
   ·exact absurd h0 (by omega)
   ·exact⟨g',cap',cur',h1,h2,h3,trivial⟩
  clear hg3 hc hfz hv hv2 hrow hrow2
  gi_wp2
  have hgB:=EO w3 w.heap.size (.slice (some ⟨g',0,none⟩) (pre.length+1) cap');have hBx:=J1 (.slice (some ⟨g',0,none⟩) (pre.length+1) cap') hv3;rw[hlen]at hown';have hown4:=hown'.kept hgB (iG (U:=0) hown' hv3 (fun cs e=>by cases e));have hb4:Below w.heap.size W (w3.setCell ⟨w.heap.size,0,none⟩ (.slice (some ⟨g',0,none⟩) (pre.length+1) cap')):=hb3.grown hgB (Qn hB.size hb3.size) (fun k e=>by cases e;exact PQ _);refine⟨(hk3.trans (Vw w3 _ _)).from _,hb4,⟨_,hBx,?_,?_⟩,hB.trans hb4⟩
  ·rw[RL,PY,hlen];exact hown4
  ·simp
 case done =>
  rintro D ys W hD rfl ⟨⟨v,hv,hrow,hnil⟩,hB⟩ hK;have hc:W.cell? ⟨w.heap.size,0,none⟩=some v:=by simp[RU,hv]
  gi_wp2
  refine⟨by simp,.inl ⟨_,_,rfl,run_takeDeferred hK,?_⟩⟩;have hgD:=grownBy_putObj' W D (.deferred none);rw[Qb,Sv]at hrow;refine⟨_,results_tmp rfl _ _ _,v,rfl,hB.grown hgD hB.size (fun k e=>by cases e;omega),hrow.kept hgD (iG (U:=0) hrow hK (fun cs e=>by cases e)),?_⟩;rw[hnil];simp
 case stop =>
  rintro D c pre W hD hpre hF hK;exact hF.elim
theorem EI(g:Nat->Addr)(c:Nat)(gf:Nat)(eg:∀args w,(callFunc gf args).run prog w=.ok (.enter gf args) w)(lb:Array Value)(N:Nat)(hN:N<=1048576)(w:World)
 (hseq:∀n,SeqStopsK Wg n prog gf lb (fun i:Nat=>#[.slice (some (g i)) c c]) (Below w.heap.size) (fun xs=>xs=QJ N) (fun _=>True) N w) :
 Calls prog 98 #[.func (.func gf) #[] lb] w (Ret fun e w'=>Below w.heap.size w w'/\w'.ownsRow w.heap.size 28 1 e N ((QJ N).map (fun i=>SR (some (g i)) c c))/\(e=.slice none 0 0↔N=0)):=by
 go_enter Tryz.func98,Tryz.ntmps98;go_wp2_with fail
 refine(Ad g c gf eg lb N hN w hseq).mono ?_;rintro e w1 ⟨v,rfl,hb,hr,hn⟩;go_wp2_with fail
 go_ret;exact⟨_,rfl,hb,hr,hn⟩
theorem zQ(sb so c m n cap:Nat)(w:World)(hc:0<c)(hn:n=c*m)(hm:m<=1024)(hcap:n<=cap)(hbig:n<=1073741824)(k:Nat)(hk:k+1<w.heap.size)(h1:w.cell? ⟨k,0,none⟩=some (.slice (some ⟨sb,so,none⟩) n cap))(h2:w.cell? ⟨k+1,0,none⟩=some (.int .i64 c)):
 Calls prog 98 #[.func (.func 143) #[] #[.pointer (some ⟨k,0,none⟩),.pointer (some ⟨k+1,0,none⟩)]] w (Ret fun e w'=>Below w.heap.size w w'/\w'.ownsRow w.heap.size 28 1 e m ((QJ m).map (chv sb so c))/\(e=.slice none 0 0↔m=0)):=
 EI (fun i=>⟨sb,so+c*i,none⟩) c _ (enters_of Tryz.func143 (by kernel_rfl) rfl) _ m (by omega) w (JW sb so c m n cap k (k+1) w hc hn hcap hbig h1 h2 (by omega) hk)
theorem zR(sb so n cap:Nat)(c:Nat)(hc:0<c)(w:World):Calls prog 99 #[.slice (some ⟨sb,so,none⟩) n cap,.int .i64 c] w (Ret fun e w'=>e=.func (.func 143) #[] #[.pointer (some ⟨w.heap.size,0,none⟩),.pointer (some ⟨w.heap.size+1,0,none⟩)]/\w'=(w.alloc (.cells #[.slice (some ⟨sb,so,none⟩) n cap] 28)).alloc (.cells #[.int .i64 c] 3)):=by
 have h1:¬(c:Int)<1:=by omega
 go_enter Tryz.func99,Tryz.ntmps99;go_wp2;go_ret;exact⟨_,rfl,rfl,rfl⟩
end
section
open Go.RowKit Go.Sort Go.Deep
variable {P:Nat}[NeZero P]{N:Nat}
theorem Eu(C:Fld P)(O:Ord N){g c n:Nat}(hn:n<N){X:EC.Pt P}(hX:EC.On X)(w:World)(hR:Row w g (wn n++aA (wr X))):
 Calls prog 48 #[.slice (some ⟨g,0,none⟩) 1 c] w (Ret fun e w'=>Below w.heap.size w w'/\e=pvl (wr (EC.mul n X))):=by
 by_cases h0:n=0
 ·subst h0;refine(iY C O _ w 0 (by decide) (fun _=>0) (fun _=>X) (fun j hj=>by omega) (fun j hj=>by omega) fun W hb=>?_).mono ?_
  ·refine(GF g c (wr X) (aX X) W (hR.below hb).1 (hR.below hb).2.1).mono ?_;rintro e w' ⟨v,rfl,hb',q,cap,rfl⟩;exact⟨_,rfl,hb',q,cap,rfl,fun h=>by omega⟩
  ·rintro e w' ⟨v,rfl,hb',rfl⟩;exact⟨_,rfl,hb',rfl⟩
 ·refine(iY C O _ w 1 (by decide) (fun _=>n) (fun _=>X) (fun j hj=>hn) (fun j hj=>hX) fun W hb=>?_).mono ?_
  ·have e1:mrg N (fun _=>n) (fun _=>wr X) 1=[(n,wr X)]:=rfl;have h:=GA (N:=N) g 1 c (by decide) (fun _=>n) (fun _=>wr X) (fun _ _=>aX X) (fun i hi=>by
    obtain rfl:i=0:=by omega
    rfl) (fun x hx=>by
    rw[e1]at hx;obtain rfl:x=(n,wr X):=by simpa using hx
    exact⟨h0,PS hn O.le⟩) (by rw[e1];exact Su 0) W (hR.below hb).1 (fun j hj=>by
    obtain rfl:j=0:=by omega
    exact(hR.below hb).2.1)
   refine h.mono ?_;rintro e w' ⟨v,rfl,hb',g',cap,rfl,h1,h2,h3⟩;refine⟨_,rfl,hb',some ⟨g',0,none⟩,cap,rfl,fun _=>⟨g',rfl,h2,fun j hj=>?_⟩⟩;have:=h3 j hj;obtain rfl:j=0:=by omega
   exact this
  ·rintro e w' ⟨v,rfl,hb',rfl⟩;exact⟨_,rfl,hb',rfl⟩
theorem vM(C:Fld P)(O:Ord N){n:Nat}(hn:n<N){X:EC.Pt P}(hX:EC.On X):Gives 15 #[nv n,pvl (wr X)] (pvl (wr (EC.mul n X))):=by
 intro w;have HC:Hid (Fld P/\Ord N/\n<N/\EC.On X):=⟨C,O,hn,hX⟩
 obtain⟨a,hae⟩:∃a,Hid (wr X=a):=⟨_,rfl⟩
 have ha:a.size=33:=by rw[<-hae.out];exact aX X
 rw[hae.out];clear C O hn hX;have B2:=Hid.mk' (boxS n w);obtain⟨w1,hw1⟩:∃w1,Hid (w.alloc (.cells (wn n).toArray 46)=w1):=⟨_,rfl⟩
 rw[hw1.out]at B2;have e1:w1.heap.size=w.heap.size+1:=by rw[<-hw1.out,Qa]
 have B1:=Hid.mk' (zY ha w1);obtain⟨w2,hw2⟩:∃w2,Hid (w1.alloc (.cells (aA a).toArray 51)=w2):=⟨_,rfl⟩
 rw[hw2.out,e1]at B1;have e2:w2.heap.size=w.heap.size+2:=by rw[<-hw2.out,Qa,e1]
 obtain⟨w3,hw3⟩:∃w3,Hid (w2.alloc (.cells z33.toArray 51)=w3):=⟨_,rfl⟩
 have K:Hid (Row w3 w.heap.size (wn n)/\Row w3 (w.heap.size+1) (aA a)/\Row w3 (w.heap.size+2) z33/\Below w.heap.size w w3):=by
  have q1:Row w1 w.heap.size (wn n):=by rw[<-hw1.out];exact aM w _ _
  have q2:Row w2 (w.heap.size+1) (aA a):=by rw[<-hw2.out,<-e1];exact aM w1 _ _
  have q3:Row w3 (w.heap.size+2) z33:=by rw[<-hw3.out,<-e2];exact aM w2 _ _
  have b1:Below w.heap.size w w1:=by rw[<-hw1.out];exact aE w _
  have b2:Below w1.heap.size w1 w2:=by rw[<-hw2.out];exact aE w1 _
  have b3:Below w2.heap.size w2 w3:=by rw[<-hw3.out];exact aE w2 _
  exact⟨(q1.below b2).below b3,q2.below b3,q3,(b1.trans (b2.mono (by omega))).trans (b3.mono (by omega))⟩
 have HE:Hid (w2.heap.size=w.heap.size+2):=e2;have HL:Hid ((prog.info? 51).map (·.size)=some (aA a).length):=by show _=_;rw[aF ha];exact aW
 obtain⟨d,hd1,hd2⟩:=PV.1 uCP;obtain⟨d',hd3,hd4⟩:=PV.1 u40;have HD:Hid ((prog.underlying 51=some d/\d.isRow=true)/\prog.underlying 46=some d'/\d'.isRow=true):=⟨⟨hd1,hd2⟩,hd3,hd4⟩
 clear hd1 hd2 hd3 hd4 hw1 hw2 e1 e2;obtain⟨va,hva⟩:∃v,Hid (pvl a=v):=⟨_,rfl⟩
 obtain⟨vn,hvn⟩:∃v,Hid (nv n=v):=⟨_,rfl⟩
 have B1':Hid ((Ug 51 va).run prog w1=.ok (.pointer (some ⟨w.heap.size+1,0,none⟩)) w2):=by rw[<-hva.out];exact B1
 rw[hvn.out]at B2;rw[hva.out,hvn.out];clear B1;go_enter Tryz.func15,Tryz.ntmps15;go_wp2_with (first|(refine cR (u:=vn) (v:=.pointer (some ⟨w.heap.size,0,none⟩)) (w':=w1) rfl 46 (.tmp 0) rfl ?_ ?_ ?_;rfl;exact B2.out)|(refine cR (u:=va) (v:=.pointer (some ⟨w.heap.size+1,0,none⟩)) (w':=w2) rfl 51 (.tmp 1) rfl ?_ ?_ ?_;rfl;exact B1'.out)|(refine aQ (v:=.pointer (some ⟨w.heap.size+2,0,none⟩)) (w':=w3) rfl (.alloc 51) rfl ?_ ?_;(rw[<-hw3.out,<-HE.out];kernel_rfl))|(refine wpList_load_mid rfl 46 _ rfl w.heap.size 0 ?_ (wn n) d' ?_ ?_ ?_ ?_ ?_;rfl;exact K.out.1.2.1;exact HD.out.2.1;exact HD.out.2.2;exact i40;rw[show QD (wn n).toArray=vn from hvn.out])|(refine wpList_load_mid rfl 51 _ rfl (w.heap.size+1) 0 ?_ (aA a) d ?_ ?_ ?_ ?_ ?_;rfl;exact K.out.2.1.2.1;exact HD.out.1.1;exact HD.out.1.2;exact HL.out;rw[show QD (aA a).toArray=va from hva.out]))
 have HT:=oQ a ha n w3;rw[hva.out,hvn.out]at HT;refine HT.mono ?_;rintro e w4 ⟨vv,rfl,hb4,k4,rfl,-,hR4⟩;have K4:Hid (Row w4 (w.heap.size+2) z33/\Below w.heap.size w w4/\Row w4 k4 (wn n++aA a)):=⟨K.out.2.2.1.below hb4,K.out.2.2.2.trans (hb4.mono K.out.2.2.2.size),hR4⟩
 clear hb4 hR4 K HT B2 B1' hw3 HE;go_wp2_with fail
 refine(Eu HC.out.1 HC.out.2.1 HC.out.2.2.1 HC.out.2.2.2 w4 (by rw[hae.out];exact K4.out.2.2)).mono ?_;rintro e w5 ⟨vv,rfl,hb5,rfl⟩;obtain⟨T,hT⟩:∃T,Hid (wr (EC.mul n X)=T):=⟨_,rfl⟩
 have hTs:T.size=33:=by rw[<-hT.out];exact aX _
 rw[hT.out];have K5:Hid (Row w5 (w.heap.size+2) z33/\Below w.heap.size w w5):=⟨K4.out.1.below hb5,K4.out.2.1.trans (hb5.mono K4.out.2.1.size)⟩
 clear hb5 K4;obtain⟨w6,hw6⟩:∃w6,Hid (w5.setCells (w.heap.size+2) 0 (aA T)=w6):=⟨_,rfl⟩
 have hlen:(aA T).length=33:=aF hTs;have K6:Hid (Row w6 (w.heap.size+2) (aA T)/\Below w.heap.size w w6):=by rw[<-hw6.out];exact⟨K5.out.1.put (by rw[hlen];rfl),RG.below_setCells (by omega) _ _ _ K5.out.2⟩
 obtain⟨vt,hvt⟩:∃vt,Hid (pvl T=vt):=⟨_,rfl⟩
 have HI:Hid ((prog.info? 51).map (·.size)=some (aA T).length/\w5.there (w.heap.size+2) 0 (aA T).toArray.size/\(prog.info? 51).map (·.size)=some (aA T).toArray.size):=by
  have e:(aA T).toArray.size=33:=by rw[QB];exact hlen
  refine⟨by rw[hlen];exact aW,by rw[e];exact K5.out.1.2.2,by rw[e];exact aW⟩
 clear hlen;rw[hvt.out];go_wp2_with (first|(refine wpList_store_mid rfl 51 _ _ rfl (w.heap.size+2) 0 (aA T).toArray ?_ ?_ ?_ ?_ ?_ ?_;rfl;exact hvt.out.symm;exact HI.out.2.1;exact HI.out.2.2;exact eX T;rw[show(aA T).toArray.toList=aA T from rfl,hw6.out]))
 refine bodyPost_ret (aY 4 51 rfl K6.out.1 rfl uCP HI.out.1) rfl ?_;exact⟨_,rfl,K6.out.2,by rw[hT.out];rfl⟩
def lR(f:Nat->UInt8):List Value:=(QJ 33).map fun i=>.int .u8 (ub (f i))
theorem nP{a:Bs}(ha:a.size=33):aA a=lR fun i=>a[i]!:=(iR ha).trans rfl
def fpv(f:Nat->UInt8):Value:=.agg (lR f).toArray
theorem AV{a:Bs}(ha:a.size=33):pvl a=fpv fun i=>a[i]!:=by unfold pvl fpv;rw[nP ha]
def zz(n:Nat):List Value:=(List.replicate n (Value.int .u8 0))
end
section
open Go.RowKit Go.Sort Go.Deep
variable {P:Nat}[NeZero P]{N:Nat}
structure Kp(w:World)(W:World)(rs:List (Nat × List Value)):Prop where
 bl:Below w.heap.size w W
 rw:∀x∈rs,Row W x.1 x.2
theorem Kp.grow{w W W':World}{rs:List (Nat × List Value)}(h:Kp w W rs)(hb:Below W.heap.size W W'):Kp w W' rs:=⟨h.bl.trans (hb.mono h.bl.size),fun x hx=>(h.rw x hx).below hb⟩
theorem Kp.drew{w W:World}{rs:List (Nat × List Value)}(h:Kp w W rs):Kp w W.drew rs:=⟨h.bl.drew,h.rw⟩
theorem Kp.cons{w W:World}{rs:List (Nat × List Value)}{k:Nat}{c:List Value}(h:Kp w W rs)(hr:Row W k c):Kp w W ((k,c) :: rs):=⟨h.bl,fun x hx=>by
 rcases QU.1 hx with rfl|hx
 ·exact hr
 ·exact h.rw x hx⟩
theorem Kp.at{w W:World}{rs:List (Nat × List Value)}(h:Kp w W rs){k:Nat}{c:List Value}(i:Nat)(hi:rs[i]? = some (k,c)):Row W k c:=h.rw _ (List.mem_of_getElem? hi)
theorem Kp.put{w W:World}{rs:List (Nat × List Value)}{k:Nat}{old new:List Value}(h:Kp w W rs)(hr:Row W k old)(hl:new.length=old.length)(hk:w.heap.size<=k)(hne:∀x∈rs,x.1≠k):Kp w (W.setCells k 0 new) ((k,new) :: rs):=
 ⟨RG.below_setCells hk _ _ _ h.bl,fun x hx=>by
  rcases QU.1 hx with rfl|hx
  ·exact hr.put hl
  ·exact(h.rw x hx).other (hne x hx)⟩
def Nw(B:Nat)(c:List Value)(v:Value)(W:World):Prop:=∃k,v=.pointer (some ⟨k,0,none⟩)/\B<=k/\Row W k c
theorem Nw.grow{B:Nat}{c:List Value}{v:Value}{W W':World}(h:Nw B c v W)(hb:Below W.heap.size W W'):Nw B c v W':=by
 obtain⟨k,h1,h2,h3⟩:=h;exact⟨k,h1,h2,h3.below hb⟩
section
variable (w:World) (k6 k8 k9 k10 x kk c z B0:Nat) (A F:Bs) (v1:Value)
def R5:Nat->Value->World->Prop
 | 0,v,_=>v=nv kk
 | 1,v,_=>v=pvl A
 | 2,v,_=>v=pvl F
 | 3,v,W=>Nw B0 z33 v W
 | _,_,_=>True
def G5:RG.Gw:=⟨R5 kk B0 A F,fun W=>Kp w W [(k8,wn kk),(k6,wn x)]/\B0<=W.heap.size,fun i v W W' hb h=>by
 match i,h with
 | 0,h=>exact h
 | 1,h=>exact h
 | 2,h=>exact h
 | 3,h=>exact Nw.grow h hb
 | _+4,_=>trivial,fun W W' hb h=>⟨h.1.grow hb,Qn h.2 hb.size⟩⟩
def R6(A':Bs):Nat->Value->World->Prop
 | 0,v,_=>v=nv x
 | 1,v,_=>v=pvl A
 | 2,v,_=>v=pvl A'
 | 3,v,_=>v=pvl F
 | 4,v,_=>v=v1
 | 5,v,_=>v=nv c
 | 6,v,W=>Nw B0 [.int .u64 0,.int .u64 0,.int .u64 0,.int .u64 0] v W
 | _,_,_=>True
def G6(A':Bs):RG.Gw:=⟨R6 x c B0 A F v1 A',fun W=>Kp w W [(k9,aA F),(k8,wn kk),(k6,wn x)]/\B0<=W.heap.size,fun i v W W' hb h=>by
 match i,h with
 | 0,h=>exact h
 | 1,h=>exact h
 | 2,h=>exact h
 | 3,h=>exact h
 | 4,h=>exact h
 | 5,h=>exact h
 | 6,h=>exact Nw.grow h hb
 | _+7,_=>trivial,fun W W' hb h=>⟨h.1.grow hb,Qn h.2 hb.size⟩⟩
def Two(v:Value)(W:World):Prop:=∃k y,v=.slice (some ⟨k,0,none⟩) 2 2/\k<W.heap.size/\W.cell? ⟨k,0,none⟩=some (.slice (some ⟨k9,0,none⟩) 33 33)/\W.cell? ⟨k,1,none⟩=some y/\El 32 W y (bx z)
def Ans(v:Value)(W:World):Prop:=W.ownsRow B0 5 1 v 65 ((F.toList++(bx z).toList).map encB)
def R7:Nat->Value->World->Prop
 | 0,v,_=>v=.slice (some ⟨k9,0,none⟩) 33 33
 | 1,v,_=>v=nv c
 | 2,v,_=>v=nv kk
 | 3,v,_=>v=nv x
 | 4,v,_=>v=nv z
 | 5,v,W=>El 32 W v (bx z)
 | 6,v,W=>Two k9 z v W
 | 7,v,W=>Ans z B0 F v W
 | 8,v,W=>Ans z B0 F v W
 | 9,v,_=>v=.int .i64 0
 | _,_,_=>True
theorem Ans.grow{v:Value}{W W':World}(h:Ans z B0 F v W)(hb:Below W.heap.size W W'):Ans z B0 F v W':=
 h.kept (row:=none) ⟨hb.os,hb.tape,hb.output,hb.size,fun k hk _=>hb.block k hk⟩ (by cases hv:v.ownBlock<;>simp)
theorem Two.grow{v:Value}{W W':World}(h:Two k9 z v W)(hb:Below W.heap.size W W'):Two k9 z v W':=by
 obtain⟨k,y,h1,h2,h3,h4,h5⟩:=h;exact⟨k,y,h1,PS h2 hb.size,by rw[hb.cell (p:=⟨k,0,none⟩) h2];exact h3,by rw[hb.cell (p:=⟨k,1,none⟩) h2];exact h4,h5.below hb (PQ _)⟩
def G7:RG.Gw:=⟨R7 k9 x kk c z B0 F,fun W=>Kp w W [(k10,wn c),(k9,aA F),(k8,wn kk),(k6,wn x)]/\B0<=W.heap.size,fun i v W W' hb h=>by
 match i,h with
 | 0,h=>exact h
 | 1,h=>exact h
 | 2,h=>exact h
 | 3,h=>exact h
 | 4,h=>exact h
 | 5,h=>exact El.below h hb (PQ _)
 | 6,h=>exact Two.grow k9 z h hb
 | 7,h=>exact Ans.grow z B0 F h hb
 | 8,h=>exact Ans.grow z B0 F h hb
 | 9,h=>exact h
 | _+10,_=>trivial,fun W W' hb h=>⟨h.1.grow hb,Qn h.2 hb.size⟩⟩
end
end
section
open Go.RowKit Go.Sort Go.Deep
variable {P:Nat}[NeZero P]{N:Nat}
theorem fR{P:Program}{fn:Func}{tmps:Array Value}{W:World}{k:Nat}{vs:List Value}{v:Value}(t u:Tmp)(T:TypeId)(hr:fn.results=#[.cell t T,.tmp u])(h:Row W k vs)(ht:tmps[t]? = some (.pointer (some ⟨k,0,none⟩)))(hv:tmps[u]? = some v)
 (hu:(P.underlying T).map (·.isRow)=some true) (hi:(P.info? T).map (·.size)=some vs.length):(results fn tmps).run P W=.ok (.tuple #[.agg vs.toArray,v]) W:=by
 obtain⟨d,hu,hd⟩:=PV.1 hu;have h1:=run_loadVar_mid (P:=P) W k 0 T vs d h.2.1 hu hd hi;have h2:tmps.getD t undef=.pointer (some ⟨k,0,none⟩):=by rw[PZ,ht];rfl
 have h3:tmps.getD u undef=v:=by rw[PZ,hv];rfl
 unfold results;rw[hr];simp only[Array.mapM_eq_mapM_toList,List.mapM_cons,List.mapM_nil,h2,h3,asAddr];simp[Qi,h1]
theorem Oa(w:World):(Instr.build 51 #[]).run prog w=.ok (.agg z33.toArray) w:=by kernel_rfl
theorem MJ(g o cg:Nat)(w:World):(Instr.arrayAt 51 (.slice (some ⟨g,o,none⟩) 33 cg)).run prog w=.ok (.pointer (some ⟨g,o,none⟩)) w:=by kernel_rfl
theorem yK{bs:Bs}{p:Fin P × Fin P}(h:rd P bs=some p):bs.size=33:=by
 unfold rd at h;split at h
 ·assumption
 ·cases h
theorem EB{W:World}{g o:Nat}{b:Bs}(h:Holds encB W g o b):W.rangeAt g o (aA b):=fun j u hu=>by
 unfold aA at hu;rw[QX]at hu;obtain⟨x,hx,rfl⟩:=PV.1 hu;have hj:j<b.size:=by have:=(Qe.1 hx).1;simpa using this
 rw[(h j hj).1,getElem!_pos b j hj];rw[QE,Qo hj]at hx;rw[Qh.inj hx]
theorem Dp(C:Fld P)(v:Value)(bs:Bs)(p:Fin P × Fin P)(w:World)(hv:Arg33 w v bs)(hr:rd P bs=some p):Calls prog 96 #[v] w (Ret fun e w'=>Below w.heap.size w w'/\e=.tuple #[pvl bs,.bool true]):=by
 have hs:=yK hr;have HG:Hid (∀W,Below w.heap.size w W->Calls prog 141 #[v] W (Ret fun e w'=>Below W.heap.size W w'/\e=.bool true)):=fun W hb=>by
  have h:=zG C v bs W (hv.below hb);rw[hr]at h;exact h
 obtain⟨q,n,cap,rfl,e1,e2⟩:=hv;rw[hs]at e1;subst e1;obtain⟨g,o,rfl,-,hg,hH⟩:=e2 rfl;have HH:Hid (w.rangeAt g o (aA bs)/\g<w.heap.size):=⟨EB hH,hg⟩
 obtain⟨w1,hw1⟩:∃w1,Hid (w.alloc (.cells z33.toArray 51)=w1):=⟨_,rfl⟩
 have K1:Hid (Row w1 w.heap.size z33/\Below w.heap.size w w1):=by rw[<-hw1.out];exact⟨aM w _ _,aE w _⟩
 obtain⟨d,hd1,hd2⟩:=PV.1 uCP;have HD:Hid (prog.underlying 51=some d/\d.isRow=true):=⟨hd1,hd2⟩
 have HS:=Hid.mk' hs;have harr:=MJ g o cap;clear hd1 hd2 C hr hs hH hg e2;go_enter Tryz.func96,Tryz.ntmps96;go_wp2_with (first|(refine aQ (v:=.pointer (some ⟨w.heap.size,0,none⟩)) (w':=w1) rfl (.alloc 51) rfl ?_ ?_;(rw[<-hw1.out];kernel_rfl))|fail)
 refine(HG.out w1 K1.out.2).mono ?_;rintro e w2 ⟨vv,rfl,hb2,rfl⟩;have K2:Hid (Row w2 w.heap.size z33/\Below w.heap.size w w2/\w2.rangeAt g o (aA bs)):=⟨K1.out.1.below hb2,K1.out.2.trans (hb2.mono K1.out.2.size),RG.range_below HH.out.1 (K1.out.2.trans (hb2.mono K1.out.2.size)) HH.out.2⟩
 clear hb2 K1 hw1 HG;obtain⟨w3,hw3⟩:∃w3,Hid (w2.setCells w.heap.size 0 (aA bs)=w3):=⟨_,rfl⟩
 have hlen:(aA bs).length=33:=aF HS.out;have K3:Hid (Row w3 w.heap.size (aA bs)/\Below w.heap.size w w3):=by rw[<-hw3.out];exact⟨K2.out.1.put (by rw[hlen];rfl),RG.below_setCells (PQ _) _ _ _ K2.out.2.1⟩
 obtain⟨vt,hvt⟩:∃vt,Hid (QD (aA bs).toArray=vt):=⟨_,rfl⟩
 have HI:Hid ((prog.info? 51).map (·.size)=some (aA bs).length/\w2.there w.heap.size 0 (aA bs).toArray.size/\(prog.info? 51).map (·.size)=some (aA bs).toArray.size):=by
  have e:(aA bs).toArray.size=33:=by rw[QB];exact hlen
  refine⟨by rw[hlen];exact aW,by rw[e];exact K2.out.1.2.2,by rw[e];exact aW⟩
 clear hlen;go_wp2_with (first|(refine wpList_load_mid rfl 51 _ rfl g o ?_ (aA bs) d ?_ ?_ ?_ ?_ ?_;rfl;exact K2.out.2.2;exact HD.out.1;exact HD.out.2;exact HI.out.1;rw[hvt.out])|(refine wpList_store_mid rfl 51 _ _ rfl w.heap.size 0 (aA bs).toArray ?_ ?_ ?_ ?_ ?_ ?_;rfl;exact hvt.out.symm;exact HI.out.2.1;exact HI.out.2.2;exact eX bs;rw[show(aA bs).toArray.toList=aA bs from rfl,hw3.out])|fail)
 refine bodyPost_ret (fR 2 3 51 rfl K3.out.1 rfl rfl uCP HI.out.1) rfl ?_;exact⟨_,rfl,K3.out.2,rfl⟩
theorem Dq(C:Fld P)(v:Value)(bs:Bs)(w:World)(hv:Arg33 w v bs)(hr:rd P bs=none):Calls prog 96 #[v] w (Ret fun e w'=>Below w.heap.size w w'/\e=.tuple #[.agg z33.toArray,.bool false]):=by
 have HG:Hid (∀W,Below w.heap.size w W->Calls prog 141 #[v] W (Ret fun e w'=>Below W.heap.size W w'/\e=.bool false)):=fun W hb=>by
  have h:=zG C v bs W (hv.below hb);rw[hr]at h;exact h
 clear hv hr C;obtain⟨w1,hw1⟩:∃w1,Hid (w.alloc (.cells z33.toArray 51)=w1):=⟨_,rfl⟩
 have K1:Hid (Row w1 w.heap.size z33/\Below w.heap.size w w1):=by rw[<-hw1.out];exact⟨aM w _ _,aE w _⟩
 obtain⟨vt,hvt⟩:∃vt,Hid (QD z33.toArray=vt):=⟨_,rfl⟩
 have HO:Hid (z33.toArray.all (·.oneCell')=true):=by show _=_;decide +kernel
 go_enter Tryz.func96,Tryz.ntmps96;go_wp2_with (first|(refine aQ (v:=.pointer (some ⟨w.heap.size,0,none⟩)) (w':=w1) rfl (.alloc 51) rfl ?_ ?_;(rw[<-hw1.out];kernel_rfl))|fail)
 refine(HG.out w1 K1.out.2).mono ?_;rintro e w2 ⟨vv,rfl,hb2,rfl⟩;have K2:Hid (Row w2 w.heap.size z33/\Below w.heap.size w w2):=⟨K1.out.1.below hb2,K1.out.2.trans (hb2.mono K1.out.2.size)⟩
 clear hb2 K1 hw1 HG;obtain⟨w3,hw3⟩:∃w3,Hid (w2.setCells w.heap.size 0 z33=w3):=⟨_,rfl⟩
 have K3:Hid (Row w3 w.heap.size z33/\Below w.heap.size w w3):=by rw[<-hw3.out];exact⟨K2.out.1.put rfl,RG.below_setCells (PQ _) _ _ _ K2.out.2⟩
 have HB:=Hid.mk' (Oa w2);rw[hvt.out]at HB;go_wp2_with (first|(refine lY (v:=vt) (w':=w2) rfl 51 _ rfl #[] ?_ ?_ ?_;kernel_rfl;exact HB.out)|(refine wpList_store_mid rfl 51 _ _ rfl w.heap.size 0 z33.toArray ?_ ?_ ?_ ?_ ?_ ?_;rfl;exact hvt.out.symm;exact K2.out.1.2.2;exact aW;exact HO.out;rw[show z33.toArray.toList=z33 from rfl,hw3.out])|fail)
 refine bodyPost_ret (fR 2 3 51 rfl K3.out.1 rfl rfl uCP aW) rfl ?_;exact⟨_,rfl,K3.out.2,rfl⟩
def o33:Bs:=Array.replicate 33 0
theorem CU:(.agg z33.toArray:Value)=pvl o33:=by
 unfold pvl z33 o33 aA;rw[Array.toList_replicate,List.map_replicate];rfl
theorem O5{a b:Bs}(ha:a.size=33)(hb:b.size=33)(w:World):(binOp .neq 51 (pvl a) (pvl b)).run prog w=.ok (.bool (!decide (a=b))) w:=by
 have h:=Mp ha hb w;have h2:(binOp .neq 51 (pvl a) (pvl b)).run prog w=(VX 51 (pvl a) (pvl b) >>= fun b=>pure (Value.bool (!b))).run prog w:=rfl;rw[h2,Qi];have h3:(VX 51 (pvl a) (pvl b)).run prog w=.ok (decide (a=b)) w:=h;rw[h3];rfl
noncomputable def rdB (P:Nat) [NeZero P] (b:Bs):Bs:=if (rd P b).isSome then b else o33
theorem rD(b:Bs):(rdB P b).size=33:=by
 unfold rdB;split
 ·rename_i h
  obtain⟨p,hp⟩:=Qx.1 h;exact yK hp
 ·rfl
theorem JZ(C:Fld P)(v:Value)(b:Bs)(w:World)(hv:Arg33 w v b):Calls prog 96 #[v] w (Ret fun e w'=>Below w.heap.size w w'/\e=.tuple #[pvl (rdB P b),.bool (rd P b).isSome]):=by
 unfold rdB;cases hr:rd P b with
 | none =>
  have:=Dq C v b w hv hr;rw[CU]at this;exact this
 | some p=>exact Dp C v b p w hv hr
noncomputable def real (P:Nat) [NeZero P] (b:Bs):Bool:=(rd P b).isSome && !decide (rdB P b=o33)
def Na(f g:Nat->UInt8)(z:Bool):List RG.It:=[.x 11 [] (fpv f),.x 12 [] (.bool true),.x 13 [(12,1)] (.bool true),.x 14 [] (fpv f),.x 15 [] (fpv fun _=>0),.x 16 [(14,3),(15,4)] (.bool z),.x 17 [(13,2),(16,5)] (.bool z),.u [(11,0)] 0,.x 3 [(17,6)] (.bool z)]
theorem JE:pvl o33=fpv fun _=>0:=CU.symm.trans rfl
theorem IZ(C:Fld P)(v:Value)(b:Bs)(w:World)(hv:Arg33 w v b):Calls prog 55 #[v] w (Ret fun e w'=>Below w.heap.size w w'/\e=.tuple #[pvl (rdB P b),.bool (real P b)]):=by
 have hR:∀w',RG.BelX w.heap.size [] w w'->Calls prog 96 #[v] w' (Ret fun e w''=>Below w'.heap.size w' w''/\e=.tuple #[pvl (rdB P b),.bool (rd P b).isSome]):=fun w' hb=>JZ C v b w' (hv.below hb.below)
 have hne:=O5 (rD (P:=P) b) (show o33.size=33 from rfl);unfold real;rw[AV (rD b)]at hR hne⊢;rw[JE]at hne;generalize (fun i:Nat=>(rdB P b)[i]!)=f at hR hne⊢;generalize (rd P b).isSome=ok at hR⊢;generalize (!decide (rdB P b=o33))=z at hne⊢;go_enter Tryz.func55,Tryz.ntmps55;refine RG.M.enter [(0,.v v)] 18 (by kernel_rfl) ?_;intro a0 M0;repeat refine wp_seq ?_
 refine M0.t [.m 2 [] 0,.x 3 [] (.bool false)] [(0,zz 33)] [] [zz 33] [(0,.v v),(2,.p 0 0),(3,.v (.bool false))] ⟨RG.mk 0 51,RG.st,trivial⟩ ?_;intro j1 a1 w1 M1;repeat refine wp_seq ?_
 refine M1.t [.x 7 [] v,.c 8 [(7,0)] (.tuple #[fpv f,.bool ok]),.x 6 [(8,1)] (.tuple #[fpv f,.bool ok]),.x 9 [(6,2)] (fpv f),.x 10 [(6,2)] (.bool ok),.m 4 [] 1,.u [(4,5),(9,3)] 1,.x 5 [(10,4)] (.bool ok)] [(5,zz 33)] [(1,6,lR f)] [zz 33,lR f] [(2,.p 0 0),(4,.p 1 0),(5,.v (.bool ok))] ⟨RG.st,RG.clB (fun _ _=>by kernel_rfl) hR,RG.st,RG.st,RG.st,RG.mk 1 51,RG.pt aW,RG.st,trivial⟩ ?_;intro j2 a2 w2 M2;repeat refine wp_seq ?_
 cases ok with
 | true =>
  refine M2.d (Na f f z) [] [(0,7,lR f)] [lR f,lR f] [(2,.p 0 0),(3,.v (.bool z))] ⟨RG.ld uCP aW,RG.st,RG.st,RG.ld uCP aW,RG.st,RG.aG rfl .neq 51 51 14 15 (fpv f) (fpv fun _=>0) (.bool z) rfl rfl RG.sx RG.sx (fun w=>by kernel_rfl) hne,RG.st,RG.pt aW,RG.st,trivial⟩ ?_;intro a4 w4 M4;refine wp_ret ?_;refine bodyPost_ret (v:=.tuple #[fpv f,.bool z]) (RG.aN M4.st 2 3 51 rfl 0 _ rfl (M4.at (s:=.p 0 0)) (.bool z) M4.av uCP aW) M4.sl.defers ?_;exact⟨_,rfl,M4.st.bel.below,rfl⟩
 | false =>
  refine M2.d [.x 11 [] (fpv f),.x 12 [] (.bool false),.x 13 [(12,1)] (.bool false),⟨some 14,[],(.v undef),.pass⟩,⟨some 15,[],(.v undef),.pass⟩,⟨some 16,[],(.v undef),.pass⟩,.x 17 [(13,2),(16,5)] (.bool false),.u [(11,0)] 0,.x 3 [(17,6)] (.bool false)] [] [(0,7,lR f)] [lR f,lR f] [(2,.p 0 0),(3,.v (.bool false))] ⟨RG.ld uCP aW,RG.st,RG.st,RG.aH rfl rfl,RG.aH rfl rfl,RG.aH rfl rfl,RG.st,RG.pt aW,RG.st,trivial⟩ ?_;intro a4 w4 M4;refine wp_ret ?_;refine bodyPost_ret (v:=.tuple #[fpv f,.bool false]) (RG.aN M4.st 2 3 51 rfl 0 _ rfl (M4.at (s:=.p 0 0)) (.bool false) M4.av uCP aW) M4.sl.defers ?_;exact⟨_,rfl,M4.st.bel.below,rfl⟩
theorem atP(k o n c i:Nat)(hi:i<n)(w:World):(QV 110 (.slice (some ⟨k,o,none⟩) n c) (.int .i64 i)).run prog w=.ok (.pointer (some ⟨k,o+33*i,none⟩)) w:=by
 have h1:¬(i:Int)<0:=by omega
 have h2:(i:Int)<n:=by omega
 go_simp
theorem O7(N:Nat)(hN:N<=512):∃C0:List Value,C0.length=33*N/\∀w:World,(Rm 110 (.int .i64 N) (.int .i64 N)).run prog w=.ok (.slice (some ⟨w.heap.size,0,none⟩) N N) (w.alloc (.cells C0.toArray 51)):=by
 have hu:prog.underlying 110=some (.slice 51):=by kernel_rfl
 have hi:(prog.info? 51).map (fun i=>(i.size,decide (i.bytes<=4000),i.zero.isSome))=some (33,true,true):=by kernel_rfl
 obtain⟨i,hi1,hi2⟩:=PV.1 hi;simp only[Rz.injEq,decide_eq_true_eq]at hi2;obtain⟨h1,h2,h3⟩:=hi2;obtain⟨z,hz⟩:=Qx.1 h3;refine⟨(madeCells z.cells (N*33)).toList,by rw[P8,size_madeCells,Qr],fun w=>?_⟩;have hb:(i.bytes:Int)*(N:Int)<=281474976710656:=by
  have:i.bytes*N<=4000*512:=RJ h2 hN;have h5:((i.bytes*N:Nat):Int)<=281474976710656:=by omega
  rwa[RS]at h5
 have:=run_make (P:=prog) w 110 51 i z hu hi1 hz .i64 .i64 (N:Int) (N:Int) (by omega) (by omega) hb (by omega);rw[Uh,h1]at this;rw[Sz];exact this
structure Az(w W:World)(K k i:Nat)(L:Nat->Bs):Prop where
 bl:Below w.heap.size w W
 lt:K<W.heap.size
 th:W.there K 0 (33*k)
 rw:∀j,j<i->W.rangeAt K (33*j) (aA (L j))
theorem Az.grow{w W W':World}{K k i:Nat}{L:Nat->Bs}(h:Az w W K k i L)(hb:Below W.heap.size W W'):Az w W' K k i L:=
 ⟨h.bl.trans (hb.mono h.bl.size),PS h.lt hb.size,RG.dN h.th hb h.lt,fun j hj=>RG.range_below (h.rw j hj) hb h.lt⟩
theorem Az.put{w W:World}{K k i:Nat}{L:Nat->Bs}(h:Az w W K k i L)(hK:w.heap.size<=K)(hi:i<k)(hL:∀j,j<=i->(L j).size=33):Az w (W.setCells K (33*i) (aA (L i))) K k (i+1) L:=by
 refine⟨RG.below_setCells hK _ _ _ h.bl,by rw[RG.setCells_size];exact h.lt,TC h.th _ _ _,fun j hj=>?_⟩;by_cases hji:j=i
 ·subst hji;refine TJ W K _ _ fun t ht=>?_
  rw[aF (hL j (PQ _))]at ht;have:=h.th (33*j+t) (by omega);rwa[PU]at this
 ·exact RV (h.rw j (by omega)) K _ _ (Qc (Ql (by rw[aF (hL j (by omega))];omega)))
def OA(P:Nat)[NeZero P](w:World)(k:Nat)(L:Nat->Bs)(e:Value)(w':World):Prop:=
 Below w.heap.size w w'/\(((∀j,j<k->∃p,rd P (L j)=some p)/\∃K,e=.tuple #[.slice (some ⟨K,0,none⟩) k k,.bool true]/\w.heap.size<=K/\K<w'.heap.size/\w'.there K 0 (33*k)/\∀j,j<k->w'.rangeAt K (33*j) (aA (L j)))\/((∃j,j<k/\rd P (L j)=none)/\e=.tuple #[.slice none 0 0,.bool false]))
theorem ML(C:Fld P)(gg k c:Nat)(hk:k<=512)(L:Nat->Bs)(w:World)(hg:gg<w.heap.size)(hL:∀j,j<k->∃v,w.cell? ⟨gg,j,none⟩=some v/\Arg33 w v (L j)):
 Calls prog 97 #[.func (.func 96) #[] #[],.slice (some ⟨gg,0,none⟩) k c] w (Ret (OA P w k L)):=by
 obtain⟨C0,hC0,hmk⟩:=O7 k hk;have hmk':=hmk w;obtain⟨w1,hw1⟩:∃w1,Hid (w.alloc (.cells C0.toArray 51)=w1):=⟨_,rfl⟩
 rw[hw1.out]at hmk';have HM:=Hid.mk' hmk';have K1:Hid (Az w w1 w.heap.size k 0 L):=by
  have hR:Row w1 w.heap.size C0:=by rw[<-hw1.out];exact aM w _ _
  refine⟨by rw[<-hw1.out];exact aE _ _,hR.1,by rw[<-hC0];exact hR.2.2,fun j hj=>by omega⟩
 have HC:Hid (Fld P/\(∀j,j<k->∃v,w.cell? ⟨gg,j,none⟩=some v/\Arg33 w v (L j))/\gg<w.heap.size):=⟨C,hL,hg⟩
 obtain⟨d,hd1,hd2⟩:=PV.1 uCP;have HD:Hid (prog.underlying 51=some d/\d.isRow=true):=⟨hd1,hd2⟩
 have HO:Hid (z33.toArray.all (·.oneCell')=true):=by show _=_;decide +kernel
 clear hd1 hd2 C hL hg hmk hC0 hw1;go_enter Tryz.func97,Tryz.ntmps97;go_wp2;clear hmk';go_loopg [16] k (fun m s16 W=>∃i:Nat,i+m=k/\s16=.int .i64 i/\Hid (Az w W w.heap.size k i L/\∀j,j<i->∃p,rd P (L j)=some p))
 case atStart=>exact⟨0,by omega,rfl,K1.out,fun j hj=>by omega⟩
 case round =>
  clear K1 HM;obtain⟨i,hik,rfl,KM⟩:=hrel;by_cases hi:i<k
  ·have hi':(i:Int)<(k:Int):=by omega
   obtain⟨v,hc0,hA0⟩:=HC.out.2.1 i hi;have hc:wr.cell? ⟨gg,i,none⟩=some v:=by rw[KM.out.1.bl.cell (p:=⟨gg,i,none⟩) HC.out.2.2];exact hc0
   have HA:Hid (Arg33 wr v (L i)):=hA0.below KM.out.1.bl;have hix:=atB gg 0 k c i hi;rw[show 0+1*i=i by omega]at hix;clear hc0 hA0;obtain⟨b,hbe⟩:∃b,Hid (L i=b):=⟨_,rfl⟩
   rw[hbe.out]at HA;obtain⟨k9,hk9⟩:∃k9:Nat,True:=⟨0,trivial⟩
   clear hk9 k9;cases hr:rd P b with
   | none =>
    go_wp2_with fail
    refine(Dq HC.out.1 v b wr HA.out hr).mono ?_;rintro e W1 ⟨vv,rfl,hb1,rfl⟩;obtain⟨vz,hvz⟩:∃vz,Hid (QD z33.toArray=vz):=⟨_,rfl⟩
    rw[hvz.out];obtain⟨k9,hk9⟩:∃k9,Hid (W1.heap.size=k9):=⟨_,rfl⟩
    obtain⟨W2,hW2⟩:∃W2,Hid (W1.alloc (.cells z33.toArray 51)=W2):=⟨_,rfl⟩
    obtain⟨W3,hW3⟩:∃W3,Hid (W2.setCells k9 0 z33=W3):=⟨_,rfl⟩
    have F2:Hid (Row W2 k9 z33/\Below w.heap.size w W2/\w.heap.size<=k9):=by
     have hbb:Below w.heap.size w W1:=KM.out.1.bl.trans (hb1.mono KM.out.1.bl.size);rw[<-hW2.out,<-hk9.out];exact⟨aM W1 _ _,hbb.alloc hbb.size _,hbb.size⟩
    have K3:Hid (Below w.heap.size w W3):=by rw[<-hW3.out];exact RG.below_setCells F2.out.2.2 _ _ _ F2.out.2.1
    have HN:Hid (i<k/\rd P (L i)=none):=⟨hi,by rw[hbe.out];exact hr⟩
    clear hb1 KM hr;go_wp2_with (first|(refine aQ (v:=.pointer (some ⟨k9,0,none⟩)) (w':=W2) rfl (.alloc 51) rfl ?_ ?_;(rw[<-hW2.out,<-hk9.out];kernel_rfl))|(refine wpList_store_mid rfl 51 _ _ rfl k9 0 z33.toArray ?_ ?_ ?_ ?_ ?_ ?_;rfl;exact hvz.out.symm;exact F2.out.1.2.2;exact aW;exact HO.out;rw[show z33.toArray.toList=z33 from rfl,hW3.out])|fail)
    go_ret2
    exact⟨_,rfl,K3.out,Qc ⟨⟨i,HN.out⟩,rfl⟩⟩
   | some p =>
    have hs:=yK hr;go_wp2_with fail
    refine(Dp HC.out.1 v b p wr HA.out hr).mono ?_;rintro e W1 ⟨vv,rfl,hb1,rfl⟩;obtain⟨vz,hvz⟩:∃vz,Hid (pvl b=vz):=⟨_,rfl⟩
    rw[hvz.out];have hlen:(aA b).length=33:=aF hs;have hsz:(aA b).toArray.size=33:=by rw[QB];exact hlen
    obtain⟨k9,hk9⟩:∃k9,Hid (W1.heap.size=k9):=⟨_,rfl⟩
    obtain⟨W2,hW2⟩:∃W2,Hid (W1.alloc (.cells z33.toArray 51)=W2):=⟨_,rfl⟩
    obtain⟨W3,hW3⟩:∃W3,Hid (W2.setCells k9 0 (aA b)=W3):=⟨_,rfl⟩
    obtain⟨W4,hW4⟩:∃W4,Hid (W3.setCells w.heap.size (33*i) (aA b)=W4):=⟨_,rfl⟩
    have A1:Az w W1 w.heap.size k i L:=KM.out.1.grow hb1;have F2:Hid (Row W2 k9 z33/\Below W1.heap.size W1 W2):=by
     rw[<-hW2.out,<-hk9.out];exact⟨aM W1 _ _,aE _ _⟩
    have F3:Hid (Row W3 k9 (aA b)/\Az w W3 w.heap.size k i L):=by
     rw[<-hW3.out];exact⟨F2.out.1.put (by rw[hlen];rfl),A1.grow (RG.below_setCells (by rw[hk9.out];exact PQ _) _ _ _ F2.out.2)⟩
    have K4:Hid (Az w W4 w.heap.size k (i+1) L/\∀j,j<i+1->∃p,rd P (L j)=some p):=by
     have hall:∀j,j<i+1->∃p,rd P (L j)=some p:=fun j hj=>by
      by_cases hji:j=i
      ·subst hji;exact⟨p,by rw[hbe.out];exact hr⟩
      ·exact KM.out.2 j (by omega)
     have h:=F3.out.2.put (PQ _) hi (fun j hj=>by obtain⟨q,hq⟩:=hall j (by omega);exact yK hq);rw[hbe.out,hW4.out]at h;exact⟨h,hall⟩
    have HI:Hid ((prog.info? 51).map (·.size)=some (aA b).length/\(prog.info? 51).map (·.size)=some (aA b).toArray.size/\W2.there k9 0 (aA b).toArray.size/\W3.there w.heap.size (33*i) (aA b).toArray.size):=by
     rw[hlen,hsz];refine⟨aW,aW,F2.out.1.2.2,fun t ht=>?_⟩;have:=F3.out.2.th (33*i+t) (by omega);rwa[PU]at this
    have hix2:=atP w.heap.size 0 k k i hi;clear hb1 KM hr hlen hsz A1 hs;go_wp2_with (first|(refine aQ (v:=.pointer (some ⟨k9,0,none⟩)) (w':=W2) rfl (.alloc 51) rfl ?_ ?_;(rw[<-hW2.out,<-hk9.out];kernel_rfl))|(refine wpList_store_mid rfl 51 _ _ rfl k9 0 (aA b).toArray ?_ ?_ ?_ ?_ ?_ ?_;rfl;exact hvz.out.symm;exact HI.out.2.2.1;exact HI.out.2.1;exact eX b;rw[show(aA b).toArray.toList=aA b from rfl,hW3.out])|(refine wpList_load_mid rfl 51 _ rfl k9 0 ?_ (aA b) d ?_ ?_ ?_ ?_ ?_;rfl;exact F3.out.1.2.1;exact HD.out.1;exact HD.out.2;exact HI.out.1;rw[show QD (aA b).toArray=vz from hvz.out])|(refine wpList_store_mid rfl 51 _ _ rfl w.heap.size (33*i) (aA b).toArray ?_ ?_ ?_ ?_ ?_ ?_;rfl;exact hvz.out.symm;exact HI.out.2.2.2;exact HI.out.2.1;exact eX b;rw[show(aA b).toArray.toList=aA b from rfl,hW4.out])|fail)
    go_roundg (gk-1)
    case measure=>omega
    case rel=>exact⟨i+1,by omega,rfl,K4⟩
  ·have hi':¬(i:Int)<(k:Int):=by omega
   obtain rfl:i=k:=by omega
   go_wp2
   go_ret2
   exact⟨_,rfl,KM.out.1.bl,Ql ⟨KM.out.2,w.heap.size,rfl,PQ _,KM.out.1.lt,KM.out.1.th,KM.out.1.rw⟩⟩
theorem CB{b:Bs}(h:real P b=true):b.size=33:=by
 unfold real at h;obtain⟨p,hp⟩:=Qx.1 ((P3 _ _).mp h).1;exact yK hp
end
end Go.Proofs.YtfcnimopdjjhcaaGreat
