import Derived.Deep.LoopGhost
import Derived.Laws.AppendOwn
import Derived.Laws.IdiomCopy
import Derived.Lib.AppendZeros
import Derived.Deep.AppendSrc
import Derived.Test.YtjnchldodncnbaaGreatpr5
set_option linter.unusedVariables false
set_option linter.constructorNameAsVariable false
set_option linter.unusedSimpArgs false
set_option maxRecDepth 1000000
set_option maxHeartbeats 4000000
namespace Go.Proofs.YtjnchldodncnbaaGreat
open _root_.Array renaming all_eq_true'->Vu,any_eq_true'->Xr,ext_getElem?->yAt,getD_eq_getD_getElem?->TS,getElem?_eq_getElem->Uj,getElem?_eq_some_iff->Uh,getElem?_replicate->VZ,getElem?_setIfInBounds->VG,getElem?_toList->UF,length_toList->TR,replicate->TP,size_replicate->TY,size_setIfInBounds->Up,toList_replicate->YK
open _root_.Bool renaming and_eq_true->T0,or_eq_false_iff->yAk,or_eq_true->Wu,true_or->Wz
open _root_.ByteArray renaming size_append->yBU
open _root_.Classical renaming byContradiction->U5
open _root_.Fin renaming ext->Yx,ofNat->Vy,val_add->yBT,val_mul->Xq
open _root_.Go renaming Addr->V5,Calls->TW,Exit->YJ,Oper->UI,Operand->Yj,Program->Vd,Tmp->Vn,TypeId->Uw,Value->TC,World->TA,bodyPost_ret->TM,execOp->UD,run_append_own->YS,run_underlying->Zn,undef->VU,wpList_load_mid->UL,wpList_plain->Xw,wpList_store_mid->Ui,wpOp_mono->Zh,wp_cond_false->UG,wp_cond_true->UC,wp_region_any->yBw,wp_ret->UZ,wp_seq->TI
open _root_.Go.Act renaming put->Ug
open _root_.Go.Addr renaming add->XI
open _root_.Go.Builtin renaming append_->Ur,clear_->yAz,zeroCells->VN
open _root_.Go.Code renaming region->Vj
open _root_.Go.Instr renaming indexAt->UP,lookup->ZY,mapUpdate->YI,sliceAt->VP
open _root_.Go.Next renaming value->Ww
open _root_.Go.Oper renaming semAt_some->ZL,upon_enter->WO,wp->Vp
open _root_.Go.Region renaming binds->U7,ready->UN,wanted->WI
open _root_.Go.Result renaming andThen_ok->UE
open _root_.Go.RowKit.Below renaming heap_alloc->yAI,refl->TX
open _root_.Go.RowKit.Hid renaming out->ZX
open _root_.Go.Sem renaming run->yBI,run_bind->Ue,run_pure->VA
open _root_.Go.Value renaming agg->Um
open _root_.Go.World renaming cell?->WN,cell?_of_block->Ua,frozen?->ZR,frozen?_of_block->UY,ownsRow_nil->yAw,putObj->ZV,rangeAt_setCells_apart->UW,rangeAt_setCells_same->Vq,size_alloc->TQ,there->yBx,there_setCells->VM
open _root_.List renaming all_eq_true->Uo,append_nil->Xu,cons_append->YG,countP_replicate->YR,drop->Vx,eq_nil_iff_forall_not_mem->XN,ext_getElem?->yAG,filter_sublist->yAo,finRange->yBo,flatMap_append->Yb,flatMap_cons->Zg,getElem?_append_left->UB,getElem?_append_right->U1,getElem?_eq_getElem->TZ,getElem?_eq_some_iff->T9,getElem?_map->UX,getElem?_of_mem->Vv,getElem?_range->Za,getElem?_take->Vh,getElem_cons_succ->Z6,getElem_mem->UK,length_append->TT,length_cons->Uy,length_filter_le->yAe,length_map->Uk,length_range->WP,length_take->WF,map_append->Ye,map_cons->V2,map_nil->Zx,map_toArray->Zw,mem_append->WA,mem_cons->U0,mem_cons_of_mem->Uq,mem_cons_self->Uz,mem_filter->YL,mem_finRange->yAF,mem_flatMap->Zq,mem_map->UM,mem_of_mem_take->yAg,mem_range->U4,mem_singleton->XA,mem_toArray->WU,nodup_cons->Wy,nodup_finRange->YY,not_mem_nil->Ud,pairwise_map->yAD,prefix_rfl->yA4,range->US,range_succ->Ya,setIfInBounds_toArray->TD,set_cons_succ->TK,set_cons_zero->TL,size_toArray->UH,take->Vw,take_add_one->yAC,take_length->Zp
open _root_.List.Pairwise renaming imp->ZJ
open _root_.Nat renaming div_add_mod->YT,le_of_ble_eq_true->Va,le_refl->TG,le_trans->TU,lt_of_lt_of_le->TF,lt_of_succ_le->V8,lt_or_ge->Vo,lt_succ_self->Xs,mod_eq_of_lt->Uf,mod_lt->Vm,mul_comm->Ut,mul_le_mul_right->Xm,mul_succ->XV,pos_of_neZero->XU,pow_succ->Vk,reduceAdd->UJ,sub_zero->YD,zero_add->TO,zero_le->VH
open _root_.Option renaming isSome_iff_exists->UT,map_eq_some_iff->TJ,some->Uc
open _root_.Or renaming inl->Ub,inr->T8
open _root_.Prod renaming mk->Vz
open _root_.Subtype renaming ext->XF
open _root_.UInt8 renaming ofNat->TV
open Go.Proofs.Tryz
section
open Go.RowKit Go.Sort Go.Deep
variable {P:Nat}[NeZero P]{N:Nat}
theorem uT:(prog.underlying 100).map (·.isRow)=some true:=kR
theorem iT:(prog.info? 100).map (·.size)=some 37:=kR
theorem atT(k o n c i:Nat)(b:i<n)(w:TA):(UP 50 (.slice (some ⟨k,o,none⟩) n c) (iZ i)).run prog w=.ok (.pointer (some ⟨k,o+37*i,none⟩)) w:=by
 go_simp
def kP(ns:Nat->Nat):Nat->Nat->Int
 | _,0=>-1
 | i,m+1=>if ns i=0 then(i:Int) else kP ns (i+1) m
def NQ(b:Bool):List RG.It:=[.x 9 [] (.bool b)]
def NP(g k c i n:Nat)(a:Bs)(z:Bool):List RG.It:=[.x 11 [] (.func (.func 83) #[] #[]),.x 12 [] (.slice (some (aZ g)) k c),.x 13 [] (iZ i),.x 14 [(12,1),(13,2)] (.pointer (some ⟨g,(0+37*i),none⟩)),.x 15 [(14,3)] (tvl n a),.c 16 [(11,0),(15,4)] (.bool z)]
theorem E1(g k c:Nat)(hk:k<=1000000)(ns:Nat->Nat)(F:Nat->Bs)(Q:∀j,j<k->ns j<top)(V:∀j,j<k->(F j).size=33)(w:TA)(N:g<w.heap.size)(W:∀j,j<k->w.rangeAt g (37*j) (wn (ns j)++aA (F j))):
 TW prog 115 #[.slice (some (aZ g)) k c,.func (.func 83) #[] #[]] w (rZ w λe w'=>e=iZ (kP ns 0 k)):=by
 obtain⟨R,O⟩:∃R,kP ns 0 k=R:=⟨_,rfl⟩
 rw[O];go_enter func115,ntmps115;refine RG.M.enter [(0,.v (.slice (some (aZ g)) k c)),(1,.v (.func (.func 83) #[] #[]))] 19 kR ?_;intro a0 T;repeat refine TI ?_
 refine T.U [.x (iZ 0)] [0,1] ⟨RG.st,yB5⟩ ?_;intro Z X U;repeat refine TI ?_
 refine U.U [.x (.slice (some (aZ g)) k c),.x (iZ k),.x (iZ 0)] [0,1,7,8] ⟨RG.st,RG.st,RG.st,yB5⟩ ?_;intro Y w2 P;repeat refine TI ?_
 refine wp_block ?_;refine wp_loop_ghost (λm a wr=>∃i:Nat,i+m=k/\kP ns i m=R/\RG.M w w.heap.size [] 19 [] [] [(0,.v (.slice (some (aZ g)) k c)),(1,.v (.func (.func 83) #[] #[])),(7,.v (iZ k)),(8,.v (iZ i))] a wr) k ⟨0,oM,O,P⟩ ?_;intro D a wr;rintro⟨i,S,hf,y⟩;by_cases s:i<k
 ·obtain⟨n,u⟩:∃n,ns i=n:=⟨_,rfl⟩
  obtain⟨b,G⟩:∃b,F i=b:=⟨_,rfl⟩
  have x:=Q i s;have t:=V i s;have r:=W i s;rw[u]at x r;rw[G]at t r;have p:w.rangeAt g (0+37*i) (wn n++aA b):=by rw[TO];exact r
  have q:(prog.info? 100).map (·.size)=some (wn n++aA b).length:=by rw[TT,aK t];exact iT
  have z:=IX x t;obtain⟨B,rfl⟩:∃B,D=B+1:=⟨D-1,oM⟩
  unfold kP at hf;rw[u]at hf;repeat refine TI ?_
  refine y.u (NQ true) [(0,.v (.slice (some (aZ g)) k c)),(1,.v (.func (.func 83) #[] #[])),(7,.v (iZ k)),(8,.v (iZ i)),(9,.v (.bool true))] ⟨RG.aJ rfl .lss 3 3 8 7 (iZ i) (iZ k) (.bool true) rfl rfl RG.sx RG.sx (λw=>kR) (eY s),yB5⟩ ?_;intro C I l;repeat refine TI ?_
  refine UC l.ev ?_;refine wp_skip ?_;refine TI ?_;refine wp_block ?_;repeat refine TI ?_
  refine l.U [.x (iZ i),.x (iZ i)] [0,1,7,8,5] ⟨RG.st,RG.st,yB5⟩ ?_;intro M J d;repeat refine TI ?_
  by_cases A:n=0
  ·rw[decide_eq_true A]at z;rw[yB3 A]at hf;refine d.u (NP g k c i n b true) [(0,.v (.slice (some (aZ g)) k c)),(1,.v (.func (.func 83) #[] #[])),(7,.v (iZ k)),(8,.v (iZ i)),(5,.v (iZ i)),(16,.v (.bool true))] ⟨RG.st,RG.st,RG.st,RG.aY rfl 50 12 13 rfl (.v (.slice (some (aZ g)) k c)) (iZ i) RG.sx RG.sx (λμ w=>atT _ 0 _ _ i s w),RG.eJ rfl g (0+37*i) N Ud 100 14 rfl (wn n++aA b) rfl RG.sx p uT q,RG.clB (λ_ _=>kR) (λw' _=>z w'),yB5⟩ ?_;intro H E f;repeat refine TI ?_
   refine UC f.ev ?_;repeat refine TI ?_
   refine f.U [.x (iZ i),.x (iZ i)] [4] ⟨RG.st,RG.st,yB5⟩ ?_;intro K L o;refine UZ ?_;refine TM (v:=iZ i) (RG.eD 4 rfl (iZ i) o.av) o.sl.defers ?_;exact⟨_,rfl,o.st.bel.below,by rw[hf]⟩
  ·rw[decide_eq_false A]at z;rw[yB4 A]at hf;refine d.u (NP g k c i n b false) [(0,.v (.slice (some (aZ g)) k c)),(1,.v (.func (.func 83) #[] #[])),(7,.v (iZ k)),(8,.v (iZ i)),(16,.v (.bool false))] ⟨RG.st,RG.st,RG.st,RG.aY rfl 50 12 13 rfl (.v (.slice (some (aZ g)) k c)) (iZ i) RG.sx RG.sx (λμ w=>atT _ 0 _ _ i s w),RG.eJ rfl g (0+37*i) N Ud 100 14 rfl (wn n++aA b) rfl RG.sx p uT q,RG.clB (λ_ _=>kR) (λw' _=>z w'),yB5⟩ ?_;intro H E f;repeat refine TI ?_
   refine UG f.ev ?_;refine wp_skip ?_;repeat refine TI ?_
   refine f.U [.x (iZ ((i+1:Nat):Int)),.x (iZ ((i+1:Nat):Int))] [0,1,7,8] ⟨RG.aH rfl .add 3 3 8 (iZ i) (iZ 1) (iZ ((i+1:Nat):Int)) rfl rfl RG.sx (λw=>kR) (rK i 1 oM oM),RG.st,yB5⟩ ?_;intro K L o;show ∃n',_;exact⟨B,oM,i+1,oM,hf,o⟩
 ·have f:D=0:=oM;rw[f]at hf;unfold kP at hf;repeat refine TI ?_
  refine y.u (NQ false) [(9,.v (.bool false))] ⟨RG.aJ rfl .lss 3 3 8 7 (iZ i) (iZ k) (.bool false) rfl rfl RG.sx RG.sx (λw=>kR) (l6 s),yB5⟩ ?_;intro C I l;repeat refine TI ?_
  refine UG l.ev ?_;refine wp_exit ?_;dsimp only[Exit.then,Exit.inBlock];rw[yB3 rfl];repeat refine TI ?_
  refine l.U [.x (iZ (-1))] [4] ⟨RG.st,yB5⟩ ?_;intro M J d;refine UZ ?_;refine TM (v:=iZ (-1)) (RG.eD 4 rfl (iZ (-1)) d.av) d.sl.defers ?_;exact⟨_,rfl,d.st.bel.below,by rw[<-hf]⟩
theorem tN{ns:Nat->Nat}:∀(m i:Nat),(∀j,i<=j->j<i+m->ns j≠0)->kP ns i m = -1
 | 0,_,_=>rfl
 | m+1,i,h=>by
  unfold kP;rw[yB4 (h i (TG _) oM)];exact tN m (i+1) (λj b k=>h j oM oM)
theorem Ce(g k c:Nat)(x:k<=1000000)(ns:Nat->Nat)(f:Nat->Bs)(p:∀j,j<k->ns j<top)(b:∀j,j<k->ns j≠0)(t:∀j,j<k->(f j).size=33)(w:TA)(n:g<w.heap.size)(u:∀j,j<k->w.rangeAt g (37*j) (wn (ns j)++aA (f j))):
 TW prog 82 #[.slice (some (aZ g)) k c,.func (.func 83) #[] #[]] w (rZ w λe w'=>e=(.slice (some (aZ g)) k c)):=by
 have s:∀w',RG.BelX w.heap.size [] w w'->TW prog 115 #[.slice (some (aZ g)) k c,.func (.func 83) #[] #[]] w' (Ret λe d=>Below w'.heap.size w' d/\e=iZ (-1)):=λw' l=>by
  have h:=E1 g k c x ns f p t w' (TF n l.below.size) (λj i=>RG.range_below (u j i) l.below n);rw[tN k 0 (λj _ m=>b j oM)]at h;exact h
 go_enter func82,ntmps82;refine RG.M.enter [(0,.v (.slice (some (aZ g)) k c)),(1,.v (.func (.func 83) #[] #[]))] 42 kR ?_;intro a0 q;repeat refine TI ?_
 refine q.U [.x (.slice none 0 0)] [0,1] ⟨RG.st,yB5⟩ ?_;intro B y r;repeat refine TI ?_
 refine r.U [.x (.slice (some (aZ g)) k c),.x (.func (.func 83) #[] #[]),.c (iZ (-1)),.x (iZ (-1))] [0,5] ⟨RG.st,RG.st,RG.clB (λ_ _=>kR) s,RG.st,yB5⟩ ?_;intro A C o;repeat refine TI ?_
 refine o.U [.x (iZ (-1)),.x (.bool true)] [0,12] ⟨RG.st,RG.st,yB5⟩ ?_;intro D z m;repeat refine TI ?_
 refine UC m.ev ?_;repeat refine TI ?_
 refine m.U [.x (.slice (some (aZ g)) k c),.x (.slice (some (aZ g)) k c)] [4] ⟨RG.st,RG.st,yB5⟩ ?_;intro E a i;refine UZ ?_;refine TM (v:=(.slice (some (aZ g)) k c)) (RG.eD 4 rfl _ i.av) i.sl.defers ?_;exact⟨_,rfl,i.st.bel.below,rfl⟩
theorem Qp:prog.underlying 138=some (.map 55 3):=kR
theorem zero3(w:TA):(zeroValue 3).run prog w=.ok (iZ 0) w:=kR
theorem y8(b:Bs):∀(D:List Bs) (i:Nat),ents (D++[b]) i=ents D i++[{ key:=.agg (aA b).toArray,val:=iZ ((i+D.length:Nat):Int),born:=i+D.length }]
 | [],i=>rfl
 | k :: r,i=>by
  rw[YG];unfold ents;rw[y8 b r (i+1),Uy,show i+1+r.length=i+(r.length+1) by omega];rfl
theorem BP{b:Bs}(d:b.size=33)(D:List Bs)(l:∀k∈D,k.size=33)(m c:Nat)(w:TA)(o:w.heap[m]? = some (.map (ents D 0).toArray c)):
 (ZY 138 (.map (some m)) (.agg (aA b).toArray) true).run prog w=.ok (.tuple #[iZ (((at? b D 0).getD 0:Nat):Int),.bool (at? b D 0).isSome]) w:=by
 have n:=Zn Qp w;have f:=λe=>Fo d e w
 have g:=E0 d D l w;have i:(getObj m).run prog w=.ok (.map (ents D 0).toArray c) w:=by
  simp[getObj,yBI,o]
 unfold ZY;simp only[Ue,n,UE,i,VA,f,g];cases h:at? b D 0 with
 | none=>simp[Ue,zero3]
 | some j=>simp
theorem Kz{b:Bs}(d:b.size=33)(D:List Bs)(l:∀k∈D,k.size=33)(m:Nat)(w:TA)(f:w.heap[m]? = some (.map (ents D 0).toArray D.length))(g:at? b D 0=none):
 (YI 138 (.map (some m)) (.agg (aA b).toArray) (iZ (D.length:Int))).run prog w=.ok () (w.putObj m (.map (ents (D++[b]) 0).toArray (D.length+1))):=by
 have n:=Zn Qp w;have i:=λe=>Fo d e w
 have c:=E0 d D l w;rw[g]at c;have j:(getObj m).run prog w=.ok (.map (ents D 0).toArray D.length) w:=by
  simp[getObj,yBI,f]
 unfold YI;simp only[Ue,n,UE,j,VA,i,c];rw[y8,TO];simp[setObj,yBI,f,ZV]
theorem Cy:prog.underlying 50=some (.slice 100):=kR
theorem Q9:(prog.info? 100).map (λi=>(i.size,i.bytes,i.zero.map λz=>z.cells.size))=some (37,72,some 37):=kR
theorem cells_one(n:Nat)(a:Bs):∀u∈wn n++aA a,u.oneCell'=true:=by
 intro u k;rcases WA.1 k with h|h
 ·unfold wn at h;simp only[U0,Ud,or_false]at h;rcases h with rfl|rfl|rfl|rfl<;>rfl
 ·obtain⟨x,-,rfl⟩:=UM.1 h;rfl
theorem J4{base k g n:Nat}{v:TC}{xs:List TC}{a:Bs}(t:a.size=33){W:TA}(b:W.ownsRow base 100 37 v k xs)(y:Row W g (wn n++aA a))(B:k<=1000000)(m:base<=W.heap.size):
 ∃c W',(Ur #[50,50] 50 #[v,.slice (some (aZ g)) 1 1]).run prog W=.ok c W'/\W'.ownsRow base 100 37 c (k+1) (xs++(wn n++aA a))/\W.grownBy W' v.ownBlock:=by
 obtain⟨i,o,e⟩:=TJ.1 Q9;simp only[Vz.injEq]at e;obtain⟨x,f,q⟩:=e;obtain⟨z,p,d⟩:=TJ.1 q;obtain⟨c,W',s,r,w,-⟩:=YS (P:=prog) W base 50 50 100 i z 37 72 Cy o p x f d dC v k xs b (aZ g) 1 1 (wn n++aA a) (by rw[TT,aK t];rfl)
  (λj u l=>by
   have:=y.2.1 j u l;rw[TO]at this;rw[show(⟨g,0,none⟩:V5).add j=⟨g,j,none⟩ by unfold XI;split<;>simp_all];exact this) (cells_one n a) (by unfold maxLen;omega) oM m
 exact⟨c,W',s,r,w⟩
def fH(N:Nat):List (Nat × Bs)->Nat->Bs->List (Nat × Bs)
 | [],n,p=>[(n,p)]
 | (s,q) :: r,n,p=>if p=q then(sPl N s n,q) :: r else(s,q) :: fH N r n p
def mrg(N:Nat)(ns:Nat->Nat)(k:Nat->Bs):Nat->List (Nat × Bs)
 | 0=>[]
 | i+1=>fH N (mrg N ns k i) (ns i) (k i)
def aU(l:List (Nat × Bs)):List TC:=l.flatMap λx=>wn x.1++aA x.2
theorem Cp{N n:Nat}{p:Bs}:∀ {l:List (Nat × Bs)},at? p (l.map (·.2)) 0=none->fH N l n p=l++[(n,p)]
 | [],_=>rfl
 | (s,q) :: r,h=>by
  have k:=at?_none.1 h;rw[V2,U0,not_or]at k;unfold fH;rw[yB4 k.1,Cp (l:=r) (at?_none.2 k.2)];rfl
theorem Cl(l:List (Nat × Bs))(n:Nat)(p:Bs):aU (l++[(n,p)])=aU l++(wn n++aA p):=by
 unfold aU;rw[Yb];simp
structure Mx(w W:TA)(m:Nat)(l:List (Nat × Bs))(v:TC):Prop where
 bl:Below w.heap.size w W
 mp:W.heap[m]? = some (.map (ents (l.map (·.2)) 0).toArray l.length)
 lm:w.heap.size<=m
 ow:W.ownsRow w.heap.size 100 37 v l.length (aU l)
theorem Mx.own_ne{w W:TA}{m:Nat}{l:List (Nat × Bs)}{v:TC}(h:Mx w W m l v){g:Nat}(b:v.ownBlock=some g):g≠m/\w.heap.size<=g/\g<W.heap.size:=by
 rcases h.ow.2 with⟨rfl,-⟩|⟨c,cap,cur,rfl,d,k,-⟩
 ·cases b
 ·obtain rfl:c=g:=by simpa[Value.ownBlock]using b
  refine⟨λe=>?_,d,(Uh.1 k).1⟩;have:=h.mp;rw[<-e,k]at this;cases this
theorem sE{W W':TA}{base k:Nat}{e:Uw}{s:Nat}{v:TC}{xs:List TC}(h:W.ownsRow base e s v k xs)(f:∀g,v.ownBlock=some g->W'.heap[g]? = W.heap[g]?):W'.ownsRow base e s v k xs:=by
 refine⟨h.1,?_⟩;rcases h.2 with b|⟨g,cap,cur,rfl,d,b,c⟩
 ·exact Ub b
 ·exact T8 ⟨g,cap,cur,rfl,d,by rw[f g rfl];exact b,c⟩
theorem Mx.kept{w W W':TA}{m:Nat}{l:List (Nat × Bs)}{v:TC}(h:Mx w W m l v)(k:Below W.heap.size W W'):Mx w W' m l v:=
 ⟨h.bl.trans (k.mono h.bl.size),by rw[k.block m (Uh.1 h.mp).1];exact h.mp,h.lm,sE h.ow λg b=>k.block g (h.own_ne b).2.2⟩
theorem Js(l:List (Nat × Bs))(n:Nat)(p:Bs):(l++[(n,p)]).map (·.2)=l.map (·.2)++[p]:=by simp
theorem Mx.push{w W:TA}{m:Nat}{l:List (Nat × Bs)}{v:TC}(h:Mx w W m l v){p:Bs}(D:p.size=33)(G:l.length<=1000000)(n:Nat):
 ∃f b,(Ur #[50,50] 50 #[v,.slice (some ⟨W.heap.size,0,none⟩) 1 1]).run prog ((W.putObj m (.map (ents (l.map (·.2)++[p]) 0).toArray (l.length+1))).alloc (.cells (wn n++aA p).toArray 100))=.ok f b/\Mx w b m (l++[(n,p)]) f/\W.heap.size<b.heap.size/\∀j,j<W.heap.size->w.heap.size<=j->j≠m->some j≠v.ownBlock->b.heap[j]? = W.heap[j]?:=by
 obtain⟨c,d⟩:∃c,W.putObj m (.map (ents (l.map (·.2)++[p]) 0).toArray (l.length+1))=c:=⟨_,rfl⟩
 have s3:c.heap.size=W.heap.size:=by rw[<-d];simp[ZV]
 have r:=(Uh.1 h.mp).1;have x:∀j,j≠m->c.heap[j]? = W.heap[j]?:=λj u=>by rw[<-d];exact World.putObj_heap_other u
 have o:=h.bl.trans ⟨by rw[<-d];rfl,by rw[<-d];rfl,by rw[<-d];rfl,oM,λj u=>x j (by have:=h.lm;omega)⟩;have A:=sE h.ow λg y=>x g (h.own_ne y).1
 have B:c.heap[m]? = some (.map (ents (l.map (·.2)++[p]) 0).toArray (l.length+1)):=by rw[<-d];exact World.putObj_heap_same r
 rw[d];have a:=aE c (wn n++aA p) 100;have q:=aD c (.cells (wn n++aA p).toArray 100);have s4:(c.alloc (.cells (wn n++aA p).toArray 100)).heap.size=W.heap.size+1:=by rw[TQ,s3]
 have C:=sE A λg y=>q.block g (by have:=(h.own_ne y).2.2;omega)
 rw[s3]at a;obtain⟨f,b,F,E,i⟩:=J4 D C a G (by have:=o.size;omega);have t:some m≠v.ownBlock:=λe=>(h.own_ne e.symm).1 rfl
 refine⟨f,b,F,⟨?_,?_,h.lm,?_⟩,by have:=i.size;omega,λj u _ z s=>?_⟩
 ·exact(o.trans (q.mono o.size)).grown i (by have:=o.size;omega) (λk e=>(h.own_ne e).2.1)
 ·rw[i.block m oM t,q.block m oM,B,Js,TT];rfl
 ·rw[Cl,TT];exact E
 ·rw[i.block j oM s,q.block j oM,x j z]
end
section
open Go.RowKit Go.Sort Go.Deep
variable {N:Nat}
section
variable {P:Vd}{ops:Array UI}{rest:List UI}{op:UI}{a:Act}{w w':TA}{v x y z:TC}{Q:YJ->Act->TA->Prop}
theorem yE(b:op.guard=none)(T:Uw)(m k:Yj)(ok:Bool)(ho:op.op=.lookup T m k ok)(f:a.eval m=x)(e:a.eval k=y)(c:(ZY T x y ok).run P w=.ok v w')(h:wpList P ops Q rest (a.put op.dst v) w'):wpList P ops Q (op :: rest) a w:=
 Xw b λK d=>by
  unfold Vp UD;simp only[ho,f,e,Ue,c,UE,VA];exact d _ _ h
theorem F9(b:op.guard=none)(T:Uw)(m k u:Yj)(ho:op.op=.mapUpdate T m k u)(g:a.eval m=x)(f:a.eval k=y)(c:a.eval u=z)(d:(YI T x y z).run P w=.ok () w')(h:wpList P ops Q rest (a.put op.dst VU) w'):wpList P ops Q (op :: rest) a w:=
 Xw b λK e=>by
  unfold Vp UD;simp only[ho,g,f,c,Ue,d,UE,VA];exact e _ _ h
theorem jI(k:op.guard=none)(s u:Yj)(t:Uw)(ho:op.op=.call { callee:=.builtin .append,args:=#[s,u],argTypes:=#[t,t] })(e:a.eval s=x)(b:a.eval u=y)(c:(Ur #[t,t] op.type #[x,y]).run P w=.ok v w')(h:wpList P ops Q rest (a.put op.dst v) w'):wpList P ops Q (op :: rest) a w:=
 Xw k λK d=>by
  unfold Vp UD;simp only[ho,resolve,invoke,builtin,Ue,VA,UE,Zw,V2,Zx,e,b,c];exact d _ _ h
end
def zT:List TC:=[uZ 0,uZ 0,uZ 0,uZ 0]++z33
theorem GE{W:TA}{base k:Nat}{e:Uw}{s:Nat}{v:TC}{xs:List TC}(h:W.ownsRow base e s v k xs):∃q cap,v=.slice q k cap:=by
 rcases h.2 with⟨rfl,rfl⟩|⟨g,cap,cur,rfl,-⟩
 ·exact⟨none,0,rfl⟩
 ·exact⟨some (aZ g),cap,rfl⟩
theorem Aj(ns:Nat->Nat)(k:Nat->Bs):∀i,(mrg N ns k i).length<=i
 | 0=>TG _
 | i+1=>by
  have b:=Aj ns k i;have h:∀(l:List (Nat × Bs)) n p,(fH N l n p).length<=l.length+1:=by
   intro l n p;induction l with
   | nil=>exact TG _
   | cons x r ihr =>
    unfold fH;split
    ·simp
    ·simp only[Uy];omega
  exact TU (h _ _ _) oM
theorem wE(ns:Nat->Nat)(d:Nat->Bs){k:Nat}(e:∀j,j<k->(d j).size=33):∀i,i<=k->∀x∈(mrg N ns d i).map (·.2),x.size=33
 | 0,_=>λx b=>by cases b
 | i+1,hi=>by
  have f:=wE ns d e i oM;have h:∀(l:List (Nat × Bs)) n p,p.size=33->(∀x∈l.map (·.2),x.size=33)->∀x∈(fH N l n p).map (·.2),x.size=33:=by
   intro l n p g;induction l with
   | nil=>intro _ x b;simp[fH]at b;rw[b];exact g
   | cons y r ihr =>
    intro c x b;unfold fH at b;split at b
    ·exact c x (by simpa using b)
    ·rw[V2,U0]at b;rcases b with b|b
     ·exact c x (by rw[b];simp)
     ·exact ihr (λz m=>c z (Uq _ m)) x b
  exact h _ _ _ (e i oM) f
theorem lI:∀(l:List (Nat × Bs)),(∀x∈l.map (·.2),x.size=33)->∀(j:Nat) (k:j<l.length) (t:Nat),t<37->(aU l)[37*j+t]? = (wn (l[j]).1++aA (l[j]).2)[t]?
 | [],_,j,k,_,_=>by cases k
 | x :: r,hs,j,k,t,ht=>by
  have c:(wn x.1++aA x.2).length=37:=by rw[TT,aK (hs x.2 (by simp))];rfl
  have e:aU (x :: r)=(wn x.1++aA x.2)++aU r:=by unfold aU;rw[Zg]
  rw[e];cases j with
  | zero =>
   rw[Nat.mul_zero,TO,UB oM];rfl
  | succ j =>
   rw[U1 oM,c,show 37*(j+1)+t-37=37*j+t by omega,lI r (λy b=>hs y (Uq _ b)) j (by simpa using k) t ht];rfl
theorem sD{W:TA}{base:Nat}{v:TC}{l:List (Nat × Bs)}(h:W.ownsRow base 100 37 v l.length (aU l))(f:∀x∈l.map (·.2),x.size=33)(p:0<l.length):
 ∃g cap,v=.slice (some (aZ g)) l.length cap/\base<=g/\g<W.heap.size/\∀j (k:j<l.length),W.rangeAt g (37*j) (wn (l[j]).1++aA (l[j]).2):=by
 have m:=h;rcases h.2 with⟨-,d⟩|⟨g,cap,cur,rfl,n,d,o⟩
 ·omega
 ·refine⟨g,cap,rfl,n,(Uh.1 d).1,λj k t u c=>?_⟩;have i:t<37:=by
   have:=(T9.1 c).1;rw[TT,aK (f _ (UM.2 ⟨_,UK k,rfl⟩))]at this;exact this
  have b:=m.cells (g:=g) rfl (37*j+t) u (by rw[lI l f j k t i];exact c);have e:(⟨g,0,none⟩:V5).add (37*j+t)=⟨g,37*j+t,none⟩:=by
   unfold XI;split
   ·rename_i h;rw[h]
   ·simp
  rw[e]at b;exact b
end
section
open Go.RowKit Go.Sort Go.Deep
variable {P:Nat}[NeZero P]{N:Nat}
theorem NR(w:TA):(zeroValue 100).run prog w=.ok (.agg zT.toArray) w:=kR
theorem NS:∀v∈zT,v.oneCell'=true:=by
 intro v hv;unfold zT z33 at hv;rcases WA.1 hv with h|h
 ·simp only[U0,Ud,or_false]at h;rcases h with rfl|rfl|rfl|rfl<;>rfl
 ·rw[(List.mem_replicate.1 h).2];rfl
end
namespace RG
open Go Go.RowKit
variable {P:Vd}{ops:Array UI}{Q:YJ->Act->TA->Prop}{w:TA}{a0:Act}{L:Array Bool}
structure Flow where
 R:Nat->TC->TA->Prop
 B:Nat->TA->Prop
 E:Nat->TA->TA->Prop
 kill:Nat->List Nat
 killB:Nat->List Nat
def aV(k:Array UI)(i:Nat):Option Vn:=(k[i]?).bind (·.dst)
def depOn(b:Array UI)(x k:Nat):Bool:=match b[x]? with|some o=>bR o k|none=>true
def okK(b:Array UI)(k:Nat)(l:List Nat):Bool:=l.all (λx=>x == k || depOn b x k)
def oW(b:Array UI)(k:Nat)(t:Vn):Bool:=(US b.size).all (λi=>aV b i != some t || i == k || depOn b i k)
structure InvF(F:Flow)(ops:Array UI)(a0:Act)(L:Array Bool)(a:Act)(w:TA):Prop where
 size:L.size=ops.size
 cl:∀(i:Nat) (o:UI),ops[i]? = some o->on L i=true->∀e∈o.after,U7 .any e=true->on L e.on=true
 def':a.defers=a0.defers
 sz:a.tmps.size=a0.tmps.size
 rest:∀t:Vn,(∀i,on L i=true->aV ops i≠some t)->a.tmps[t]? = a0.tmps[t]?
 all:∃V:Nat->TC,(∀i d,on L i=true->aV ops i=some d->a.tmps[d]? = some (V i))/\(∀i,on L i=true->(∀x∈F.kill i,on L x=false)->F.R i (V i) w)
 base:∀b,(∀x∈F.killB b,on L x=false)->F.B b w
def bK(P:Vd)(Q:YJ->Act->TA->Prop)(F:Flow)(c:Array UI)(a0:Act)(k:Nat)(o:UI):Prop:=
 ∀(a:Act) (w:TA) (K:Act->TA->Prop),
  (∀j d,bR o j=true->okK c k (F.kill j)=true->aV c j=some d->F.R j (a.eval (.tmp d)) w) ->
  (∀t,oW c k t=true->a.eval (.tmp t)=a0.eval (.tmp t)) ->
  (∀b,okK c k (F.killB b)=true->F.B b w) ->
  (∀v w',F.E k w w'->F.R k v w'->K (a.put o.dst v) w')->o.wp P a w K Q
def zM(P:Vd)(Q:YJ->Act->TA->Prop)(F:Flow)(b:Array UI)(a0:Act)(k:Nat)(o:UI):Prop:=
 match o.guard with
 | none=>bK P Q F b a0 k o
 | some (j,want)=>bR o j=true/\(aV b j).isSome=true/\okK b k (F.kill j)=true /\
  (((∀v w,F.R j v w->v=.bool want)/\bK P Q F b a0 k o)\/((∀v w,F.R j v w->v=.bool (!want))/\∀w,F.E k w w/\F.R k VU w))
def D7(k:Array UI)(n:Nat):Bool:=
 (US k.size).all (λi=>match k[i]? with
  | some o=>o.after.all (λe=>!U7 .any e || e.on<i) && (match o.dst with|none=>true|some d=>decide (d<n) && (US k.size).all (λj=>j == i || aV k j != some d))
  | none=>false)
structure RegF(P:Vd)(Q:YJ->Act->TA->Prop)(F:Flow)(ops:Array UI)(a0:Act)(m:Nat):Prop where
 chk:D7 ops a0.tmps.size=true
 cert:∀k o,k<m->ops[k]? = some o->zM P Q F ops a0 k o
 stab:∀i j,i<m->j<m->i≠j->(F.kill j).contains i=false->depOn ops j i=false->∀v w w',F.E i w w'->F.R j v w->F.R j v w'
 stabB:∀i b,i<m->(F.killB b).contains i=false->∀w w',F.E i w w'->F.B b w->F.B b w'
variable {F:Flow}{m:Nat}
theorem RegF.of{k:Nat}{o:UI}(h:RegF P Q F ops a0 m)(ho:ops[k]? = some o):(∀e∈o.after,U7 .any e=true->e.on<k)/\∀d,o.dst=some d->d<a0.tmps.size/\∀j,aV ops j=some d->j=k:=by
 have q:=(Uh.1 ho).1;have g:=Uo.1 h.chk k (U4.2 q);rw[ho]at g;simp only[T0]at g;obtain⟨l,c⟩:=g;refine⟨λe p n=>?_,λd hd=>?_⟩
 ·have:=Vu.1 l e p;simpa[n]using this
 ·rw[hd]at c;simp only[T0,decide_eq_true_eq]at c;refine⟨c.1,λj b=>?_⟩;have f:j<ops.size:=by
   unfold aV at b;cases i:ops[j]? with
   | none=>rw[i]at b;cases b
   | some x=>exact(Uh.1 i).1
  have:=Uo.1 c.2 j (U4.2 f);simpa[b]using this
theorem jQ{i:Nat}{o:UI}(ho:ops[i]? = some o):aV ops i=o.dst:=by unfold aV;rw[ho];rfl
theorem Ax{a:Act}{x k:Nat}{o:UI}(h:InvF F ops a0 L a w){ho:ops[x]? = some o}(hd:bR o k=true)(d:on L x=true):on L k=true:=by
 obtain⟨e,c,b⟩:=Xr.1 hd;simp only[T0,beq_iff_eq]at b;rw[<-b.2];exact h.cl x o ho d e c b.1
theorem BF{L:Array Bool}{x:Nat}(h:on L x=true):x<L.size:=by
 rcases Vo x L.size with k|k
 ·exact k
 ·unfold on at h;rw[TS,Array.getElem?_eq_none k]at h;cases h
theorem A9{k:Nat}{o:UI}{a:Act}(R:RegF P Q F ops a0 m)(I:k<m)(X:∀i,on L i=true->i<m)(ho:ops[k]? = some o)(N:on L k=false)(D:∀e∈o.after,U7 .any e=true->on L e.on=true)(h:InvF F ops a0 L a w):
 wpOp P ops Q k (InvF F ops a0 (L.setIfInBounds k true)) a w:=by
 obtain⟨Z,C⟩:=R.of ho;have h0:=(Uh.1 ho).1;have Y:k<L.size:=by rw[h.size];exact h0
 have S:=jQ ho;have n:∀x,(x == k || depOn ops x k)=true->on L x=false:=λx A=>by
  cases c:on L x with
  | false=>rfl
  | true =>
   rcases Wu _ _ ▸ A with q|q
   ·rw[show x=k by simpa using q,N]at c;cases c
   ·unfold depOn at q;have g:x<ops.size:=by rw[<-h.size];exact BF c
    have f:=Uj g;rw[f]at q;have:=Ax (ho:=f) h q c;rw[N]at this;cases this
 obtain⟨V,T,O⟩:=h.all;have J:∀j d,bR o j=true->okK ops k (F.kill j)=true->aV ops j=some d->a.tmps[d]? = some (V j)/\F.R j (V j) w:=λj d U B hd=>by
  obtain⟨e,W,p⟩:=Xr.1 U;simp only[T0,beq_iff_eq]at p;have f:on L j=true:=by rw[<-p.2];exact D e W p.1
  exact⟨T j d f hd,O j f λx A=>n x (Uo.1 B x A)⟩
 have r:∀j d,bR o j=true->okK ops k (F.kill j)=true->aV ops j=some d->F.R j (a.eval (.tmp d)) w:=λj d U B hd=>by
  rw[E8 (J j d U B hd).1];exact(J j d U B hd).2
 have y:∀t,oW ops k t=true->a.eval (.tmp t)=a0.eval (.tmp t):=λt hf=>by
  have q:=h.rest t λi l hd=>by
   have f:i<ops.size:=by rw[<-h.size];exact BF l
   have K:=Uo.1 hf i (U4.2 f);rw[hd]at K;have h3:(i == k || depOn ops i k)=true:=by simpa using K
   rw[n i h3]at l;cases l
  show a.tmps.getD t VU=a0.tmps.getD t VU;rw[TS,TS,q]
 have s:∀b,okK ops k (F.killB b)=true->F.B b w:=λb p=>h.base b λx A=>n x (Uo.1 p x A)
 have g:∀v w',F.E k w w'->F.R k v w'->InvF F ops a0 (L.setIfInBounds k true) (a.put o.dst v) w':=λv w' hE hR=>by
  have c:∀x,on (L.setIfInBounds k true) x=(on L x || k == x):=λx=>eI Y
  refine⟨by rw[Up];exact h.size,λi oi G l e W p=>?_,?_,?_,λt ht=>?_,⟨λx=>if x=k then v else V x,λi d l hd=>?_,λi l M=>?_⟩,λb p=>?_⟩
  ·rw[c]at l⊢;by_cases f:k=i
   ·subst f;rw[ho]at G;obtain rfl:=Uc.inj G;rw[D e W p,Wz]
   ·rw[h.cl i oi G (by simpa[f]using l) e W p,Wz]
  ·rw[<-h.def'];cases o.dst<;>rfl
  ·rw[qQ];exact h.sz
  ·have q:o.dst≠some t:=λhd=>ht k (by rw[c];simp) (by rw[S];exact hd)
   rw[nZ a v q];exact h.rest t λi l=>ht i (by rw[c,l,Wz])
  ·rw[c]at l;by_cases f:i=k
   ·subst f;rw[S]at hd;rw[hd];show(a.tmps.setIfInBounds d v)[d]? = some (if i=i then v else V i);rw[yB3 (rfl:i=i)];rw[VG,yB3 rfl,yB3 (by rw[h.sz];exact(C d hd).1)]
   ·have z:o.dst≠some d:=λH=>f ((C d H).2 i hd)
    rw[nZ a v z];show _=some (if i=k then v else V i);rw[yB4 f];have u:¬k=i:=λe=>f e.symm
    exact T i d (by simpa[u]using l) hd
  ·rw[c]at l;by_cases f:i=k
   ·subst f;show F.R i (if i=i then v else V i) w';rw[yB3 rfl];exact hR
   ·show F.R i (if i=k then v else V i) w';rw[yB4 f];have u:¬k=i:=λe=>f e.symm
    have z:on L i=true:=by simpa[u]using l
    have q:∀x∈F.kill i,on L x=false:=λx A=>by
     have:=M x A;rw[c,yAk]at this;exact this.1
    have K:(F.kill i).contains k=false:=by
     cases E:(F.kill i).contains k with
     | false=>rfl
     | true =>
      have:=M k (by simpa using E);rw[c]at this;simp at this
    have h3:depOn ops i k=false:=by
     cases E:depOn ops i k with
     | false=>rfl
     | true=>rw[n i (by rw[E,Bool.or_true])]at z;cases z
    exact R.stab k i I (X i z) (Ne.symm f) K h3 _ _ _ hE (O i z q)
  ·have q:∀x∈F.killB b,on L x=false:=λx A=>by
    have:=p x A;rw[c,yAk]at this;exact this.1
   have K:(F.killB b).contains k=false:=by
    cases E:(F.killB b).contains k with
    | false=>rfl
    | true =>
     have:=p k (by simpa using E);rw[c]at this;simp at this
   exact R.stabB k b I K _ _ hE (h.base b q)
 have q:=R.cert k o I ho;unfold zM at q;unfold wpOp;rw[ho];dsimp only;cases z:o.guard with
 | none =>
  rw[z]at q;rw[AY z,yB3 rfl];left;exact q a w _ r y s g
 | some jw =>
  obtain⟨j,c⟩:=jw;rw[z]at q;obtain⟨K,H,M,f⟩:=q;obtain⟨d,hd⟩:=UT.1 H;obtain⟨hs,u⟩:=J j d K M hd;have W:∀b,V j=.bool b->WI o (yielded ops a.tmps)=(b == c):=λb p=>by
   have G:yielded ops a.tmps j=some b:=by
    unfold aV at hd;unfold yielded;cases l:ops[j]? with
    | none=>rw[l]at hd;cases hd
    | some oj =>
     rw[l]at hd;show(match oj.dst.bind (a.tmps[·]?) with|some (.bool b)=>some b|_=>none)=_;rw[show oj.dst=some d from hd];show(match a.tmps[d]? with|some (.bool b)=>some b|_=>none)=_;rw[hs,p]
   unfold WI;rw[z];show(yielded ops a.tmps j == some c)=_;rw[G];cases b<;>cases c<;>rfl
  rcases f with⟨G,E⟩|⟨G,l⟩
  ·rw[W _ (G _ _ u),show(c == c)=true by cases c<;>rfl,yB3 rfl];left;exact E a w _ r y s g
  ·rw[W _ (G _ _ u),show((!c) == c)=false by cases c<;>rfl];exact g VU w (l w).1 (l w).2
def bW(V:Nat->TC):List UI->Nat->Act->Act
 | [],_,a=>a
 | o :: r,i,a=>bW V r (i+1) (a.put o.dst (V i))
theorem mX(V:Nat->TC):∀(l:List UI) (i:Nat) (a:Act),(bW V l i a).defers=a.defers
 | [],_,_=>rfl
 | o :: r,i,a=>by
  rw[bW,mX V r];cases o.dst<;>rfl
theorem lW(V:Nat->TC):∀(l:List UI) (i:Nat) (a:Act) (t:Vn),(∀o∈l,o.dst≠some t)->(bW V l i a).tmps[t]? = a.tmps[t]?
 | [],_,_,_,_=>rfl
 | o :: r,i,a,t,h=>by
  rw[bW,lW V r _ _ t (λx k=>h x (Uq _ k)),nZ a _ (h o Uz)]
theorem r6(V:Nat->TC):∀(l:List UI) (i:Nat) (a:Act) (j:Nat) (o:UI) (d:Vn),l[j]? = some o->o.dst=some d->(∀k b,l[k]? = some b->b.dst=some d->k=j)->d<a.tmps.size->(bW V l i a).tmps[d]? = some (V (i+j))
 | [],_,_,_,_,_,h,_,_,_=>by simp at h
 | x :: r,i,a,0,o,d,h,hd,hu,hs=>by
  obtain rfl:x=o:=by simpa using h
  rw[bW,lW V r _ _ d (λy f c=>by
   obtain⟨k,e⟩:=Vv f;have:=hu (k+1) y (by simpa using e) c;omega),hd]
  show(a.tmps.setIfInBounds d _)[d]? = _;rw[VG,yB3 rfl,yB3 hs];rfl
 | x :: r,i,a,j+1,o,d,h,hd,hu,hs=>by
  rw[bW,r6 V r (i+1) _ j o d (by simpa using h) hd (λk b e c=>by
   have:=hu (k+1) b (by simpa using e) c;omega) (by rw[qQ];exact hs)]
  congr 2
  omega
theorem InvF.done{a:Act}(R:RegF P Q F ops a0 m)(h:InvF F ops a0 L a w)(k:∀i,i<ops.size->on L i=true)
 (n:∀(V:Nat->TC),(∀i,i<ops.size->F.kill i=[]->F.R i (V i) w)->(∀b,F.killB b=[]->F.B b w)->Q .normal (bW V ops.toList 0 a0) w):Q .normal a w:=by
 obtain⟨V,j,d⟩:=h.all;have e:a=bW V ops.toList 0 a0:=by
  refine Act.ext' ?_ (by rw[mX];exact h.def');apply yAt;intro t;by_cases g:∃(i:Nat) (o:UI),ops[i]? = some o/\o.dst=some t
  ·obtain⟨i,o,ho,hd⟩:=g;rw[j i t (k i (Uh.1 ho).1) (by rw[jQ ho];exact hd)];rw[r6 V ops.toList 0 a0 i o t (by rw[UF];exact ho) hd (λl p c f=>((R.of ho).2 t hd).2 l (by rw[UF]at c;rw[jQ c];exact f)) ((R.of ho).2 t hd).1,TO]
  ·rw[h.rest t (λi c hd=>?_),lW V ops.toList 0 a0 t (λo l hd=>?_)]
   ·obtain⟨i,c⟩:=Vv l;rw[UF]at c;exact g ⟨i,o,c,hd⟩
   ·unfold aV at hd;cases f:ops[i]? with
    | none=>rw[f]at hd;cases hd
    | some x=>rw[f]at hd;exact g ⟨i,x,f,hd⟩
 rw[e];exact n V (λi c g=>d i (k i c) (by rw[g];simp)) (λb f=>h.base b (by rw[f];simp))
theorem InvF.full{a:Act}(R:RegF P Q F ops a0 m)(h:InvF F ops a0 L a w)(d:UN .any ops L=[]):∀i,i<ops.size->on L i=true:=by
 intro i;induction i using Nat.strongRecOn with
 | ind i ih =>
  intro c;have ho:ops[i]? = some ops[i]:=Uj _;cases k:on L i with
  | true=>rfl
  | false =>
   have:i∈UN .any ops L:=mem_ready.2 ⟨?_,_,ho,λe g f=>?_⟩
   ·rw[d]at this;cases this
   ·unfold on at k;rw[TS,Uj (by rw[h.size];exact c)]at k⊢;exact k
   ·have b:=(R.of ho).1 e g f;exact ih e.on b (Nat.lt_trans b c)
theorem wR{id:Nat}(F:Flow)(q:P.follows .mixedOrders=true)(R:RegF P Q F ops a0 ops.size)(p:∀b,F.B b w.drew)
 (n:∀(V:Nat->TC) (w':TA),(∀i,i<ops.size->F.kill i=[]->F.R i (V i) w')->(∀b,F.killB b=[]->F.B b w')->Q .normal (bW V ops.toList 0 a0) w'):(Vj id ops true).wp P Q a0 w:=by
 have key:∀(k:Nat) (L:Array Bool) (a:Act) (w:TA),unl L=k->InvF F ops a0 L a w->wpAny P .any ops Q k L a w:=by
  intro k;induction k with
  | zero =>
   intro L a w m g;have c:∀i,i<ops.size->on L i=true:=λi f=>jJ m i (by rw[g.size];exact f)
   refine⟨?_,g.done R c (λV=>n V w)⟩;apply XN.2;intro i f;obtain⟨e,o,ho,-⟩:=mem_ready.1 f;have j:=c i (Uh.1 ho).1;unfold on at j;rw[TS]at e j;cases l:L[i]? with
   | none=>rw[l]at e;cases e
   | some b=>rw[l]at e j;rw[show b=false from e]at j;cases j
  | succ k ih =>
   intro L a w m g;refine⟨λr=>g.done R (g.full R r) (λV=>n V w),λi f=>?_⟩;obtain⟨e,o,ho,j⟩:=mem_ready.1 f;have c:on L i=false:=by
    unfold on;rw[TS]at e⊢;cases l:L[i]? with
    | none=>rfl
    | some b=>rw[l]at e;exact e
   exact Zh (λs w' l=>ih _ s w' (by have:=lK e;omega) l) (A9 R (Uh.1 ho).1 (λi f=>by rw[<-g.size];exact BF f) ho c j g)
 have c:∀i,on (TP ops.size false) i=false:=λi=>by
  unfold on;rw[TS,VZ];by_cases h:i<ops.size
  ·rw[yB3 h];rfl
  ·rw[yB4 h];rfl
 refine yBw q (key _ _ a0 _ ?_ ⟨TY,(λi o _ h=>by rw[c]at h;cases h),rfl,rfl,λ_ _=>rfl,⟨λ_=>VU,λi d h=>(by rw[c]at h;cases h),λi h=>(by rw[c]at h;cases h)⟩,λb _=>p b⟩);unfold unl;rw[YK,YR];simp
structure PreF(F:Flow)(ops:Array UI)(a0:Act)(k:Nat)(o:UI)(a:Act)(w:TA):Prop where
 n:∀j d,bR o j=true->okK ops k (F.kill j)=true->aV ops j=some d->F.R j (a.eval (.tmp d)) w
 o:∀t,oW ops k t=true->a.eval (.tmp t)=a0.eval (.tmp t)
 b:∀b,okK ops k (F.killB b)=true->F.B b w
def kQ(P:Vd)(Q:YJ->Act->TA->Prop)(F:Flow)(b:Array UI)(a0:Act):Nat->List UI->Prop
 | _,[]=>True
 | k,o :: r=>zM P Q F b a0 k o/\kQ P Q F b a0 (k+1) r
theorem xC:∀(l:List UI) (i:Nat),kQ P Q F ops a0 i l->∀k o,l[k]? = some o->zM P Q F ops a0 (i+k) o
 | [],_,_,k,o,h=>by simp at h
 | x :: r,i,hc,0,o,h=>by
  obtain rfl:x=o:=by simpa using h
  exact hc.1
 | x :: r,i,hc,k+1,o,h=>by
  have:=xC r (i+1) hc.2 k o (by simpa using h);rwa[show i+1+k=i+(k+1) by omega]at this
theorem JK(h:kQ P Q F ops a0 0 ops.toList):∀k o,k<ops.size->ops[k]? = some o->zM P Q F ops a0 k o:=λk o _ ho=>by
 have:=xC ops.toList 0 h k o (by rw[UF];exact ho);rwa[TO]at this
def evo(ev:Vn->TC):Yj->TC
 | .tmp t=>ev t
 | .const v=>v
 | .global g=>pZ g
 | .func f=>.func (.func f) #[] #[]
def dW(T:List Vn)(o:UI):Bool:=
 (match o.op with | .select _ _=>false|_=>true) && o.op.operands.all (λx=>match x with | .tmp t=>T.contains t|_=>true)
theorem uH{a:Act}{o:UI}(ev:Vn->TC)(T:List Vn)(h:dW T o=true)(k:∀t∈T,a.eval (.tmp t)=ev t):UD a.eval o=UD (evo ev) o:=by
 simp only[dW,T0]at h;refine execOp_congr o (λcs b k=>?_) (λx d=>?_)
 ·rw[k]at h;exact absurd h.1 (by simp)
 ·have c:=Vu.1 h.2 x d;cases x with
  | tmp t=>exact k t (by simpa using c)
  | const v=>rfl
  | global g=>rfl
  | func f=>rfl
theorem sO{k:Nat}{o:UI}(h:∀(a:Act) (w:TA),PreF F ops a0 k o a w->∃v w',(UD a.eval o).run P w=.ok (.value v) w'/\F.E k w w'/\F.R k v w'):bK P Q F ops a0 k o:=by
 intro a w K f b c e;obtain⟨v,w',d,hE,g⟩:=h a w ⟨f,b,c⟩;unfold Vp;rw[d];exact e v w' hE g
theorem nI{k:Nat}{o:UI}(t:Vn)(h:∀(a:Act) (w:TA),PreF F ops a0 k o a w->∃v w',(dW [t] o=true)/\(UD (evo λ_=>a.eval (.tmp t)) o).run P w=.ok (.value v) w'/\F.E k w w'/\F.R k v w'):bK P Q F ops a0 k o:=by
 refine sO λa w e=>?_
 obtain⟨v,w',c,b,hE⟩:=h a w e;refine⟨v,w',?_,hE⟩;rw[uH (λ_=>a.eval (.tmp t)) [t] c (λx d=>by rw[show x=t by simpa using d])];exact b
theorem Ft{k:Nat}{o:UI}(t:Vn)(h:∀(a:Act) (w:TA),PreF F ops a0 k o a w->∃f args,(dW [t] o=true)/\(UD (evo λ_=>a.eval (.tmp t)) o).run P w=.ok (.enter f args) w/\TW P f args w (Ret λe w'=>F.E k w w'/\F.R k e w')):bK P Q F ops a0 k o:=by
 intro a w K m c i j;obtain⟨f,args,d,l,b⟩:=h a w ⟨m,c,i⟩;unfold Vp;rw[uH (λ_=>a.eval (.tmp t)) [t] d (λx g=>by rw[show x=t by simpa using g]),l,WO];refine b.mono ?_;rintro e w' ⟨v,rfl,hE,n⟩;exact j _ _ hE n
theorem Az{k:Nat}{o:UI}(T:Uw)(t:Vn)(ho:o.op=.load T (.tmp t))(b:(P.underlying T).map (·.isRow)=some true)
 (h:∀(a:Act) (w:TA),PreF F ops a0 k o a w->∃g off cs,a.eval (.tmp t)=.pointer (some ⟨g,off,none⟩)/\w.rangeAt g off cs/\(P.info? T).map (·.size)=some cs.length/\F.E k w w/\F.R k (.agg cs.toArray) w):bK P Q F ops a0 k o:=by
 intro a w K m c f i;obtain⟨g,off,cs,j,l,e,hE,n⟩:=h a w ⟨m,c,f⟩;obtain⟨d,b,hd⟩:=TJ.1 b;exact wp_load_mid T (.tmp t) ho g off j cs d l b hd e (i _ _ hE n)
theorem JJ{k:Nat}{o:UI}(s u:Vn)(t:Uw)(ho:o.op=.call { callee:=.builtin .append,args:=#[.tmp s,.tmp u],argTypes:=#[t,t] })
 (h:∀(a:Act) (w:TA),PreF F ops a0 k o a w->∃v w',(Ur #[t,t] o.type #[a.eval (.tmp s),a.eval (.tmp u)]).run P w=.ok v w'/\F.E k w w'/\F.R k v w'):bK P Q F ops a0 k o:=by
 intro a w K f b c d;obtain⟨v,w',e,hE,g⟩:=h a w ⟨f,b,c⟩;unfold Vp UD;simp only[ho,resolve,invoke,builtin,Ue,VA,UE,Zw,V2,Zx,e];exact d _ _ hE g
theorem zA(h:kQ P Q F ops a0 0 (ops.toList.take m)):∀k o,k<m->ops[k]? = some o->zM P Q F ops a0 k o:=λk o b ho=>by
 have:=xC (ops.toList.take m) 0 h k o (by rw[Vh,yB3 b,UF];exact ho);rwa[TO]at this
theorem InvF.act{a:Act}(R:RegF P Q F ops a0 m)(h:InvF F ops a0 L a w)(l:m<=ops.size)(c:∀i,on L i=true↔i<m){V:Nat->TC}(g:∀i d,on L i=true->aV ops i=some d->a.tmps[d]? = some (V i)):a=bW V (ops.toList.take m) 0 a0:=by
 refine Act.ext' ?_ (by rw[mX];exact h.def');apply yAt;intro t;by_cases f:∃(i:Nat) (o:UI),i<m/\ops[i]? = some o/\o.dst=some t
 ·obtain⟨i,o,b,ho,hd⟩:=f;rw[g i t ((c i).2 b) (by rw[jQ ho];exact hd)];rw[r6 V (ops.toList.take m) 0 a0 i o t (by rw[Vh,yB3 b,UF];exact ho) hd (λj n k e=>((R.of ho).2 t hd).2 j (by
   rw[Vh]at k;split at k
   ·rw[UF]at k;rw[jQ k];exact e
   ·cases k)) ((R.of ho).2 t hd).1,TO]
 ·rw[h.rest t (λi k hd=>?_),lW V (ops.toList.take m) 0 a0 t (λo e hd=>?_)]
  ·obtain⟨i,k⟩:=Vv e;rw[Vh]at k;split at k
   ·rename_i b
    rw[UF]at k;exact f ⟨i,o,b,k,hd⟩
   ·cases k
  ·unfold aV at hd;cases b:ops[i]? with
   | none=>rw[b]at hd;cases hd
   | some x=>rw[b]at hd;exact f ⟨i,x,(c i).1 k,b,hd⟩
theorem GQ{id:Nat}(F:Flow)(n:Nat)(S:ops.size=n+1)(hd:(US n).all (λj=>depOn ops n j || (US n).any (λi=>depOn ops n i && depOn ops i j))=true)(X:P.follows .mixedOrders=true)(R:RegF P Q F ops a0 n)(T:∀b,F.B b w.drew)
 (W:∀(V:Nat->TC) (w':TA),(∀i,i<n->F.kill i=[]->F.R i (V i) w')->(∀b,F.killB b=[]->F.B b w')->wpList P ops Q (ops.toList.drop n) (bW V (ops.toList.take n) 0 a0) w'):(Vj id ops true).wp P Q a0 w:=by
 have key:∀(c:Nat) (L:Array Bool) (a:Act) (w:TA),unl L=c->on L n=false->InvF F ops a0 L a w->wpAny P .any ops Q c L a w:=by
  intro c;induction c with
  | zero =>
   intro L a w N k p;have:=jJ N n (by rw[p.size];omega);rw[k]at this;cases this
  | succ c ih =>
   intro L a w N k p;refine⟨λD=>?_,λi U=>?_⟩
   ·have:=p.full R D n oM;rw[k]at this;cases this
   ·obtain⟨r,o,ho,t⟩:=mem_ready.1 U;have I:=(Uh.1 ho).1;have H:on L i=false:=by
     unfold on;rw[TS]at r⊢;cases B:L[i]? with
     | none=>rfl
     | some b=>rw[B]at r;exact r
    by_cases A:i=n
    ·subst A;have q:∀j,on L j=true↔j<i:=λj=>by
      constructor
      ·intro m;have g:j<ops.size:=by rw[<-p.size];exact BF m
       rcases Vo j i with h|h
       ·exact h
       ·obtain rfl:j=i:=oM;rw[k]at m;cases m
      ·intro m;have s:∀j,depOn ops i j=true->on L j=true:=λj g=>by
        unfold depOn at g;rw[ho]at g;obtain⟨e,u,y⟩:=Xr.1 g;simp only[T0,beq_iff_eq]at y;have:=t e u y.1;rw[y.2]at this;exact this
       have g:=Uo.1 hd j (U4.2 m);rw[Wu]at g;rcases g with g|g
       ·exact s j g
       ·obtain⟨x,C,E⟩:=List.any_eq_true.1 g;rw[T0]at E;have v:=s x E.1;have G:x<ops.size:=by have:=U4.1 C;omega
        have u:=Uj G;have z:=E.2;unfold depOn at z;rw[u]at z;exact Ax (ho:=u) p z v
     obtain⟨V,M,J⟩:=p.all;have Y:=p.act R oM q M;have v:∀l:List Nat,l=[]->∀x∈l,on L x=false:=λl Z x C=>by rw[Z]at C;cases C
     have s:=W V w (λj m hk=>J j ((q j).2 m) (v _ hk)) (λb y=>p.base b (v _ y));have u:ops.toList.drop i=[o]:=by
      have z:ops.toList.length=i+1:=by rw[TR];exact S
      rw[List.drop_eq_getElem_cons oM,List.drop_of_length_le oM];have:ops.toList[i]? = some o:=by rw[UF];exact ho
      rw[TZ oM]at this;rw[Uc.inj this]
     rw[u,<-Y]at s;have K:wpOp P ops Q i (λE w'=>Q .normal E w') a w:=by
      unfold wpOp;rw[ho];exact s
     refine Zh (λE w' O=>?_) K;have z:∀j,j<ops.size->on (L.setIfInBounds i true) j=true:=λj m=>by
      rw[eI (by rw[p.size];omega)];by_cases h:j<i
      ·rw[(q j).2 h,Wz]
      ·rw[show j=i by omega];simp
     have D:UN .any ops (L.setIfInBounds i true)=[]:=by
      apply XN.2;intro j m;obtain⟨r,o',G,-⟩:=mem_ready.1 m;have g:=z j (Uh.1 G).1;unfold on at g;rw[TS]at r g;cases B:(L.setIfInBounds i true)[j]? with
      | none=>rw[B]at r;cases r
      | some b=>rw[B]at r g;rw[show b=false from r]at g;cases g
     cases c with
     | zero=>exact⟨D,O⟩
     | succ f=>exact⟨λ_=>O,λj m=>by rw[D]at m;cases m⟩
    ·refine Zh (λE w' q=>ih _ E w' (by have:=lK r;omega) ?_ q) (A9 R oM (λj m=>?_) ho H t p)
     ·rw[eI (by rw[p.size];exact I),k];simpa using A
     ·have g:j<ops.size:=by rw[<-p.size];exact BF m
      rcases Vo j n with h|h
      ·exact h
      ·obtain rfl:j=n:=oM;rw[k]at m;cases m
 have k:∀i,on (TP ops.size false) i=false:=λi=>by
  unfold on;rw[TS,VZ];by_cases h:i<ops.size
  ·rw[yB3 h];rfl
  ·rw[yB4 h];rfl
 refine yBw X (key _ _ a0 _ ?_ (k n) ⟨TY,(λi o _ h=>by rw[k]at h;cases h),rfl,rfl,λ_ _=>rfl,⟨λ_=>VU,λi d h=>(by rw[k]at h;cases h),λi h=>(by rw[k]at h;cases h)⟩,λb _=>T b⟩);unfold unl;rw[YK,YR];simp
end RG
namespace RG
open Go Go.RowKit
variable {P:Vd}{ops:Array UI}{Q:YJ->Act->TA->Prop}{w:TA}{a0:Act}
def AllE(a:Act):List (Vn × TC)->Prop
 | []=>True
 | x :: r=>a.eval (.tmp x.1)=x.2/\AllE a r
def evl(k:List (Vn × TC))(t:Vn):TC:=match k.find? (λx=>x.1 == t) with|some x=>x.2|none=>VU
theorem AllE.mem{a:Act}:∀ {b:List (Vn × TC)},AllE a b->∀x∈b,a.eval (.tmp x.1)=x.2
 | [],_,x,k=>by cases k
 | y :: r,h,x,k=>by
  rcases U0.1 k with rfl|k
  ·exact h.1
  ·exact AllE.mem h.2 x k
theorem AllE.ev{a:Act}{k:List (Vn × TC)}(h:AllE a k):∀t∈k.map (·.1),a.eval (.tmp t)=evl k t:=λt c=>by
 obtain⟨x,e,rfl⟩:=UM.1 c;unfold evl;cases hf:k.find? (λy=>y.1 == x.1) with
 | none =>
  have:=List.find?_eq_none.1 hf x e;simp at this
 | some y =>
  have d:=List.mem_of_find?_eq_some hf;have b:y.1=x.1:=by simpa using List.find?_some hf
  have:=h.mem y d;rw[b]at this;exact this
structure Gw where
 R:Nat->TC->TA->Prop
 B:TA->Prop
 sR:∀i v w w',Below w.heap.size w w'->R i v w->R i v w'
 sB:∀w w',Below w.heap.size w w'->B w->B w'
def Gw.flow(G:Gw):Flow:=⟨G.R,λ_=>G.B,λ_ w w'=>Below w.heap.size w w',λ_=>[],λ_=>[]⟩
structure PreG(G:Gw)(ops:Array UI)(a0:Act)(k:Nat)(o:UI)(a:Act)(w:TA):Prop where
 n:∀j d,bR o j=true->aV ops j=some d->G.R j (a.eval (.tmp d)) w
 o:∀t,oW ops k t=true->a.eval (.tmp t)=a0.eval (.tmp t)
 b:G.B w
variable {G:Gw}
theorem pD{k:Nat}{o:UI}{a:Act}(h:PreF G.flow ops a0 k o a w):PreG G ops a0 k o a w:=⟨λj d b hd=>h.n j d b rfl hd,h.o,h.b 0 rfl⟩
theorem dM{k:Nat}{o:UI}(h:∀(a:Act) (w:TA),PreG G ops a0 k o a w->∃(b:List (Vn × TC)) (v:TC) (w':TA),AllE a b/\(dW (b.map (·.1)) o,(UD (evo (evl b)) o).run P w)=(true,.ok (.value v) w')/\Below w.heap.size w w'/\G.R k v w'):bK P Q G.flow ops a0 k o:=
 sO λa w e=>by
  obtain⟨b,v,w',d,c,hE⟩:=h a w (pD e);simp only[Vz.injEq]at c;refine⟨v,w',?_,hE⟩;rw[uH (evl b) (b.map (·.1)) c.1 d.ev];exact c.2
theorem kH{k:Nat}{o:UI}(h:∀(a:Act) (w:TA),PreG G ops a0 k o a w->∃(b:List (Vn × TC)) (f:FuncId) (args:Array TC),AllE a b/\(dW (b.map (·.1)) o,(UD (evo (evl b)) o).run P w)=(true,.ok (.enter f args) w)/\TW P f args w (rZ w λe w'=>G.R k e w')):bK P Q G.flow ops a0 k o:=by
 intro a w K m g i j;obtain⟨b,f,args,l,c,d⟩:=h a w (pD ⟨m,g,i⟩);simp only[Vz.injEq]at c;unfold Vp;rw[uH (evl b) (b.map (·.1)) c.1 l.ev,c.2,WO];refine d.mono ?_;rintro e w' ⟨v,rfl,hE,n⟩;exact j _ _ hE n
theorem l9{k:Nat}{o:UI}(T:Uw)(t:Vn)(ho:o.op=.load T (.tmp t))(c:(P.underlying T).map (·.isRow)=some true)
 (h:∀(a:Act) (w:TA),PreG G ops a0 k o a w->∃g off cs,a.eval (.tmp t)=.pointer (some ⟨g,off,none⟩)/\w.rangeAt g off cs/\(P.info? T).map (·.size)=some cs.length/\G.R k (.agg cs.toArray) w):bK P Q G.flow ops a0 k o:=
 Az T t ho c λa w i=>by
  obtain⟨g,off,cs,f,d,e,b⟩:=h a w (pD i);exact⟨g,off,cs,f,d,e,TX _ _,b⟩
theorem Jd{k:Nat}{o:UI}(op:BinOp)(T b:Uw)(t1 t2:Vn)(ho:o.op=.binOp op T (.tmp t1) (.tmp t2) b)
 (h:∀(a:Act) (w:TA),PreG G ops a0 k o a w->∃v1 v2 v,a.eval (.tmp t1)=v1/\a.eval (.tmp t2)=v2/\(eqGuard op T (.tmp t1) (.tmp t2) v1 v2).run P w=.ok () w/\(binOp op T v1 v2).run P w=.ok v w/\G.R k v w):bK P Q G.flow ops a0 k o:=
 sO λa w e=>by
  obtain⟨v1,v2,v,g,c,f,d,i⟩:=h a w (pD e);refine⟨v,w,?_,TX _ _,i⟩;unfold UD;rw[ho];dsimp only;rw[g,c,Ue,Ue,f];dsimp only[Result.andThen];rw[d];rfl
theorem Gw.reg{m:Nat}(k:D7 ops a0.tmps.size=true)(h:kQ P Q G.flow ops a0 0 (ops.toList.take m)):RegF P Q G.flow ops a0 m:=
 ⟨k,zA h,λi j _ _ _ _ _ v w w' hE d=>G.sR j v w w' hE d,λi b _ _ w w' hE c=>G.sB w w' hE c⟩
theorem Gw.draws{id:Nat}(G:Gw)(g:P.follows .mixedOrders=true)(k:D7 ops a0.tmps.size=true)(h:kQ P Q G.flow ops a0 0 (ops.toList.take ops.size))(c:G.B w.drew)
 (f:∀(V:Nat->TC) (w':TA),(∀i,i<ops.size->G.R i (V i) w')->G.B w'->Q .normal (bW V ops.toList 0 a0) w'):(Vj id ops true).wp P Q a0 w:=
 wR G.flow g (Gw.reg k h) (λ_=>c) λV w' d b=>f V w' (λi e=>d i e rfl) (b 0 rfl)
theorem Gw.last{id:Nat}(G:Gw)(n:Nat)(k:((ops.size == n+1) && (US n).all (λj=>depOn ops n j || (US n).any (λi=>depOn ops n i && depOn ops i j)))=true)(l:P.follows .mixedOrders=true)(b:D7 ops a0.tmps.size=true)(h:kQ P Q G.flow ops a0 0 (ops.toList.take n))(d:G.B w.drew)
 (g:∀(V:Nat->TC) (w':TA),(∀i,i<n->G.R i (V i) w')->G.B w'->wpList P ops Q (ops.toList.drop n) (bW V (ops.toList.take n) 0 a0) w'):(Vj id ops true).wp P Q a0 w:=by
 rw[T0,beq_iff_eq]at k;exact GQ G.flow n k.1 k.2 l (Gw.reg b h) (λ_=>d) λV w' e c=>g V w' (λi f=>e i f rfl) (c 0 rfl)
end RG
section
open Go.RowKit Go.Sort Go.Deep
variable {P:Nat}[NeZero P]{N:Nat}
theorem Bb{w:TA}{g o:Nat}{v:TC}{cur:Array TC}{e:Uw}{z:Nat × Nat}(h:w.heap[g]? = some (.cells cur e z)):∃k:Array TC,(w.setCell ⟨g,o,none⟩ v).heap[g]? = some (.cells k e z)/\k.size=cur.size:=by
 have b:=(Uh.1 h).1;refine⟨cur.setIfInBounds o v,?_,Up ..⟩;have c:w.heap[g]=.cells cur e z:=by rw[Uj b]at h;exact Uc.inj h
 simp[World.setCell,Array.getElem_modify,b,c]
theorem qH{g:Nat}{e:Uw}{z:Nat × Nat}:∀(vs:List TC) (o:Nat) (w:TA) (cur:Array TC),w.heap[g]? = some (.cells cur e z)->∃k:Array TC,(w.setCells g o vs).heap[g]? = some (.cells k e z)/\k.size=cur.size
 | [],_,_,cur,h=>⟨cur,h,rfl⟩
 | v :: r,o,w,cur,h=>by
  obtain⟨i,f,c⟩:=Bb (o:=o) (v:=v) h;obtain⟨j,d,b⟩:=qH r (o+1) _ i f;exact⟨j,d,b.trans c⟩
theorem IK{W:TA}{base n s g o cap:Nat}{e:Uw}{xs vs:List TC}(h:W.ownsRow base e s (.slice (some (aZ g)) n cap) n xs)(A:o+vs.length<=n*s):(W.setCells g o vs).ownsRow base e s (.slice (some (aZ g)) n cap) n (RG.rep xs o vs):=by
 have p:o+vs.length<=xs.length:=by rw[h.1];exact A
 refine⟨by rw[RG.dH p];exact h.1,?_⟩;rcases h.2 with⟨d,-⟩|⟨B,u,cur,d,y,q,m,x,r,w⟩
 ·cases d
 ·injection d with e1 e2 e3
  injection e1 with e1
  injection e1 with e1
  subst e1;subst e3;obtain⟨f,l,a⟩:=qH vs o W cur q;refine T8 ⟨g,cap,f,rfl,y,l,m,x,by rw[a];exact r,?_⟩;have z:n*s<=cur.size:=by rw[r];exact Xm s m
  apply yAG;intro i;rw[RG.rep_at p,Vh,<-w];have t:∀i,W.cell? ⟨g,i,none⟩=cur[i]?:=λi=>cell_of_row W g i cur e (0,0) q
  have v:(W.setCells g o vs).cell? ⟨g,i,none⟩=f[i]?:=cell_of_row _ g i f e (0,0) l;by_cases b:i<n*s
  ·rw[yB3 b];by_cases k:o<=i/\i<o+vs.length
   ·rw[yB3 k];have c:i-o<vs.length:=oM;have:=World.cell?_setCells_in g vs o W (λj c=>by rw[t (o+j),Uj oM];rfl) (i-o) c;rw[show o+(i-o)=i by omega,v]at this;rw[UF,this,TZ c]
   ·rw[yB4 k,Vh,yB3 b,UF,UF,<-v,<-t i];exact World.cell?_setCells_out g vs o W ⟨g,i,none⟩ (λ_ _=>by show i<o\/o+vs.length<=i;omega)
  ·rw[yB4 b,yB4 oM,Vh,yB4 b]
theorem Ls{xs ys vs:List TC}{o:Nat}:RG.rep (xs++ys) (xs.length+o) vs=xs++RG.rep ys o vs:=by
 unfold RG.rep;rw[List.take_length_add_append,Nat.add_assoc,List.drop_length_add_append,List.append_assoc]
theorem iH{n:Nat}{p:Bs}(k:p.size=33):(wn n++aA p).length=37:=by rw[TT,aK k];rfl
theorem fQ(x:Nat × Bs)(r:List (Nat × Bs)):aU (x :: r)=(wn x.1++aA x.2)++aU r:=by unfold aU;rw[Zg]
theorem xF(s:Nat):∀(l:List (Nat × Bs)) (j:Nat) (k:j<l.length),(∀x∈l.map (·.2),x.size=33)->aU (l.set j (s,(l[j]).2))=RG.rep (aU l) (37*j) (wn s)
 | [],j,k,_=>by cases k
 | x :: r,0,_,_=>by
  show aU ((s,x.2) :: r)=_;rw[fQ,fQ];rfl
 | x :: r,j+1,k,hs=>by
  have c:=iH (n:=x.1) (hs x.2 (by simp));show aU (x :: r.set j (s,(r[j]'(by simpa using k)).2))=_;rw[fQ,fQ,xF s r j (by simpa using k) (λy b=>hs y (Uq _ b)),show 37*(j+1)=(wn x.1++aA x.2).length+37*j by rw[c];omega,Ls]
theorem at?_some{p:Bs}:∀ {l:List (Nat × Bs)}{i j:Nat},at? p (l.map (·.2)) i=some j->i<=j/\∃h:j-i<l.length,(l[j-i]).2=p/\∀n,fH N l n p=l.set (j-i) (sPl N (l[j-i]).1 n,p)
 | [],i,j,h=>by cases h
 | (s,q) :: r,i,j,h=>by
  rw[V2]at h;unfold at? at h;by_cases k:p=q
  ·rw[yB3 k]at h;obtain rfl:=Uc.inj h;refine⟨TG _,by simp,?_,λn=>?_⟩
   ·simp[k]
   ·unfold fH;rw[yB3 k];simp[k]
  ·rw[yB4 k]at h;obtain⟨f,d,c,b⟩:=at?_some h;have e:j-i=(j-(i+1))+1:=oM;refine⟨oM,by simp;omega,?_,λn=>?_⟩
   ·simp only[e,Z6];exact c
   ·unfold fH;rw[yB4 k,b n];simp only[e,Z6,TK]
theorem J8{n:Nat}{p:Bs}{l:List (Nat × Bs)}{j:Nat}(h:at? p (l.map (·.2)) 0=some j):(fH N l n p).map (·.2)=l.map (·.2)/\(fH N l n p).length=l.length:=by
 obtain⟨-,k,d,c⟩:=at?_some (N:=N) h;rw[c n];refine⟨?_,List.length_set ..⟩;rw[List.map_set];apply yAG;intro i;rw[List.getElem?_set];by_cases b:j-0=i
 ·subst b;rw[yB3 rfl,yB3 (by rw[Uk];exact k),UX,TZ k];exact congrArg some d.symm
 ·rw[yB4 b]
theorem Mx.again{w W:TA}{m g cap:Nat}{l:List (Nat × Bs)}{p:Bs}{j:Nat}(h:Mx w W m l (.slice (some (aZ g)) l.length cap))(i:∀x∈l.map (·.2),x.size=33)(b:at? p (l.map (·.2)) 0=some j)(o:j<l.length)(n:Nat):
 Mx w (W.setCells g (37*j) (wn (sPl N (l[j]).1 n))) m (fH N l n p) (.slice (some (aZ g)) l.length cap):=by
 have k:=h.own_ne (g:=g) rfl;obtain⟨e,d⟩:=J8 (N:=N) (n:=n) b;refine⟨RG.below_setCells k.2.1 _ _ _ h.bl,?_,h.lm,?_⟩
 ·rw[RG.aG _ _ _ _ _ (Ne.symm k.1),e,d];exact h.mp
 ·obtain⟨-,q,c,f⟩:=at?_some (N:=N) b;have e3:fH N l n p=l.set j (sPl N (l[j]).1 n,(l[j]).2):=by rw[f n];simp only[YD]at c⊢;rw[c]
  rw[d,e3,xF _ l j o i];exact IK h.ow (by show 37*j+4<=_;omega)
theorem Dw(O:Ord N)(ns:Nat->Nat)(e:Nat->Bs){k:Nat}(d:∀j,j<k->ns j<N):∀i,i<=k->∀x∈mrg N ns e i,x.1<N
 | 0,_=>λx b=>by cases b
 | i+1,hi=>by
  have f:=Dw O ns e d i oM;have h:∀(l:List (Nat × Bs)) n p,n<N->(∀x∈l,x.1<N)->∀x∈fH N l n p,x.1<N:=by
   intro l n p g;induction l with
   | nil=>intro _ x b;simp[fH]at b;rw[b];exact g
   | cons y r ihr =>
    intro c x b;unfold fH at b;split at b
    ·rcases U0.1 b with rfl|b
     ·exact Vm _ O.pos
     ·exact c x (Uq _ b)
    ·rcases U0.1 b with rfl|b
     ·exact c _ Uz
     ·exact ihr (λz m=>c z (Uq _ m)) x b
  exact h _ _ _ (d i oM) f
end
section
open Go.RowKit Go.Sort Go.Deep
variable {N:Nat}
section
variable (w:TA) (m g4 cap k6 j s n z:Nat) (l:List (Nat × Bs)) (p:Bs)
def Ra:Nat->TC->TA->Prop
 | 0,v,_=>v=.slice (some (aZ g4)) l.length cap
 | 1,v,_=>v=iZ j
 | 2,v,_=>v=.slice (some (aZ g4)) l.length cap
 | 3,v,_=>v=iZ j
 | 4,v,_=>v=.pointer (some ⟨g4,0+37*j,none⟩)
 | 5,v,_=>v=.pointer (some ⟨g4,0+37*j,none⟩)
 | 6,v,_=>v=nv s
 | 7,v,_=>v=pZ k6
 | 8,v,_=>v=nv n
 | 9,v,_=>v=nv z
 | 10,v,_=>v=.pointer (some ⟨g4,0+37*j,none⟩)
 | 11,v,_=>v=.pointer (some ⟨g4,0+37*j,none⟩)
 | _,_,_=>True
theorem Qf{i:Nat}{v:TC}{W W':TA}(h:Ra g4 cap k6 j s n z l i v W):Ra g4 cap k6 j s n z l i v W':=by
 match i,h with
 | 0,h=>exact h
 | 1,h=>exact h
 | 2,h=>exact h
 | 3,h=>exact h
 | 4,h=>exact h
 | 5,h=>exact h
 | 6,h=>exact h
 | 7,h=>exact h
 | 8,h=>exact h
 | 9,h=>exact h
 | 10,h=>exact h
 | 11,h=>exact h
 | _+12,_=>trivial
def Ga:RG.Gw:=⟨Ra g4 cap k6 j s n z l,λW=>Mx w W m l (.slice (some (aZ g4)) l.length cap)/\Row W k6 (wn n++aA p),λ_ _ _ _ _ h=>Qf g4 cap k6 j s n z l h,λ_ _ k h=>⟨h.1.kept k,h.2.below k⟩⟩
end
theorem range_front'{W:TA}{k o:Nat}{xs ys:List TC}(h:W.rangeAt k o (xs++ys)):W.rangeAt k o xs:=λj v b=>h j v (by rw[UB (T9.1 b).1];exact b)
theorem Mx.drew{w W:TA}{m:Nat}{l:List (Nat × Bs)}{v:TC}(h:Mx w W m l v):Mx w W.drew m l v:=⟨h.bl.drew,h.mp,h.lm,h.ow⟩
theorem I4(O:Ord N)(R:TC->TA->Prop)(g k c:Nat)(hk:k<=1000)(ns:Nat->Nat)(o:Nat->Bs)(ha:∀j,j<k->(o j).size=33)(hn:∀j,j<k->ns j<N)(w:TA)(hg:g<w.heap.size)(hr:∀j,j<k->w.rangeAt g (37*j) (wn (ns j)++aA (o j)))
 (h9:∀W v,Mx w W w.heap.size (mrg N ns o k) v->TW prog 82 #[v,.func (.func 83) #[] #[]] W (Ret R)) :
 TW prog 39 #[.slice (some (aZ g)) k c] w (Ret R):=by
 have h8:=Hid.mk' h9;have k9:(Instr.makeMap 138 none).run prog w=.ok (.map (some w.heap.size)) (w.alloc (.map #[] 0)):=kR;obtain⟨w1,h4⟩:=hE (w.alloc (.map #[] 0));rw[h4.out]at k9;have M1:Hid (Mx w w1 w.heap.size (mrg N ns o 0) (.slice none 0 0)):=by
  rw[<-h4.out];exact⟨aD w _,by show(w.heap.push (.map #[] 0))[w.heap.size]? = _;rw[Array.getElem?_push_size];rfl,TG _,rfl,Ub ⟨rfl,rfl⟩⟩
 have J:=mk5 O ha hn hg hr;obtain⟨d,hq,k1⟩:=TJ.1 uCP;obtain⟨d',hy,k2⟩:=TJ.1 uT;have K:Hid ((prog.underlying 55=some d/\d.isRow=true)/\prog.underlying 100=some d'/\d'.isRow=true):=⟨⟨hq,k1⟩,hy,k2⟩
 go_enter func39,ntmps39;go_wp2;go_loopg [4,12] k (λq s4 s12 W=>∃i:Nat,i+q=k/\s12=iZ i/\Hid (Mx w W w.heap.size (mrg N ns o i) s4))
 case atStart=>exact⟨0,oM,rfl,M1⟩
 case round =>
  obtain⟨i,kd,rfl,KM⟩:=hrel;by_cases hi:i<k
  ·have k8:(i:Int)<(k:Int):=oM;obtain⟨n,G⟩:=hE (ns i);obtain⟨p,F⟩:=hE (o i);obtain⟨l,hl⟩:=hE (mrg N ns o i);rw[hl.out]at KM;have r:Hid (p.size=33):=by have:=J.2.1 i hi;rw[F.out]at this;exact this
   have k3:Hid (l.length<=i):=by have:=Aj (N:=N) ns o i;rw[hl.out]at this;exact this
   obtain⟨q,cap,rfl⟩:=GE KM.ow;obtain⟨T,U⟩:=hE (wr.alloc (.cells zT.toArray 100));obtain⟨I,h0⟩:=hE (T.setCells wr.heap.size 0 (wn n++aA p));have m:(wn n++aA p).length=37:=by rw[TT,aK r.out];rfl
   have F1:Hid (Row T wr.heap.size zT/\Below wr.heap.size wr T/\T.heap.size=wr.heap.size+1):=by rw[<-U.out];exact⟨aE wr _ _,aD wr _,TQ _ _⟩
   have Y:Hid (Row I wr.heap.size (wn n++aA p)/\Below wr.heap.size wr I/\I.heap.size=wr.heap.size+1):=by rw[<-h0.out];exact⟨F1.1.put (by rw[m];rfl),RG.below_setCells (TG _) _ _ _ F1.2.1,by rw[RG.setCells_size];exact F1.2.2⟩
   have Q:=mk1 (KM.kept Y.2.1);have C:∀x∈l.map (·.2),x.size=33:=by have:=wE (N:=N) ns o J.2.1 i oM;rw[hl.out]at this;exact this
   cases D:at? p (l.map (·.2)) 0 with
   | none =>
    have b:=mk1 (D);have B1:=Hid.mk' (BP r.out (l.map (·.2)) C w.heap.size l.length I Q.mp);rw[b.out]at B1;have B2:Hid ((YI 138 (.map (some w.heap.size)) (.agg (aA p).toArray) (iZ (l.length:Int))).run prog I=.ok () (I.putObj w.heap.size (.map (ents (l.map (·.2)++[p]) 0).toArray (l.length+1)))):=by
     have h:=Kz r.out (l.map (·.2)) C w.heap.size I (by rw[Uk];exact Q.mp) b.out;rw[Uk]at h;exact h
    obtain⟨v',W5,f,K5,ke,-⟩:=Q.push r.out (by have:=k3.out;omega) n;obtain⟨S,B⟩:=hE (I.putObj w.heap.size (.map (ents (l.map (·.2)++[p]) 0).toArray (l.length+1)));have F3:Hid (Row S wr.heap.size (wn n++aA p)/\S.heap.size=wr.heap.size+1):=by rw[<-B.out];exact⟨Y.1.putObj Q.mp rfl _,by simp[ZV];exact Y.2.2⟩
    have P:=Hid.mk' (RJ r.out n S);obtain⟨W4,L⟩:=hE (S.alloc (.cells (wn n++aA p).toArray 100));rw[B.out]at B2 f;rw[L.out]at P f;rw[F3.2]at P;rw[Y.2.2]at f;have V:Hid (Mx w W5 w.heap.size (mrg N ns o (i+1)) v'):=by
     have e:mrg N ns o (i+1)=l++[(n,p)]:=by
      show fH N (mrg N ns o i) (ns i) (o i)=_;rw[hl.out,G.out,F.out];exact Cp b.out
     rw[e];exact K5
    have B0:Hid (wr.rangeAt g (37*i) (wn n++aA p)):=by
     have h:=RG.range_below (J.2.2.2.2 i hi) KM.bl J.2.2.2.1;rw[G.out,F.out]at h;exact h
    have M:Hid ((prog.info? 100).map (·.size)=some (wn n++aA p).length):=by show _=_;rw[m];exact iT
    have E:Hid ((prog.info? 100).map (·.size)=some (wn n++aA p).toArray.size/\T.there wr.heap.size 0 (wn n++aA p).toArray.size):=by
     have e:(wn n++aA p).toArray.size=37:=by rw[UH];exact m
     rw[e];exact⟨iT,F1.1.2.2⟩
    have X:Hid ((prog.info? 55).map (·.size)=some (aA p).length):=by show _=_;rw[aK r.out];exact kN
    have HB:=mk1 (lS (xs:=wn n) Y.1.2.1);have Z:Hid ((wn n++aA p).toArray.all (·.oneCell')=true):=by
     show _=_;rw[Vu];intro u hu;exact cells_one n p u (WU.1 hu)
    have k6:=atT g 0 k c i hi;have k4:=Hid.mk' f;obtain⟨vt,A⟩:=hE (Um (wn n++aA p).toArray);obtain⟨vp,H⟩:=hE (Um (aA p).toArray);rw[H.out]at B1 B2;rw[A.out]at P;go_wp2_with (first|(refine UL rfl 100 _ rfl g (37*i) ?_ (wn n++aA p) d' ?_ ?_ ?_ ?_ ?_;rfl;exact B0.out;exact K.2.1;exact K.2.2;exact M.out;rw[A.out])|(refine cG (v:=.pointer (some ⟨wr.heap.size,0,none⟩)) (w':=T) rfl (.alloc 100) rfl ?_ ?_;(rw[<-U.out];kernel_rfl))|(refine Ui rfl 100 _ _ rfl wr.heap.size 0 (wn n++aA p).toArray ?_ ?_ ?_ ?_ ?_ ?_;rfl;exact A.symm;exact E.2;exact E.1;exact Z.out;rw[show(wn n++aA p).toArray.toList=wn n++aA p from rfl,h0.out])|(refine UL rfl 55 _ rfl wr.heap.size 4 ?_ (aA p) d ?_ ?_ ?_ ?_ ?_;rfl;exact HB.out;exact K.1.1;exact K.1.2;exact X.out;rw[H.out])|(refine yE (x:=.map (some w.heap.size)) (y:=vp) (w':=I) rfl 138 _ _ true rfl ?_ ?_ B1.out ?_;rfl;rfl)|(refine F9 (x:=.map (some w.heap.size)) (y:=vp) (z:=iZ (l.length:Int)) (w':=S) rfl 138 _ _ _ rfl ?_ ?_ ?_ B2.out ?_;rfl;rfl;rfl)|(refine UL rfl 100 _ rfl wr.heap.size 0 ?_ (wn n++aA p) d' ?_ ?_ ?_ ?_ ?_;rfl;exact F3.1.2.1;exact K.2.1;exact K.2.2;exact M.out;rw[A.out])|(refine oZ (v:=.slice (some ⟨wr.heap.size+1,0,none⟩) 1 1) (w':=W4) rfl 50 1 _ rfl #[(0,vt)] ?_ P.out ?_;kernel_rfl)|(refine jI (x:=.slice q l.length cap) (y:=.slice (some ⟨wr.heap.size+1,0,none⟩) 1 1) (v:=v') (w':=W5) rfl _ _ 50 rfl ?_ ?_ ?_ ?_;rfl;rfl;exact k4.out))
    go_roundg (gk-1)
    case measure=>omega
    case rel=>exact⟨i+1,oM,rfl,V⟩
   | some j =>
    obtain⟨-,B,h2,-⟩:=at?_some (N:=N) D;rw[YD]at B;simp only[YD]at h2;have B1:=Hid.mk' (BP r.out (l.map (·.2)) C w.heap.size l.length I Q.mp);rw[D]at B1;obtain⟨f,kc,hm,-,hz,hh⟩:=sD Q.ow C oM;injection hm with q1 q2 q3
    subst q1;obtain⟨s,h1⟩:∃s,Hid ((l[j]'B).1=s):=⟨(l[j]'B).1,(rfl:(l[j]'B).1=(l[j]'B).1)⟩
    have hx:Hid (s<N):=by
     have:=Dw J.1 ns o J.2.2.1 i oM;rw[hl.out]at this;rw[<-h1.out];exact this _ (UK B)
    have ka:Hid (n<N):=by rw[<-G.out];exact J.2.2.1 i hi
    have B0:Hid (wr.rangeAt g (37*i) (wn n++aA p)):=by
     have h:=RG.range_below (J.2.2.2.2 i hi) KM.bl J.2.2.2.1;rw[G.out,F.out]at h;exact h
    have M:Hid ((prog.info? 100).map (·.size)=some (wn n++aA p).length):=by show _=_;rw[m];exact iT
    have E:Hid ((prog.info? 100).map (·.size)=some (wn n++aA p).toArray.size/\T.there wr.heap.size 0 (wn n++aA p).toArray.size):=by
     have e:(wn n++aA p).toArray.size=37:=by rw[UH];exact m
     rw[e];exact⟨iT,F1.1.2.2⟩
    have X:Hid ((prog.info? 55).map (·.size)=some (aA p).length):=by show _=_;rw[aK r.out];exact kN
    have HB:=mk1 (lS (xs:=wn n) Y.1.2.1);have Z:Hid ((wn n++aA p).toArray.all (·.oneCell')=true):=by
     show _=_;rw[Vu];intro u hu;exact cells_one n p u (WU.1 hu)
    have k6:=atT g 0 k c i hi;obtain⟨vt,A⟩:=hE (Um (wn n++aA p).toArray);obtain⟨vp,H⟩:=hE (Um (aA p).toArray);rw[H.out]at B1;have P:=mk1 (B);have HS:Hid (∀h:j<l.length,(l[j]'h).1=s):=λ_=>h1.out
    have HJ:=mk2 D C;have HK:=mk2 Q.out Y.1;have KN:Hid (mrg N ns o (i+1)=fH N l n p):=by
     show fH N (mrg N ns o i) (ns i) (o i)=_;rw[hl.out,G.out,F.out]
    clear m C Q KM h2 q2 q3 hh hz;clear D;go_wp2_with (first|(refine UL rfl 100 _ rfl g (37*i) ?_ (wn n++aA p) d' ?_ ?_ ?_ ?_ ?_;rfl;exact B0.out;exact K.2.1;exact K.2.2;exact M.out;rw[A.out])|(refine cG (v:=.pointer (some ⟨wr.heap.size,0,none⟩)) (w':=T) rfl (.alloc 100) rfl ?_ ?_;(rw[<-U.out];kernel_rfl))|(refine Ui rfl 100 _ _ rfl wr.heap.size 0 (wn n++aA p).toArray ?_ ?_ ?_ ?_ ?_ ?_;rfl;exact A.symm;exact E.2;exact E.1;exact Z.out;rw[show(wn n++aA p).toArray.toList=wn n++aA p from rfl,h0.out])|(refine UL rfl 55 _ rfl wr.heap.size 4 ?_ (aA p) d ?_ ?_ ?_ ?_ ?_;rfl;exact HB.out;exact K.1.1;exact K.1.2;exact X.out;rw[H.out])|(refine yE (x:=.map (some w.heap.size)) (y:=vp) (w':=I) rfl 138 _ _ true rfl ?_ ?_ B1.out ?_;rfl;rfl)|fail)
    refine(Ga w w.heap.size f cap wr.heap.size j s n (sPl N s n) l p).last 12 kR kR kR ⟨
     RG.dM λa W b=>⟨[(4,.slice (some (aZ f)) l.length cap)],.slice (some (aZ f)) l.length cap,W,⟨b.o 4 kR,yB5⟩,kR,TX _ _,rfl⟩,
     RG.dM λa W b=>⟨[(7,iZ j)],iZ j,W,⟨b.o 7 kR,yB5⟩,kR,TX _ _,rfl⟩,
     RG.dM λa W b=>⟨[(4,.slice (some (aZ f)) l.length cap)],.slice (some (aZ f)) l.length cap,W,⟨b.o 4 kR,yB5⟩,kR,TX _ _,rfl⟩,
     RG.dM λa W b=>⟨[(7,iZ j)],iZ j,W,⟨b.o 7 kR,yB5⟩,kR,TX _ _,rfl⟩,
     RG.dM λa W b=>⟨[(36,.slice (some (aZ f)) l.length cap),(37,iZ j)],.pointer (some ⟨f,0+37*j,none⟩),W,⟨b.n 2 36 kR kR,b.n 3 37 kR kR,yB5⟩,by
      rw[Vz.injEq];refine⟨kR,?_⟩;show((UP 50 (.slice (some (aZ f)) l.length cap) (iZ j)) >>= λv=>pure (Ww v)).run prog W=_;rw[Ue,atT f 0 l.length cap j P.out];rfl,TX _ _,rfl⟩,
     RG.dM λa W b=>⟨[(38,.pointer (some ⟨f,0+37*j,none⟩))],.pointer (some ⟨f,0+37*j,none⟩),W,⟨b.n 4 38 kR kR,yB5⟩,kR,TX _ _,rfl⟩,
     RG.l9 46 39 rfl Go.Proofs.YtjnchldodncnbaaGreat.u40 λa W b=>⟨f,0+37*j,wn s,b.n 5 39 kR kR,by
      obtain⟨g5,kb,k5,-,-,V⟩:=sD b.b.1.ow HJ.2 (by have:=P.out;omega);injection k5 with q1 q2 q3
      injection q1 with q1
      injection q1 with q1
      subst q1;have:=V j P.out;rw[HS P.out]at this;rw[TO];exact range_front' this,i40,rfl⟩,
     RG.dM λa W b=>⟨[(6,.pointer (some ⟨wr.heap.size,0,none⟩))],.pointer (some ⟨wr.heap.size,0,none⟩),W,⟨b.o 6 kR,yB5⟩,kR,TX _ _,rfl⟩,
     RG.l9 46 41 rfl Go.Proofs.YtjnchldodncnbaaGreat.u40 λa W b=>⟨wr.heap.size,0,wn n,b.n 7 41 kR kR,kD b.b.2.2.1,i40,rfl⟩,
     RG.kH λa W b=>⟨[(40,nv s),(42,nv n)],81,#[nv s,nv n],⟨b.n 6 40 kR kR,b.n 8 42 kR kR,yB5⟩,kR,(CU J.1 s n hx.out ka.out W).mono (by
      rintro e W' ⟨u,rfl,V,rfl⟩;exact⟨_,rfl,V,rfl⟩)⟩,
     RG.dM λa W b=>⟨[(34,.slice (some (aZ f)) l.length cap),(35,iZ j)],.pointer (some ⟨f,0+37*j,none⟩),W,⟨b.n 0 34 kR kR,b.n 1 35 kR kR,yB5⟩,by
      rw[Vz.injEq];refine⟨kR,?_⟩;show((UP 50 (.slice (some (aZ f)) l.length cap) (iZ j)) >>= λv=>pure (Ww v)).run prog W=_;rw[Ue,atT f 0 l.length cap j P.out];rfl,TX _ _,rfl⟩,
     RG.dM λa W b=>⟨[(44,.pointer (some ⟨f,0+37*j,none⟩))],.pointer (some ⟨f,0+37*j,none⟩),W,⟨b.n 10 44 kR kR,yB5⟩,kR,TX _ _,rfl⟩,yB5⟩ ⟨HK.1.drew,HK.2⟩ ?_
    intro V S b h5;have k0:=b 9 dC;have h6:=b 11 dC;obtain⟨W4,L⟩:=hE (S.setCells f (37*j) (wn (sPl N s n)));have K4:Hid (Mx w W4 w.heap.size (mrg N ns o (i+1)) (.slice (some (aZ f)) l.length cap)):=by
     rw[<-L.out,KN.out,<-(HS P.out)];exact h5.1.again HJ.2 HJ.1 P.out n
    have hw:Hid (S.there f (37*j) 4):=by
     intro t ht;have hj:=P.out;rcases h5.1.ow.2 with⟨h,-⟩|⟨g2,h7,cur,he,-,hc,hn,-,hs,-⟩
     ·cases h
     ·injection he with he1 he2 he3
      injection he1 with he1
      injection he1 with he1
      subst he1;have k7:37*j+t<cur.size:=by
       rw[hs];have:(j+1)*37<=h7*37:=Xm 37 oM;omega
      refine⟨?_,?_⟩
      ·simp[WN,hc,k7]
      ·simp[ZR,hc]
    dsimp only[RG.bW,UJ,Vw,Vx];simp only[Ug,TD,TK,TL];obtain⟨vz,h3⟩:=hE (nv (sPl N s n));rw[k0,h6,h3.out,TO];go_wp2_with (first|(refine Ui rfl 46 _ _ rfl f (37*j) (wn (sPl N s n)).toArray ?_ ?_ ?_ ?_ ?_ ?_;rfl;exact h3.symm;exact hw.out;exact i40;exact bT (sPl N s n);rw[show(wn (sPl N s n)).toArray.toList=wn (sPl N s n) from rfl,L.out])|fail)
    go_roundg (gk-1)
    case measure=>omega
    case rel=>exact⟨i+1,oM,rfl,K4⟩
  ·have k8:¬(i:Int)<(k:Int):=oM;obtain rfl:i=k:=oM;go_wp2_with fail
   refine(h8 wr _ KM.out).mono ?_;rintro e r ⟨m,rfl,b⟩;have f:=Hid.mk' b;go_wp2;go_ret;exact⟨_,rfl,f.out⟩
end
section
open Go.RowKit Go.Sort Go.Deep
variable {P:Nat}[NeZero P]{N:Nat}
def LF(l:List (Nat × Bs)):List (Nat × Bs):=l.filter λx=>x.1 != 0
theorem oO{l:List (Nat × Bs)}{j:Nat}(k:j<l.length):LF (l.take (j+1))=LF (l.take j)++(if (l[j]).1=0 then [] else [l[j]]):=by
 unfold LF;rw[yAC,TZ k,List.filter_append]
 congr 1
 by_cases h:(l[j]).1=0
 ·simp[h]
 ·simp[h]
theorem NL(l:List (Nat × Bs))(j:Nat):(LF (l.take j)).length<=j:=
 TU (yAe _ _) (by rw[WF];exact Nat.min_le_left _ _)
theorem AO{l:List (Nat × Bs)}{x:Nat × Bs}(h:x∈LF l):x∈l:=(YL.1 h).1
theorem tM{ns:Nat->Nat}:∀(m i:Nat),(∃j,i<=j/\j<i+m/\ns j=0)->∃k,kP ns i m=((k:Nat):Int)/\i<=k/\k<i+m/\ns k=0/\∀j,i<=j->j<k->ns j≠0
 | 0,i,h=>by obtain⟨j,g,e,-⟩:=h;omega
 | m+1,i,h=>by
  unfold kP;by_cases b:ns i=0
  ·rw[yB3 b];exact⟨i,rfl,TG _,oM,b,λj g e=>oM⟩
  ·rw[yB4 b];obtain⟨j,g,e,f⟩:=h;obtain⟨k,l,q,e3,n,o⟩:=tM m (i+1) ⟨j,by
    rcases Vo i j with h|h
    ·omega
    ·obtain rfl:j=i:=oM;exact absurd f b,oM,f⟩
   refine⟨k,l,oM,oM,n,λd p c=>?_⟩;rcases Vo i d with h|h
   ·exact o d h c
   ·obtain rfl:d=i:=oM;exact b
def Rw(W:TA)(g j:Nat)(x:Nat × Bs):Prop:=W.rangeAt g (37*j) (wn x.1++aA x.2)
theorem Rw.below{W W':TA}{g j:Nat}{x:Nat × Bs}(h:Rw W g j x)(k:Below W.heap.size W W')(b:g<W.heap.size):Rw W' g j x:=RG.range_below h k b
structure Dz(base:Nat)(w W:TA)(g:Nat)(l:List (Nat × Bs))(j:Nat):Prop where
 bl:Below base w W
 hb:base<=W.heap.size
 lt:g<W.heap.size
 th:W.there g 0 (37*l.length)
 lo:∀a (ha:a<(LF (l.take j)).length),Rw W g a ((LF (l.take j))[a])
 hi:∀b (hb:b<l.length),j<=b->Rw W g b (l[b])
theorem Dz.grow{base:Nat}{w W W':TA}{g:Nat}{l:List (Nat × Bs)}{j:Nat}(h:Dz base w W g l j)(k:Below W.heap.size W W'):Dz base w W' g l j:=
 ⟨h.bl.trans (k.mono h.hb),TU h.hb k.size,TF h.lt k.size,RG.eG h.th k h.lt,λa e=>(h.lo a e).below k h.lt,λb c d=>(h.hi b c d).below k h.lt⟩
theorem Dz.skip{base:Nat}{w W:TA}{g:Nat}{l:List (Nat × Bs)}{j:Nat}(h:Dz base w W g l j)(k:j<l.length)(c:(l[j]).1=0):Dz base w W g l (j+1):=by
 have e:LF (l.take (j+1))=LF (l.take j):=by rw[oO k,yB3 c,Xu]
 exact⟨h.bl,h.hb,h.lt,h.th,λa i=>by
  have f:=h.lo a (by rw[<-e];exact i);simp only[e];exact f,λb d k=>h.hi b d oM⟩
theorem Dz.put{base:Nat}{w W:TA}{g:Nat}{l:List (Nat × Bs)}{j:Nat}(h:Dz base w W g l j)(u:base<=g)(o:∀x∈l.map (·.2),x.size=33)(i:j<l.length)(s:(l[j]).1≠0):
 Dz base w (W.setCells g (37*(LF (l.take j)).length) (wn (l[j]).1++aA (l[j]).2)) g l (j+1):=by
 have e:LF (l.take (j+1))=LF (l.take j)++[l[j]]:=by rw[oO i,yB4 s]
 have r:=NL l j;have d:∀x∈l,(wn x.1++aA x.2).length=37:=λx p=>iH (o x.2 (UM.2 ⟨x,p,rfl⟩))
 have k:=d (l[j]) (UK i);refine⟨RG.below_setCells u _ _ _ h.bl,by rw[RG.setCells_size];exact h.hb,by rw[RG.setCells_size];exact h.lt,VM h.th _ _ _,λa m=>?_,λb n v=>?_⟩
 ·simp only[e]at m⊢;by_cases c:a<(LF (l.take j)).length
  ·rw[List.getElem_append_left c];have q:=h.lo a c;have f:=yAg (AO (UK c));exact UW q g _ _ (T8 (Ub (by rw[d _ f];omega)))
  ·have f:a=(LF (l.take j)).length:=by rw[TT,List.length_singleton]at m;omega
   subst f;rw[List.getElem_append_right (TG _)];simp only[Nat.sub_self,List.getElem_singleton];refine Vq W g _ _ λt q=>?_
   rw[k]at q;have:=h.th (37*(LF (l.take j)).length+t) oM;rwa[TO]at this
 ·exact UW (h.hi b n oM) g _ _ (T8 (T8 (by rw[k];omega)))
theorem G9(n:Nat):∀v∈(VN (Um zT.toArray).cells n).toList,v.oneCell'=true:=by
 intro v hv;have d:=NS;have c:(Um zT.toArray).cells.size=37:=kR;unfold VN at hv;rw[Array.toList_map]at hv;obtain⟨i,-,rfl⟩:=UM.1 hv;have k:i%(Um zT.toArray).cells.size<(Um zT.toArray).cells.size:=Vm _ (by rw[c];decide);rw[getElem!_pos (Um zT.toArray).cells _ k];exact d _ (by
  have e:(Um zT.toArray).cells.toList=zT:=kR;have b:=Array.getElem_mem_toList k;rwa[e]at b)
theorem MG(g i n c:Nat)(w:TA)(p:0<n)(h:w.there g 0 (37*(i+n))):∃Z:List TC,∀d,(yAz #[50] d #[.slice (some ⟨g,37*i,none⟩) n c]).run prog w=.ok (.tuple #[]) (w.setCells g (37*i) Z):=by
 have e:=NR w;have m:=Zn Cy w;have ho:=G9 n;have k:(VN (Um zT.toArray).cells n).toList.length=n*37:=by
  have:(Um zT.toArray).cells.size=37:=kR;rw[TR,size_zeroCells,this]
 generalize (Um zT.toArray)=f at e ho k;generalize o:(VN f.cells n).toList=Z at ho k;have l:(storeCells ⟨g,37*i,none⟩ Z).run prog w=.ok () (w.setCells g (37*i) Z):=
  run_storeCells_cells (P:=prog) g (37*i) Z 0 w (λj b=>by rw[k]at b;have:=(h (37*i+j) oM).1;simpa using this) (λj b=>by rw[k]at b;have:=(h (37*i+j) oM).2;simpa using this) ho
 refine⟨Z,λd=>?_⟩;obtain⟨b,rfl⟩:∃b,n=b+1:=⟨n-1,oM⟩
 unfold yAz;simp[Ue,m,e,o,l]
theorem SE(g n c i:Nat)(d:i<=n)(k:n<=c)(w:TA):(VP 50 (.slice (some (aZ g)) n c) none (some (iZ i)) none).run prog w=.ok (.slice (some (aZ g)) i c) w:=by
 have e:¬(i:Int)<0:=oM;have b:(i:Int)<=(c:Int):=oM;go_simp
theorem SD(g n c i:Nat)(d:i<n)(k:n<=c)(w:TA):(VP 50 (.slice (some (aZ g)) n c) (some (iZ i)) none none).run prog w=.ok (.slice (some ⟨g,37*i,none⟩) (n-i) (c-i)) w:=by
 have e:¬(i:Int)<0:=oM;have b:(i:Int)<=(n:Int):=oM;go_simp;rw[yB4 oM,Ut]
def TmL(W:TA)(q:Option V5)(l:List (Nat × Bs)):Prop:=0<l.length->∃g,q=some (aZ g)/\g<W.heap.size/\∀j (k:j<l.length),W.rangeAt g (37*j) (wn (l[j]).1++aA (l[j]).2)
def Tw(base:Nat)(l:List (Nat × Bs))(w:TA)(e:TC)(w':TA):Prop:=Below base w w'/\∃q cap,e=.slice q (LF l).length cap/\TmL w' q (LF l)
theorem FT{l:List (Nat × Bs)}(h:∀x∈l,x.1≠0):LF l=l:=List.filter_eq_self.2 λx k=>by simpa using h x k
theorem NK{l:List (Nat × Bs)}{k:Nat}(d:k<l.length)(b:(l[k]).1=0):∀j,k<j->j<=l.length->(LF (l.take j)).length<j
 | 0,h,_=>oM
 | j+1,h,hj=>by
  rw[oO oM,TT];rcases Vo k j with c|c
  ·have:=NK d b j c oM;split<;>simp<;>omega
  ·obtain rfl:j=k:=oM;rw[yB3 b];have:=NL l j;simp;omega
theorem JD(l:List (Nat × Bs))(hk:0<l.length)(hw:l.length<=1000)(hs:∀x∈l.map (·.2),x.size=33)(hn:∀x∈l,x.1<top)(base:Nat)(v:TC)(w:TA)(hb:base<=w.heap.size)(ho:w.ownsRow base 100 37 v l.length (aU l)):
 TW prog 82 #[v,.func (.func 83) #[] #[]] w (Ret (Tw base l w)):=by
 obtain⟨g,c,rfl,h1,z,T⟩:=sD ho hs hk;have E:∀(j:Nat) (k:j<l.length),(l[j]).2.size=33:=λj k=>hs _ (UM.2 ⟨_,UK k,rfl⟩)
 have A:l.length<=c/\w.there g 0 (37*l.length):=by
  rcases ho.2 with⟨h,-⟩|⟨y,q,cur,r,-,o,d,-,f,-⟩
  ·cases h
  ·injection r with he1 he2 he3
   injection he1 with he1
   injection he1 with he1
   subst he1;subst he3;refine⟨d,λt ht=>?_⟩;have s:0+t<cur.size:=by
    rw[f];have:l.length*37<=c*37:=Xm 37 d;omega
   exact⟨by simp only[WN,o];simp;omega,by simp[ZR,o]⟩
 by_cases y:∀x∈l,x.1≠0
 ·have I:=FT y;refine(Ce g l.length c oM (λj=>((l[j]?).getD (0,#[])).1) (λj=>((l[j]?).getD (0,#[])).2) (λj k=>by rw[TZ k];exact hn _ (UK k)) (λj k=>by rw[TZ k];exact y _ (UK k)) (λj k=>by rw[TZ k];exact E j k) w z (λj k=>by rw[TZ k];exact T j k)).mono ?_;rintro e f ⟨vv,rfl,d,rfl⟩;refine⟨_,rfl,d.mono hb,some (aZ g),c,by rw[I],?_⟩;rw[I];exact λ_=>⟨g,rfl,TF z d.size,λj k=>RG.range_below (T j k) d z⟩
 ·have hI:=E1 g l.length c oM (λj=>((l[j]?).getD (0,#[])).1) (λj=>((l[j]?).getD (0,#[])).2) (λj k=>by rw[TZ k];exact hn _ (UK k)) (λj k=>by rw[TZ k];exact E j k) w z (λj k=>by rw[TZ k];exact T j k);obtain⟨d,e1,-,e3,S,e5⟩:=tM (ns:=λj=>((l[j]?).getD (0,#[])).1) l.length 0 (by
   have:∃x,x∈l/\x.1=0:=U5 λh=>y λx Q H=>h ⟨x,Q,H⟩
   obtain⟨x,Q,f⟩:=this;obtain⟨j,k⟩:=Vv Q;exact⟨j,VH _,by have:=(T9.1 k).1;omega,by show((l[j]?).getD (0,#[])).1=0;rw[k];exact f⟩)
  rw[e1]at hI;have D:d<l.length:=oM;have F:(l[d]).1=0:=by
   have:((l[d]?).getD (0,#[])).1=0:=S;rw[TZ D]at this;exact this
  have C:LF (l.take d)=l.take d:=FT λx Q=>by
   obtain⟨j,k⟩:=Vv Q;rw[Vh]at k;split at k
   ·rename_i hji
    have:=e5 j (VH _) hji;have f:((l[j]?).getD (0,#[])).1≠0:=this;rw[k]at f;exact f
   ·cases k
  have B:(LF (l.take d)).length=d:=by rw[C,WF];omega
  have D0:Dz base w w g l d:=⟨TX _ _,hb,z,A.2,λa M=>by
   simp only[C]at M⊢;rw[List.getElem_take];exact T a _,λb f _=>T b f⟩
  have D1:Dz base w w g l (d+1):=D0.skip D F;have e6:(LF (l.take (d+1))).length=d:=by rw[oO D,yB3 F,Xu];exact B
  have HI:=Hid.mk' hI;have HZ:Hid (∀j,d<j->j<=l.length->(LF (l.take j)).length<j):=NK D F;have h8:=Hid.mk' D1;have K:Hid (base<=g/\l.length<=c/\(∀x∈l.map (·.2),x.size=33)/\(∀x∈l,x.1<top)/\∀(j:Nat) (k:j<l.length),(l[j]).2.size=33):=⟨h1,A.1,hs,hn,E⟩
  obtain⟨d',h3,h5⟩:=TJ.1 uT;have R:Hid (prog.underlying 100=some d'/\d'.isRow=true):=⟨h3,h5⟩
  have hp:¬((d:Int) = -1):=oM;clear h3 h5 hI D0 D1 hs hn ho T E A y e1 S e5 C B F h1 z;go_enter func82,ntmps82;go_wp2_with fail
  refine HI.mono ?_;rintro e w1 ⟨vv,rfl,h7,rfl⟩;have K1:Hid (Dz base w w1 g l (d+1)):=h8.grow h7;clear h7 HI h8;go_wp2_with fail
  go_loopg [5,6] (l.length-(d+1)) (λm s5 s6 W=>∃j:Nat,d<j/\j+m=l.length/\s6=iZ j/\s5=iZ ((LF (l.take j)).length:Int)/\Hid (Dz base w W g l j))
  case atStart=>exact⟨d+1,oM,oM,rfl,by rw[e6],K1⟩
  case round =>
   clear K1;obtain⟨j,h2,hm,rfl,rfl,G⟩:=hrel;by_cases k:j<l.length
   ·have hi:(j:Int)<(l.length:Int):=oM;obtain⟨n,q⟩:∃n,Hid ((l[j]'k).1=n):=⟨(l[j]'k).1,(rfl:(l[j]'k).1=(l[j]'k).1)⟩
    obtain⟨p,O⟩:∃p,Hid ((l[j]'k).2=p):=⟨(l[j]'k).2,(rfl:(l[j]'k).2=(l[j]'k).2)⟩
    obtain⟨i,o⟩:∃i,Hid ((LF (l.take j)).length=i):=⟨_,rfl⟩
    have s:i<l.length:=by have:=HZ.out j h2 oM;rw[o.out]at this;omega
    rw[o.out];have Y:Hid (p.size=33):=by rw[<-O.out];exact K.2.2.2.2 j k
    have hg:Hid (n<top):=by rw[<-q.out];exact K.2.2.2.1 _ (UK k)
    have B0:Hid (wr.rangeAt g (37*j) (wn n++aA p)):=by
     have h:=G.hi j k (TG _);unfold Rw at h;rw[q.out,O.out]at h;exact h
    obtain⟨J,X⟩:∃J,Hid (wr.alloc (.cells zT.toArray 100)=J):=⟨_,rfl⟩
    obtain⟨U,h9⟩:∃U,Hid (J.setCells wr.heap.size 0 (wn n++aA p)=U):=⟨_,rfl⟩
    have r:(wn n++aA p).length=37:=iH Y.out;have F1:Hid (Row J wr.heap.size zT/\Below wr.heap.size wr J/\J.heap.size=wr.heap.size+1):=by rw[<-X.out];exact⟨aE wr _ _,aD wr _,TQ _ _⟩
    have F2:Hid (Row U wr.heap.size (wn n++aA p)/\Below wr.heap.size wr U):=by rw[<-h9.out];exact⟨F1.1.put (by rw[r];rfl),RG.below_setCells (TG _) _ _ _ F1.2.1⟩
    have P:Hid ((prog.info? 100).map (·.size)=some (wn n++aA p).length):=by show _=_;rw[r];exact iT
    have L:Hid ((prog.info? 100).map (·.size)=some (wn n++aA p).toArray.size/\J.there wr.heap.size 0 (wn n++aA p).toArray.size):=by
     have e:(wn n++aA p).toArray.size=37:=by rw[UH];exact r
     rw[e];exact⟨iT,F1.1.2.2⟩
    have h4:Hid ((wn n++aA p).toArray.all (·.oneCell')=true):=by
     show _=_;rw[Vu];intro u f;exact cells_one n p u (WU.1 f)
    have hq:=atT g 0 l.length c j k;obtain⟨vt,V⟩:∃v,Hid (tvl n p=v):=⟨_,rfl⟩
    have f:Hid (Um (wn n++aA p).toArray=vt):=V;have K2:Hid (Dz base w U g l j):=G.grow F2.2;have HN:=Hid.mk' (IX hg.out Y.out U);rw[V.out]at HN;clear G;go_wp2_with (first|(refine UL rfl 100 _ rfl g (37*j) ?_ (wn n++aA p) d' ?_ ?_ ?_ ?_ ?_;rfl;exact B0.out;exact R.1;exact R.2;exact P.out;rw[f.out])|(refine cG (v:=.pointer (some ⟨wr.heap.size,0,none⟩)) (w':=J) rfl (.alloc 100) rfl ?_ ?_;(rw[<-X.out];kernel_rfl))|(refine Ui rfl 100 _ _ rfl wr.heap.size 0 (wn n++aA p).toArray ?_ ?_ ?_ ?_ ?_ ?_;rfl;exact f.symm;exact L.2;exact L.1;exact h4.out;rw[show(wn n++aA p).toArray.toList=wn n++aA p from rfl,h9.out])|(refine UL rfl 100 _ rfl wr.heap.size 0 ?_ (wn n++aA p) d' ?_ ?_ ?_ ?_ ?_;rfl;exact F2.1.2.1;exact R.1;exact R.2;exact P.out;rw[f.out])|fail)
    refine HN.mono ?_;rintro e W3 ⟨vv,rfl,N,rfl⟩;have K3:Hid (Dz base w W3 g l j/\Row W3 wr.heap.size (wn n++aA p)):=⟨K2.grow N,F2.1.below N⟩
    clear N K2 HN F2 F1;by_cases H:n=0
    ·rw[show decide (n=0)=true by simp[H]];have K4:Hid (Dz base w W3 g l (j+1)):=K3.1.skip k (by rw[q.out];exact H);have S:Hid ((LF (l.take (j+1))).length=i):=by
      show _=_;rw[oO k,yB3 (by rw[q.out];exact H),Xu];exact o.out
     go_wp2;go_roundg (gk-1)
     case measure=>omega
     case rel=>exact⟨j+1,oM,oM,rfl,by rw[S.out],K4⟩
    ·rw[show decide (n=0)=false by simp[H]];obtain⟨W4,Z⟩:∃W4,Hid (W3.setCells g (37*i) (wn n++aA p)=W4):=⟨_,rfl⟩
     have K4:Hid (Dz base w W4 g l (j+1)):=by
      have h:=K3.1.put K.1 K.2.2.1 k (by rw[q.out];exact H);rw[o.out,q.out,O.out,Z.out]at h;exact h
     have S:Hid ((LF (l.take (j+1))).length=i+1):=by
      show _=_;rw[oO k,yB4 (by rw[q.out];exact H),TT,o.out];rfl
     have hh:Hid (W3.there g (37*i) (wn n++aA p).toArray.size):=by
      have e:(wn n++aA p).toArray.size=37:=by rw[UH];exact r
      rw[e];intro t ht;have:=K3.1.th (37*i+t) oM;rwa[TO]at this
     have hl:=atT g 0 l.length c i s;go_wp2_with (first|(refine UL rfl 100 _ rfl wr.heap.size 0 ?_ (wn n++aA p) d' ?_ ?_ ?_ ?_ ?_;rfl;exact K3.2.2.1;exact R.1;exact R.2;exact P.out;rw[f.out])|(refine Ui rfl 100 _ _ rfl g (37*i) (wn n++aA p).toArray ?_ ?_ ?_ ?_ ?_ ?_;rfl;exact f.symm;exact hh.out;exact L.1;exact h4.out;rw[show(wn n++aA p).toArray.toList=wn n++aA p from rfl,Z.out])|fail)
     go_roundg (gk-1)
     case measure=>omega
     case rel=>exact⟨j+1,oM,oM,rfl,by rw[S.out];rfl,K4⟩
   ·have hi:¬(j:Int)<(l.length:Int):=oM;obtain rfl:j=l.length:=oM;have I:LF (l.take l.length)=LF l:=by rw[Zp]
    rw[I];have s:(LF l).length<l.length:=by have:=HZ.out l.length h2 (TG _);rw[I]at this;exact this
    have r:∀a (M:a<(LF l).length),Rw wr g a ((LF l)[a]):=λa M=>by
     have:=G.lo a (by rw[I];exact M);simp only[I]at this;exact this
    have f:∀x∈LF l,(wn x.1++aA x.2).length=37:=λx Q=>iH (K.2.2.1 _ (UM.2 ⟨x,AO Q,rfl⟩))
    obtain⟨Z,N⟩:=MG g (LF l).length (l.length-(LF l).length) (c-(LF l).length) wr oM (by rw[show(LF l).length+(l.length-(LF l).length)=l.length by omega];exact G.th);obtain⟨H,q⟩:∃H,Hid (wr.setCells g (37*(LF l).length) Z=H):=⟨_,rfl⟩
    rw[q.out]at N;have O:Hid (Below base w H/\TmL H (some (aZ g)) (LF l)):=by
     rw[<-q.out];refine⟨RG.below_setCells K.1 _ _ _ G.bl,λ_=>⟨g,rfl,by rw[RG.setCells_size];exact G.lt,λa M=>?_⟩⟩;exact UW (r a M) g _ _ (T8 (Ub (by rw[f _ (UK M)];omega)))
    have L:=SD g l.length c (LF l).length s K.2.1;have J:=SE g l.length c (LF l).length oM K.2.1;clear G r f I q;obtain⟨i,o⟩:∃i,Hid ((LF l).length=i):=⟨_,rfl⟩
    rw[o.out]at L J N s⊢;go_wp2;go_ret;exact⟨_,rfl,O.1,some (aZ g),c,by rw[o.out];rfl,O.2⟩
theorem Qq{p:Option V5}{n c:Nat}{x:UInt8}:encB x≠.slice p n c:=λh=>by cases h
def El(n:Nat)(W:TA)(x:TC)(b:Bs):Prop:=∃k c,x=.slice (some (aZ k)) n c/\n<=c/\b.size=n/\k<W.heap.size/\Holds encB W k 0 b
def isL(n:Nat)(W:TA)(g:Nat):Prop:=∃p c,W.cell? ⟨g,0,none⟩=some (.slice p n c)
structure Gr(n:Nat)(v:TC)(W W':TA):Prop where
 gr:W.grownBy W' v.ownBlock
 is:∀g,v.ownBlock=some g->isL n W g
theorem Gr.of{W W':TA}{n:Nat}(h:Below W.heap.size W W'):Gr n (.slice none 0 0) W W':=
 ⟨⟨h.os,h.tape,h.output,h.size,λk c _=>h.block k c⟩,λg b=>by cases b⟩
theorem Gr.below{n:Nat}{v:TC}{w W W':TA}{B:Nat}(h:Gr n v W W')(b:Below B w W)(c:B<=W.heap.size)(hv:∀g,v.ownBlock=some g->B<=g):Below B w W':=
 b.grown h.gr c (λk d=>hv k d)
theorem Gr.block{n k:Nat}{v:TC}{W W':TA}(h:Gr n v W W')(f:k<W.heap.size)(b:∀p c,W.cell? ⟨k,0,none⟩≠some (.slice p n c)):W'.heap[k]? = W.heap[k]? :=
 h.gr.block k f λe=>by
  obtain⟨p,c,d⟩:=h.is k e.symm;exact b p c d
theorem Holds.kept{W W':TA}{k:Nat}{b:Bs}(h:Holds encB W k 0 b)(e:W'.heap[k]? = W.heap[k]?):Holds encB W' k 0 b:=λj c=>by
 rw[Ua (a:=⟨k,0+j,none⟩) e,UY (a:=⟨k,0+j,none⟩) e];exact h j c
theorem El.kept{m n:Nat}{v x:TC}{W W':TA}{b:Bs}(h:El m W x b)(l:0<m)(f:Gr n v W W'):El m W' x b:=by
 obtain⟨k,c,rfl,j,i,e,d⟩:=h;refine⟨k,c,rfl,j,i,TF e f.gr.size,Holds.kept d (f.block e λp o g=>?_)⟩;have:=(d 0 oM).1;rw[TO,g]at this;exact Qq (Uc.inj this).symm
theorem Row.kept{n k:Nat}{v:TC}{W W':TA}{vs:List TC}(h:Row W k vs)(f:Gr n v W W')(d:∀p c,vs[0]?≠some (.slice p n c))(g:0<vs.length):Row W' k vs:=by
 have e:=f.block h.1 λp c i=>by
  have b:=h.2.1 0 vs[0] (TZ g);rw[TO,i]at b;exact d p c (by rw[TZ g,b])
 refine⟨TF h.1 f.gr.size,λj u b=>?_,λj b=>?_⟩
 ·rw[Ua (a:=⟨k,0+j,none⟩) e];exact h.2.1 j u b
 ·rw[Ua (a:=⟨k,0+j,none⟩) e,UY (a:=⟨k,0+j,none⟩) e];exact h.2.2 j b
structure Lo(n base:Nat)(W:TA)(v:TC)(bs:List Bs):Prop where
 ex:∃xs:List TC,xs.length=bs.length/\W.ownsRow base 23 1 v bs.length xs/\∀(j:Nat) (x:TC) (b:Bs),xs[j]? = some x->bs[j]? = some b->El n W x b
 nil:bs=[]->v=.slice none 0 0
theorem Lo.begin(n base:Nat)(W:TA):Lo n base W (.slice none 0 0) []:=⟨⟨[],rfl,yAw _ _ _ _,λj x b h=>by cases h⟩,λ_=>rfl⟩
theorem add0(g j:Nat):(⟨g,0,none⟩:V5).add j=⟨g,j,none⟩:=by unfold XI;split<;>simp_all
theorem Lo.isL{n base:Nat}{W:TA}{v:TC}{d:List Bs}(h:Lo n base W v d){g:Nat}(f:v.ownBlock=some g):isL n W g:=by
 obtain⟨xs,m,j,l⟩:=h.ex;have i:d≠[]:=λe=>by rw[h.nil e]at f;cases f
 cases d with
 | nil=>exact absurd rfl i
 | cons b r =>
  cases xs with
  | nil=>cases m
  | cons x xr =>
   obtain⟨k,c,rfl,-⟩:=l 0 x b rfl rfl;have:=j.cells f 0 _ rfl;rw[add0]at this;exact⟨_,_,this⟩
theorem Lo.lt{n base:Nat}{W:TA}{v:TC}{k:List Bs}(h:Lo n base W v k):∀g,v.ownBlock=some g->base<=g/\g<W.heap.size:=by
 obtain⟨xs,d,b,c⟩:=h.ex;exact b.lt
theorem Lo.kept{m n base:Nat}{W W':TA}{v w:TC}{i:List Bs}(h:Lo m base W v i)(t:0<m)(f:Gr n w W W')(d:m≠n):Lo m base W' v i:=by
 have o:=λ{g}=>h.isL (g:=g)
 obtain⟨xs,y,q,u⟩:=h.ex;refine⟨⟨xs,y,q.kept f.gr ?_,λj x b s r=>(u j x b s r).kept t f⟩,h.nil⟩;cases hv:v.ownBlock with
 | none=>exact Ub rfl
 | some g =>
  refine T8 λe=>d ?_
  obtain⟨p,c,l⟩:=o hv;obtain⟨z,a,k⟩:=f.is g e.symm;rw[l]at k;injection k with k
  injection k with _ h5 _
theorem Rc:(prog.info? 23).map (λi=>(i.size,i.bytes,i.zero.map λz=>z.cells.size))=some (1,24,some 1):=kR
theorem Ss:prog.underlying 24=some (.slice 23):=kR
theorem Lo.app{n base g:Nat}{W:TA}{v x:TC}{m:List Bs}{b:Bs}(h:Lo n base W v m)(s:0<n)(t:El n W x b)(A:W.cell? ⟨g,0,none⟩=some x)(Q:m.length<=1000000)(C:base<=W.heap.size):
 ∃p W',(Ur #[24,24] 24 #[v,.slice (some (aZ g)) 1 1]).run prog W=.ok p W'/\Lo n base W' p (m++[b])/\Gr n v W W':=by
 obtain⟨i,D,a⟩:=TJ.1 Rc;simp only[Vz.injEq]at a;obtain⟨M,B,H⟩:=a;obtain⟨z,F,r⟩:=TJ.1 H;obtain⟨xs,w,E,N⟩:=h.ex;obtain⟨p,W',J,I,L,O⟩:=YS (P:=prog) W base 24 24 23 i z 1 24 Ss D F M B r dC v m.length xs E (aZ g) 1 1 [x] rfl
  (λj u q=>by
   cases j with
   | zero =>
    obtain rfl:x=u:=by simpa using q
    rw[add0];exact A
   | succ j=>simp at q) (λu f=>by
   obtain rfl:u=x:=by simpa using f
   obtain⟨k,c,rfl,-⟩:=t;rfl) (by unfold maxLen;omega) oM C
 have G:Gr n v W W':=⟨L,λg K=>h.isL K⟩
 refine⟨p,W',J,⟨⟨xs++[x],by simp[w],by rw[TT];exact I,λj y c l f=>?_⟩,λe=>by simp at e⟩,G⟩;by_cases q:j<m.length
 ·rw[UB oM]at l f;exact(N j y c l f).kept s G
 ·rw[U1 oM]at l f;rw[w]at l;cases o:j-m.length with
  | zero =>
   rw[o]at l f;obtain rfl:x=y:=by simpa using l
   obtain rfl:b=c:=by simpa using f
   exact t.kept s G
  | succ d=>rw[o]at l;simp at l
theorem Gx{a:Bs}(i:a.size=33)(w:TA):TW prog 16 #[pvl a] w (rZ w λe w'=>El 33 w' e a):=by
 have f:=Hid.mk' (xJ i w);obtain⟨c,k⟩:=hE (w.alloc (.cells (aA a).toArray 55));rw[k.out]at f;have K:Hid (Row c w.heap.size (aA a)/\Below w.heap.size w c):=by rw[<-k.out];exact⟨aE w _ _,aD w _⟩
 obtain⟨g,b⟩:=hE (pvl a);have d:Hid ((Instr.box 55 g).run prog w=.ok (.pointer (some ⟨w.heap.size,0,none⟩)) c):=by rw[<-b.out];exact f
 rw[b.out];have j:=Qz w.heap.size;go_enter func16,ntmps16;go_wp2_with (first|(refine aM (u:=g) (v:=.pointer (some ⟨w.heap.size,0,none⟩)) (w':=c) rfl 55 (.tmp 0) rfl ?_ ?_ ?_;rfl;exact d.out))
 go_ret;exact⟨_,rfl,K.2,w.heap.size,33,rfl,oM,i,K.1.1,row_holds K.1⟩
def Bo(n c:Nat)(W:TA)(v:TC)(b:Bs):Prop:=∃k x,v=.slice (some (aZ k)) 1 1/\c<=k/\k<W.heap.size/\W.cell? ⟨k,0,none⟩=some x/\El n W x b
theorem Bo.kept{m n c:Nat}{W W':TA}{v u:TC}{b:Bs}(h:Bo n c W v b)(i:0<n)(d:Gr m u W W')(l:∀g,u.ownBlock=some g->g<c):Bo n c W' v b:=by
 obtain⟨k,x,rfl,p,f,o,j⟩:=h;refine⟨k,x,rfl,p,TF f d.gr.size,?_,j.kept i d⟩;rw[Ua (a:=⟨k,0,none⟩) (d.gr.block k f λe=>by have:=l k e.symm;omega)];exact o
def Tm(W:TA)(q:Option V5)(k:Nat)(ns:Nat->Nat)(b:Nat->Bs):Prop:=0<k->∃g,q=some (aZ g)/\g<W.heap.size/\∀j,j<k->W.rangeAt g (37*j) (wn (ns j)++aA (b j))
theorem Tm.kept{m k:Nat}{W W':TA}{u:TC}{q:Option V5}{ns:Nat->Nat}{b:Nat->Bs}(h:Tm W q k ns b)(n:Gr m u W W'):Tm W' q k ns b:=λo=>by
 obtain⟨g,t,d,f⟩:=h o;refine⟨g,t,TF d n.gr.size,λj s i v hv=>?_⟩;have e:=n.block d λp c r=>by
  have l:=f 0 o 0 _ (show(wn (ns 0)++aA (b 0))[0]? = some _ from rfl);rw[show 37*0+0=0 from rfl,r]at l;cases l
 rw[Ua (a:=⟨g,37*j+i,none⟩) e];exact f j s i v hv
section
variable (w0:TA) (v3 v4:TC) (k6 n B0 base:Nat) (p:Bs) (bs cs:List Bs) (q:Option V5) (k:Nat) (ns:Nat->Nat) (az:Nat->Bs)
def PR:Nat->TC->TA->Prop
 | 0,v,_=>v=v3
 | 1,v,_=>v=pZ k6
 | 2,v,_=>v=nv n
 | 3,v,w=>El 32 w v (bx n)
 | 4,v,w=>Bo 32 B0 w v (bx n)
 | 5,v,w=>Lo 32 base w v (bs++[bx n])
 | 6,v,_=>v=v4
 | 7,v,_=>v=.pointer (some ⟨k6,4,none⟩)
 | 8,v,_=>v=pvl p
 | 9,v,w=>El 33 w v p
 | 10,v,w=>Bo 33 B0 w v p
 | 11,v,w=>Lo 33 base w v (cs++[p])
 | 12,v,w=>Lo 32 base w v (bs++[bx n])
 | 13,v,w=>Lo 33 base w v (cs++[p])
 | _,_,_=>True
def PBs:Nat->TA->Prop
 | 0,w=>Row w k6 (wn n++aA p)
 | 1,w=>Lo 32 base w v3 bs
 | 2,w=>Lo 33 base w v4 cs
 | 3,w=>Below base w0 w/\base<=w.heap.size/\B0<=w.heap.size
 | 4,w=>Tm w q k ns az
 | 5,w=>Row w base z33
 | _,_=>True
def PE:Nat->TA->TA->Prop
 | 5=>Gr 32 v3
 | 11=>Gr 33 v4
 | _=>Gr 0 (.slice none 0 0)
def Pk1:Nat->List Nat
 | 4=>[5]
 | 10=>[11]
 | _=>[]
def Pk2:Nat->List Nat
 | 1=>[5]
 | 2=>[11]
 | _=>[]
def FP:RG.Flow:=⟨PR v3 v4 k6 n B0 base p bs cs,PBs w0 v3 v4 k6 n B0 base p bs cs q k ns az,PE v3 v4,Pk1,Pk2⟩
theorem Ki{i:Nat}{w w':TA}(h:PE v3 v4 i w w'):∃m u,Gr m u w w'/\((i=5/\m=32/\u=v3)\/(i=11/\m=33/\u=v4)\/(i≠5/\i≠11/\m=0/\u=.slice none 0 0)):=by
 unfold PE at h;split at h
 ·exact⟨_,_,h,Ub ⟨rfl,rfl,rfl⟩⟩
 ·exact⟨_,_,h,T8 (Ub ⟨rfl,rfl,rfl⟩)⟩
 ·rename_i h1 h2
  exact⟨_,_,h,T8 (T8 ⟨h1,h2,rfl,rfl⟩)⟩
variable (hv3:∀g,v3.ownBlock=some g->base<=g/\g<B0) (hv4:∀g,v4.ownBlock=some g->base<=g/\g<B0)
include hv3 hv4
theorem Kh{i m:Nat}{u:TC}(h:(i=5/\m=32/\u=v3)\/(i=11/\m=33/\u=v4)\/(i≠5/\i≠11/\m=0/\u=.slice none 0 0)):∀g,u.ownBlock=some g->base<=g/\g<B0:=by
 rcases h with⟨-,-,rfl⟩|⟨-,-,rfl⟩|⟨-,-,-,rfl⟩
 ·exact hv3
 ·exact hv4
 ·intro g k;cases k
theorem Qg(i j:Nat)(r:j<14)(l:i≠j)(x:(Pk1 j).contains i=false)(q:¬(j=12/\i=5))(f:¬(j=13/\i=11))(v:TC)(w w':TA)(hE:PE v3 v4 i w w')(t:PR v3 v4 k6 n B0 base p bs cs j v w):PR v3 v4 k6 n B0 base p bs cs j v w':=by
 obtain⟨m,u,k,o⟩:=Ki v3 v4 hE;have s:=Kh v3 v4 B0 base hv3 hv4 o;have d:m=32->i=5:=λh=>by rcases o with⟨q,-⟩|⟨-,f,-⟩|⟨-,-,f,-⟩<;>omega
 have c:m=33->i=11:=λh=>by rcases o with⟨-,f,-⟩|⟨q,-⟩|⟨-,-,f,-⟩<;>omega
 match j,r,t with
 | 0,_,h=>exact h
 | 1,_,h=>exact h
 | 2,_,h=>exact h
 | 3,_,h=>exact El.kept h dC k
 | 4,_,h=>exact Bo.kept h dC k λg b=>(s g b).2
 | 5,_,h=>exact Lo.kept h dC k λe=>l (d e.symm)
 | 6,_,h=>exact h
 | 7,_,h=>exact h
 | 8,_,h=>exact h
 | 9,_,h=>exact El.kept h dC k
 | 10,_,h=>exact Bo.kept h dC k λg b=>(s g b).2
 | 11,_,h=>exact Lo.kept h dC k λe=>l (c e.symm)
 | 12,_,h=>exact Lo.kept h dC k λe=>q ⟨rfl,d e.symm⟩
 | 13,_,h=>exact Lo.kept h dC k λe=>f ⟨rfl,c e.symm⟩
 | _+14,r,_=>omega
theorem MX(i b:Nat)(f:(Pk2 b).contains i=false)(w w':TA)(hE:PE v3 v4 i w w')(x:PBs w0 v3 v4 k6 n B0 base p bs cs q k ns az b w):PBs w0 v3 v4 k6 n B0 base p bs cs q k ns az b w':=by
 obtain⟨m,u,d,j⟩:=Ki v3 v4 hE;have t:=Kh v3 v4 B0 base hv3 hv4 j;have o:m=32->i=5:=λh=>by rcases j with⟨v,-⟩|⟨-,r,-⟩|⟨-,-,r,-⟩<;>omega
 have l:m=33->i=11:=λh=>by rcases j with⟨-,r,-⟩|⟨v,-⟩|⟨-,-,r,-⟩<;>omega
 match b,f,x with
 | 0,_,h=>exact Row.kept h d (λp c e=>by cases e) (by rw[TT];exact TF dC (Nat.le_add_right 4 _))
 | 1,f,h=>exact Lo.kept h dC d λe=>by rw[o e.symm]at f;cases f
 | 2,f,h=>exact Lo.kept h dC d λe=>by rw[l e.symm]at f;cases f
 | 3,_,h=>exact⟨d.below h.1 h.2.1 λg s=>(t g s).1,TU h.2.1 d.gr.size,TU h.2.2 d.gr.size⟩
 | 4,_,h=>exact Tm.kept h d
 | 5,_,h=>exact Row.kept h d (λp c e=>by cases e) dC
 | _+6,_,_=>trivial
end
theorem Lo.drew{n base:Nat}{W:TA}{v:TC}{k:List Bs}(h:Lo n base W v k):Lo n base W.drew v k:=⟨h.ex,h.nil⟩
theorem SumR.all(C:Fld P)(O:Ord N){w w':TA}{k:Nat}(y:k<=512){ns:Nat->Nat}{X:Nat->EC.Pt P}(l:∀j,j<k->ns j<N)(t:∀j,j<k->EC.On (X j)){L M:Nat->Bs}(u:∀j,j<k->L j=bx (ns j))(v:∀j,j<k->M j=wr (X j)){e:TC}(h:SumR P N w k k L M e w'):
 Kk w (wr (EC.tot X k (λj=>(ns j:Int)))) e w':=by
 have r:∀j,j<k->rq N (L j)=some (ns j):=λj b=>by
  rw[u j b];have c:=JQ (TF (l j b) O.le);unfold rq;rw[yB3 ⟨gJ _,by rw[c];exact l j b⟩,c]
 have s:∀j,j<k->∃p,rd P (M j)=some p/\pt p=X j:=λj b=>by rw[v j b];exact Nl C (t j b)
 rcases h with⟨h,-⟩|⟨-,h,-⟩|⟨-,-,⟨⟨j,b,c⟩,-⟩|⟨f,n,⟨⟨j,b,c⟩,-⟩|⟨xs,ys,m,h⟩⟩⟩
 ·exact absurd rfl h
 ·omega
 ·rw[r j b]at c;cases c
 ·obtain⟨p,d,-⟩:=s j b;rw[d]at c;cases c
 ·have q:∀j,j<k->f j=ns j:=λj b=>by
   have:=n j b;rw[r j b]at this;exact(Uc.inj this).symm
  have d:∀j,j<k->EC.Pair (xs j) (ys j) (X j)/\EC.On (X j):=λj b=>by
   obtain⟨p,d,hpt⟩:=s j b;have o:=m j b;rw[d]at o;have x:=Uc.inj o;have g:=QF C d;rw[hpt]at g;rw[x]at g;exact g
  have o:=Hw C (ns:=f) (xs:=xs) (ys:=ys) (p:=X) (N:=k) (λi g=>by rw[q i g];exact TF (l i g) O.le) (λi g=>(d i g).1) (λi g=>(d i g).2);have x:EC.tot X k (λj=>(f j:Int))=EC.tot X k (λj=>(ns j:Int)):=EC.fK k λj b=>by rw[q j b]
  rw[x]at o;rw[<-Fy C (o.pair C) o.2];exact h
structure Pz(w W:TA)(q:Option V5)(k i:Nat)(ns:Nat->Nat)(az:Nat->Bs)(s3 s4:TC):Prop where
 bl:Below w.heap.size w W
 l3:Lo 32 w.heap.size W s3 ((US i).map λj=>bx (ns j))
 l4:Lo 33 w.heap.size W s4 ((US i).map az)
 tm:Tm W q k ns az
 r2:Row W w.heap.size z33
theorem El.of_made{w w':TA}{k n:Nat}{b:Bs}(h:RG.Made w k (cb b) w')(c:b.size=n):El n w' (.slice (some (aZ k)) n n) b:=⟨k,n,rfl,TG _,c,h.lt,cb_holds h.range h.there⟩
theorem Bo.of{n k:Nat}{w:TA}{x:TC}{b:Bs}(h:El n w x b)(c:0<n)(d:k<=w.heap.size)(T:Uw):Bo n k (w.alloc (.cells #[x] T)) (.slice (some ⟨w.heap.size,0,none⟩) 1 1) b:=
 ⟨w.heap.size,x,rfl,d,by rw[TQ];omega,by rw[World.cell?_alloc_new];rfl,h.kept c (Gr.of (n:=0) (aD w _))⟩
theorem Lo.args{n base:Nat}{W:TA}{v:TC}{k:List Bs}(h:Lo n base W v k):∃q cap,v=.slice q k.length cap/\(0<k.length->∃g,q=some (aZ g)/\g<W.heap.size/\∀(j:Nat) (b:Bs),k[j]? = some b->∃x,W.cell? ⟨g,j,none⟩=some x/\El n W x b):=by
 obtain⟨xs,o,c,l⟩:=h.ex;have i:=λ{g:Nat}=>c.cells (g:=g)
 rcases c.2 with⟨rfl,m⟩|⟨g,cap,cur,rfl,-,f,-⟩
 ·exact⟨none,0,by rw[m],λh=>oM⟩
 ·refine⟨_,_,rfl,λ_=>⟨g,rfl,(Uh.1 f).1,λj b e=>?_⟩⟩;have d:j<xs.length:=by rw[o];exact(T9.1 e).1
  have:=i (g:=g) rfl j xs[j] (TZ d);rw[add0]at this;exact⟨_,this,l j _ b (TZ d) e⟩
theorem El.arg{W:TA}{x:TC}{b:Bs}(h:El 32 W x b):Arg W x b:=by
 obtain⟨k,c,rfl,g,e,f,d⟩:=h;exact⟨_,_,_,rfl,e,λ_=>⟨k,0,rfl,g,f,d⟩⟩
theorem El.arg33{W:TA}{x:TC}{b:Bs}(h:El 33 W x b):Arg33 W x b:=by
 obtain⟨k,c,rfl,g,e,f,d⟩:=h;exact⟨_,_,_,rfl,e,λ_=>⟨k,0,rfl,g,f,d⟩⟩
theorem CM(C:Fld P)(O:Ord N)(v:TC)(w:TA)(k:Nat)(hk:k<=512)(ns:Nat->Nat)(X:Nat->EC.Pt P)(hn:∀j,j<k->ns j<N)(hX:∀j,j<k->EC.On (X j))
 (A:∀W,Below w.heap.size w W->TW prog 39 #[v] W (rZ W λe w'=>∃q cap,e=.slice q k cap/\Tm w' q k ns (λj=>wr (X j)))) :
 TW prog 15 #[v] w (rZ w λe w'=>e=pvl (wr (EC.tot X k (λj=>(ns j:Int))))):=by
 have HM:=Hid.mk' A;have y:Hid (Fld P/\Ord N/\(∀j,j<k->ns j<N)/\∀j,j<k->EC.On (X j)):=⟨C,O,hn,hX⟩
 obtain⟨r,Q⟩:∃r:Nat->Bs,Hid ((λj=>wr (X j))=r):=⟨_,rfl⟩
 have F:Hid (∀j,r j=wr (X j)):=λj=>by rw[<-Q.out]
 rw[Q.out]at HM;obtain⟨U,L⟩:∃U,Hid (w.alloc (.cells z33.toArray 55)=U):=⟨_,rfl⟩
 have K1:Hid (Row U w.heap.size z33/\Below w.heap.size w U):=by rw[<-L.out];exact⟨aE w _ _,aD w _⟩
 obtain⟨d,h8,ha⟩:=TJ.1 uCP;obtain⟨d',h9,hc⟩:=TJ.1 uT;have HD:Hid ((prog.underlying 55=some d/\d.isRow=true)/\prog.underlying 100=some d'/\d'.isRow=true):=⟨⟨h8,ha⟩,h9,hc⟩
 clear h8 ha h9 hc A hn hX Q C O;go_enter func15,ntmps15;go_wp2_with (refine cG (v:=.pointer (some ⟨w.heap.size,0,none⟩)) (w':=U) rfl (.alloc 55) rfl ?_ ?_;(rw[<-L.out];kernel_rfl))
 clear L;refine(HM U K1.2).mono ?_;rintro e w2 ⟨vv,rfl,S,q,cap,rfl,Y⟩;have K2:Hid (Pz w w2 q k 0 ns r (.slice none 0 0) (.slice none 0 0)):=⟨K1.2.trans (S.mono K1.2.size),Lo.begin _ _ _,Lo.begin _ _ _,Y,K1.1.below S⟩
 clear S Y K1 HM;go_wp2_with fail
 go_loopg [3,4,12] k (λm s3 s4 s12 W=>∃i:Nat,i+m=k/\s12=iZ i/\Hid (Pz w W q k i ns r s3 s4))
 case atStart=>exact⟨0,oM,rfl,K2⟩
 case round =>
  clear K2;obtain⟨i,hz,rfl,l⟩:=hrel;by_cases hi:i<k
  ·have hw:(i:Int)<(k:Int):=oM;obtain⟨g,hq,D,hr⟩:=l.tm oM;subst hq;obtain⟨n,M⟩:∃n,Hid (ns i=n):=⟨_,rfl⟩
   obtain⟨p,H⟩:∃p,Hid (r i=p):=⟨_,rfl⟩
   have B0:Hid (wr.rangeAt g (37*i) (wn n++aA p)):=by
    have h:=hr i hi;rw[M.out,H.out]at h;exact h
   have G:Hid (p.size=33):=by rw[<-H.out,F.out i];exact bX _
   have hx:Hid (n<N):=by rw[<-M.out];exact y.2.2.1 i hi
   obtain⟨E,Z⟩:∃E,Hid (wr.alloc (.cells zT.toArray 100)=E):=⟨_,rfl⟩
   obtain⟨s,hh⟩:∃s,Hid (E.setCells wr.heap.size 0 (wn n++aA p)=s):=⟨_,rfl⟩
   have f:(wn n++aA p).length=37:=by rw[TT,aK G.out];rfl
   have F1:Hid (Row E wr.heap.size zT/\Below wr.heap.size wr E/\E.heap.size=wr.heap.size+1):=by rw[<-Z.out];exact⟨aE wr _ _,aD wr _,TQ _ _⟩
   have B:Hid (Row s wr.heap.size (wn n++aA p)/\Below wr.heap.size wr s):=by rw[<-hh.out];exact⟨F1.1.put (by rw[f];rfl),RG.below_setCells (TG _) _ _ _ F1.2.1⟩
   have ht:Hid ((prog.info? 100).map (·.size)=some (wn n++aA p).length):=by show _=_;rw[f];exact iT
   have h5:Hid ((prog.info? 100).map (·.size)=some (wn n++aA p).toArray.size/\E.there wr.heap.size 0 (wn n++aA p).toArray.size):=by
    have e:(wn n++aA p).toArray.size=37:=by rw[UH];exact f
    rw[e];exact⟨iT,F1.1.2.2⟩
   have hs:Hid ((wn n++aA p).toArray.all (·.oneCell')=true):=by
    show _=_;rw[Vu];intro u c;exact cells_one n p u (WU.1 c)
   have k1:=atT g 0 k cap i hi;obtain⟨vt,t⟩:∃v,Hid (Um (wn n++aA p).toArray=v):=⟨_,rfl⟩
   have G2:Gr 0 (.slice none 0 0) wr s:=Gr.of B.2;have HB:Hid (∀b,PBs w u3 u4 wr.heap.size n s.heap.size w.heap.size p ((US i).map λj=>bx (ns j)) ((US i).map r) (some (aZ g)) k ns r b s.drew):=λb=>by
    match b with
    | 0=>exact B.1
    | 1=>exact(l.l3.kept dC G2 dC).drew
    | 2=>exact(l.l4.kept dC G2 dC).drew
    | 3=>exact⟨(l.bl.trans (B.2.mono l.bl.size)).drew,TU l.bl.size B.2.size,TG _⟩
    | 4=>exact l.tm.kept (W':=s) G2
    | 5=>exact l.r2.below (W':=s) B.2
    | _+6=>trivial
   have H3:Hid (∀g,u3.ownBlock=some g->w.heap.size<=g/\g<s.heap.size):=λg D=>⟨(l.l3.lt g D).1,TF (l.l3.lt g D).2 B.2.size⟩
   have H4:Hid (∀g,u4.ownBlock=some g->w.heap.size<=g/\g<s.heap.size):=λg D=>⟨(l.l4.lt g D).1,TF (l.l4.lt g D).2 B.2.size⟩
   have HG:=Hid.mk' D;clear f hr G2 l B D;go_wp2_with (first|(refine UL rfl 100 _ rfl g (37*i) ?_ (wn n++aA p) d' ?_ ?_ ?_ ?_ ?_;rfl;exact B0.out;exact HD.2.1;exact HD.2.2;exact ht.out;rw[t.out])|(refine cG (v:=.pointer (some ⟨wr.heap.size,0,none⟩)) (w':=E) rfl (.alloc 100) rfl ?_ ?_;(rw[<-Z.out];kernel_rfl))|(refine Ui rfl 100 _ _ rfl wr.heap.size 0 (wn n++aA p).toArray ?_ ?_ ?_ ?_ ?_ ?_;rfl;exact t.symm;exact h5.2;exact h5.1;exact hs.out;rw[show(wn n++aA p).toArray.toList=wn n++aA p from rfl,hh.out])|fail)
   refine RG.wR (FP w u3 u4 wr.heap.size n s.heap.size w.heap.size p ((US i).map λj=>bx (ns j)) ((US i).map r) (some (aZ g)) k ns r) kR ⟨kR,RG.JK ?_,λi' j k0 hj hl J z=>Qg u3 u4 wr.heap.size n s.heap.size w.heap.size p _ _ H3.out H4.out i' j hj hl J (λh=>by rw[h.1,h.2]at z;exact absurd (show false=true from z.symm.trans kR) dC) (λh=>by rw[h.1,h.2]at z;exact absurd (show false=true from z.symm.trans kR) dC),λi' b _ J=>MX w u3 u4 wr.heap.size n s.heap.size w.heap.size p _ _ _ k ns r H3.out H4.out i' b J⟩ HB.out ?_
   ·have o:∀W:TA,Gr 0 (.slice none 0 0) W W:=λW=>Gr.of (TX _ _)
    refine⟨RG.nI 3 λa W c=>⟨a.eval (.tmp 3),W,kR,kR,o W,c.o 3 kR⟩,
     RG.nI 6 λa W c=>⟨.pointer (some ⟨wr.heap.size,0,none⟩),W,kR,by rw[show a.eval (.tmp 6)=.pointer (some ⟨wr.heap.size,0,none⟩) from c.o 6 kR];kernel_rfl,o W,rfl⟩,
     RG.Az 46 17 rfl u40 λa W c=>⟨wr.heap.size,0,wn n,c.n 1 17 kR kR kR,kD (show Row W wr.heap.size (wn n++aA p) from c.b 0 kR).2.1,i40,o W,rfl⟩,
     RG.Ft 18 λa W c=>⟨40,#[nv n],kR,by rw[show a.eval (.tmp 18)=nv n from c.n 2 18 kR kR kR];kernel_rfl,(Bd y.2.1 hx.out W).mono (by
      rintro e W' ⟨u,rfl,V,I,rfl⟩;exact⟨_,rfl,Gr.of I.bel,El.of_made I (gJ n)⟩)⟩,
     RG.nI 19 λa W c=>⟨.slice (some ⟨W.heap.size,0,none⟩) 1 1,W.alloc (.cells #[a.eval (.tmp 19)] 23),kR,by
      obtain⟨V,R,K,-⟩:=show El 32 W (a.eval (.tmp 19)) (bx n) from c.n 3 19 kR kR kR
      rw[K];kernel_rfl,Gr.of (aD W _),Bo.of (show El 32 W (a.eval (.tmp 19)) (bx n) from c.n 3 19 kR kR kR) dC (c.b 3 kR).2.2 _⟩,
     RG.JJ 16 20 24 rfl λa W c=>?_,
     RG.nI 4 λa W c=>⟨a.eval (.tmp 4),W,kR,kR,o W,c.o 4 kR⟩,
     RG.nI 6 λa W c=>⟨.pointer (some ⟨wr.heap.size,4,none⟩),W,kR,by rw[show a.eval (.tmp 6)=.pointer (some ⟨wr.heap.size,0,none⟩) from c.o 6 kR];kernel_rfl,o W,rfl⟩,
     RG.Az 55 23 rfl uCP λa W c=>⟨wr.heap.size,4,aA p,c.n 7 23 kR kR kR,lS (xs:=wn n) (show Row W wr.heap.size (wn n++aA p) from c.b 0 kR).2.1,by rw[aK G.out];exact kN,o W,rfl⟩,
     RG.Ft 24 λa W c=>⟨16,#[pvl p],kR,by rw[show a.eval (.tmp 24)=pvl p from c.n 8 24 kR kR kR];kernel_rfl,(Gx G.out W).mono (by
      rintro e W' ⟨u,rfl,I,hE⟩;exact⟨_,rfl,Gr.of I,hE⟩)⟩,
     RG.nI 25 λa W c=>⟨.slice (some ⟨W.heap.size,0,none⟩) 1 1,W.alloc (.cells #[a.eval (.tmp 25)] 23),kR,by
      obtain⟨V,R,K,-⟩:=show El 33 W (a.eval (.tmp 25)) p from c.n 9 25 kR kR kR
      rw[K];kernel_rfl,Gr.of (aD W _),Bo.of (show El 33 W (a.eval (.tmp 25)) p from c.n 9 25 kR kR kR) dC (c.b 3 kR).2.2 _⟩,
     RG.JJ 22 26 24 rfl λa W c=>?_,
     RG.nI 21 λa W c=>⟨a.eval (.tmp 21),W,kR,kR,o W,c.n 5 21 kR kR kR⟩,
     RG.nI 27 λa W c=>⟨a.eval (.tmp 27),W,kR,kR,o W,c.n 11 27 kR kR kR⟩,yB5⟩
    ·obtain⟨V,x,K,h1,h2,I,R⟩:=show Bo 32 s.heap.size W (a.eval (.tmp 20)) (bx n) from c.n 4 20 kR kR kR
     obtain⟨v',W',r1,r2,r3⟩:=Lo.app (show Lo 32 w.heap.size W u3 _ from c.b 1 kR) dC R I (by rw[Uk,WP];omega) (c.b 3 kR).2.1;refine⟨v',W',?_,r3,r2⟩;rw[K,show a.eval (.tmp 16)=u3 from c.n 0 16 kR kR kR];exact r1
    ·obtain⟨V,x,K,h1,h2,I,R⟩:=show Bo 33 s.heap.size W (a.eval (.tmp 26)) p from c.n 10 26 kR kR kR
     obtain⟨v',W',r1,r2,r3⟩:=Lo.app (show Lo 33 w.heap.size W u4 _ from c.b 2 kR) dC R I (by rw[Uk,WP];omega) (c.b 3 kR).2.1;refine⟨v',W',?_,r3,r2⟩;rw[K,show a.eval (.tmp 22)=u4 from c.n 6 22 kR kR kR];exact r1
   ·intro V w5 o c;have K:Hid (Pz w w5 (some (aZ g)) k (i+1) ns r (V 12) (V 13)):=by
     have h1:=o 12 (V8 (Va kR)) rfl;have h2:=o 13 (V8 (Va kR)) rfl;refine⟨(c 3 rfl).1,?_,?_,c 4 rfl,c 5 rfl⟩
     ·rw[Ya,Ye];show Lo 32 w.heap.size w5 (V 12) (_++[bx (ns i)]);rw[M.out];exact h1
     ·rw[Ya,Ye];show Lo 33 w.heap.size w5 (V 13) (_++[r i]);rw[H.out];exact h2
    clear o c HB H3 H4;dsimp only[RG.bW,UJ];generalize V 12=s3 at K⊢;generalize V 13=s4 at K⊢;go_wp2;go_roundg (gk-1)
    case measure=>omega
    case rel=>exact⟨i+1,oM,rfl,K⟩
  ·have hw:¬(i:Int)<(k:Int):=oM;obtain rfl:i=k:=oM;obtain⟨q3,c3,rfl,I⟩:=l.l3.args;obtain⟨V,c4,rfl,R⟩:=l.l4.args;rw[Uk,WP]at I R;have HA:Hid (AQ wr q3 i (λj=>bx (ns j))):=λJ=>by
    obtain⟨g,c,o,e3⟩:=I J;refine⟨g,c,o,λj hj=>?_⟩;obtain⟨x,z,s⟩:=e3 j (bx (ns j)) (by rw[UX,Za hj];rfl);exact⟨x,z,s.arg⟩
   have Z:Hid (ArgsPts wr V i r):=λJ=>by
    obtain⟨g,c,o,e3⟩:=R J;refine⟨g,c,o,λj hj=>?_⟩;obtain⟨x,z,s⟩:=e3 j (r j) (by rw[UX,Za hj];rfl);exact⟨x,z,s.arg33⟩
   rw[Uk,WP,Uk,WP];have E:Hid (Below w.heap.size w wr/\Row wr w.heap.size z33):=⟨l.bl,l.r2⟩
   clear I R l;go_wp2_with fail
   refine(PK y.1 y.2.1.gap y.2.1.le q3 V i c3 i c4 (λj=>bx (ns j)) r wr HA.out Z.out).mono ?_;rintro e s ⟨vv,rfl,c,M⟩;obtain⟨H,cs,rfl,-,-,h6,K⟩:=SumR.all y.1 y.2.1 oM y.2.2.1 y.2.2.2 (λ_ _=>rfl) (λj _=>F.out j) M;obtain⟨T,Y⟩:∃T,Hid (Go.Proofs.YtjnchldodncnbaaGreat.wr (EC.tot X i (λj=>(ns j:Int)))=T):=⟨_,rfl⟩
   have G:T.size=33:=by rw[<-Y.out];exact bX _
   rw[Y.out]at K;have D:Hid (Row s w.heap.size z33/\Below w.heap.size w s/\Row s H (aA T)):=⟨E.2.below c,E.1.trans (c.mono E.1.size),Im K h6⟩
   clear c M h6 K E HA Z;have hy:=ND H cs;obtain⟨B,o⟩:∃B,Hid (s.setCells w.heap.size 0 (aA T)=B):=⟨_,rfl⟩
   have f:(aA T).length=33:=aK G;have K7:Hid (Row B w.heap.size (aA T)/\Below w.heap.size w B):=by rw[<-o.out];exact⟨D.1.put (by rw[f];rfl),RG.below_setCells (TG _) _ _ _ D.2.1⟩
   obtain⟨vt,t⟩:∃vt,Hid (Um (aA T).toArray=vt):=⟨_,rfl⟩
   have z:Hid ((prog.info? 55).map (·.size)=some (aA T).length/\s.there w.heap.size 0 (aA T).toArray.size/\(prog.info? 55).map (·.size)=some (aA T).toArray.size):=by
    have e:(aA T).toArray.size=33:=by rw[UH];exact f
    refine⟨by rw[f];exact kN,by rw[e];exact D.1.2.2,by rw[e];exact kN⟩
   clear f;go_wp2_with (first|(refine UL rfl 55 _ rfl H 0 ?_ (aA T) d ?_ ?_ ?_ ?_ ?_;rfl;exact D.2.2.2.1;exact HD.1.1;exact HD.1.2;exact z.1;rw[t.out])|(refine Ui rfl 55 _ _ rfl w.heap.size 0 (aA T).toArray ?_ ?_ ?_ ?_ ?_ ?_;rfl;exact t.symm;exact z.2.1;exact z.2.2;exact nM T;rw[show(aA T).toArray.toList=aA T from rfl,o.out]))
   refine TM (aL 2 55 rfl K7.1 rfl uCP z.1) rfl ?_;exact⟨_,rfl,K7.2,by rw[Y.out];rfl⟩
end
namespace EC
variable {P:Nat}[NeZero P]
def pts(P:Nat)[NeZero P]:List (Pt P):=
 none :: (yBo P).flatMap λx=>((yBo P).filter λy=>decide (y^2=x^3+7)).map λy=>some (x,y)
theorem lZ(a:Pt P):a∈pts P↔On a:=by
 unfold pts;rcases a with _|⟨x,y⟩
 ·exact⟨λ_=>trivial,λ_=>Uz⟩
 ·rw[U0,Zq];constructor
  ·rintro(h|⟨u,-,h⟩)
   ·cases h
   ·obtain⟨v,hv,e⟩:=UM.1 h;cases e
    have k:=(YL.1 hv).2;exact(decide_eq_true_iff (p:=y^2=x^3+7)).1 k
  ·intro h;have h:=h;exact T8 ⟨x,yAF x,UM.2 ⟨y,YL.2 ⟨yAF y,decide_eq_true h⟩,rfl⟩⟩
theorem yU:(pts P).Nodup:=by
 unfold pts;refine Wy.2 ⟨λh=>?_,?_⟩
 ·obtain⟨u,-,h⟩:=Zq.1 h;obtain⟨v,-,e⟩:=UM.1 h;cases e
 ·refine List.pairwise_flatMap.2 ⟨λx _=>yAD.2 ?_,?_⟩
  ·refine ZJ ?_ ((YY P).sublist yAo);intro a b h e;exact h (by cases e;rfl)
  ·refine ZJ ?_ (YY P);intro a b h u k v hv e;obtain⟨c,-,rfl⟩:=UM.1 k;obtain⟨d,-,rfl⟩:=UM.1 hv;exact h (by cases e;rfl)
theorem La{u v c:Fin P}(k:u^2=c)(hv:v^2=c):(u-v)*(u+v)=0:=by grobner
theorem L8{a b d:Fin P}(k:a+b=0)(c:a+d=0):b=d:=by grobner
theorem Ge(C:Cur P){c:Fin P}:∀l:List (Fin P),l.Nodup->(∀y,y∈l->y^2=c)->l.length<=2
 | [],_,_=>VH _
 | [_],_,_=>Nat.le_succ _
 | [_,_],_,_=>TG _
 | a :: b :: d :: l,k,h=>by
  exfalso;have g:=h a (by simp);have o:=h b (by simp);have hd:=h d (by simp);have p:a≠b:=λe=>(Wy.1 k).1 (by rw[e];simp)
  have i:a≠d:=λe=>(Wy.1 k).1 (by rw[e];simp)
  have m:b≠d:=λe=>(Wy.1 (Wy.1 k).2).1 (by rw[e];simp)
  have f:∀u v:Fin P,u^2=c->v^2=c->u≠v->u+v=0:=λu v n hv k=>by
   exact U5 λj=>bD C.pr (mL k) j (La n hv)
  have j:=f a b g o p;have q:=f a d g hd i;exact m (L8 j q)
theorem Cb{α β:Type}(f:α->List β)(k:Nat)(h:∀a,(f a).length<=k):∀l:List α,(l.flatMap f).length<=k*l.length
 | []=>VH _
 | a :: l=>by
  rw[Zg,TT,Uy,XV,Nat.add_comm];exact Nat.add_le_add (Cb f k h l) (h a)
theorem Mj(C:Cur P):(pts P).length<=2*P+1:=by
 unfold pts;rw[Uy];refine Nat.succ_le_succ (TU (Cb _ 2 (λx=>?_) _) (by rw[List.length_finRange];exact TG _));rw[Uk];exact Ge C (c:=x^3+7) _ ((YY P).sublist yAo) λy k=>of_decide_eq_true (YL.1 k).2
theorem LJ:0<(pts P).length:=Nat.succ_pos _
def tZ:List (Pt P)->Pt P
 | []=>none
 | a :: l=>add a (tZ l)
theorem uG(C:Cur P):∀l:List (Pt P),(∀a,a∈l->On a)->On (tZ l)
 | [],_=>iY
 | a :: l,h=>C.on (h a Uz) (uG C l λb k=>h b (Uq _ k))
theorem GI(C:Cur P){l m:List (Pt P)}(p:l.Perm m):(∀a,a∈l->On a)->tZ l=tZ m:=by
 induction p with
 | nil=>intro _;rfl
 | cons x _ ih =>
  intro h;show add x _=add x _;rw[ih λb k=>h b (Uq _ k)]
 | swap x y l =>
  intro h;have c:=h y Uz;have d:=h x (Uq _ Uz);have e:=uG C l λb k=>h b (Uq _ (Uq _ k))
  show add y (add x (tZ l))=add x (add y (tZ l));rw[<-C.assoc c d e,C.comm c d,C.assoc d c e]
 | trans p _ ih1 ih2 =>
  intro h;rw[ih1 h,ih2 λa k=>h a (p.mem_iff.2 k)]
theorem wJ(C:Cur P){r:Pt P}(k:On r):∀l:List (Pt P),(∀a,a∈l->On a)->tZ (l.map λa=>add a r)=add (tZ l) (mul l.length r)
 | [],_=>rfl
 | a :: l,h=>by
  have e:=h a Uz;have c:∀b,b∈l->On b:=λb d=>h b (Uq _ d)
  show add (add a r) (tZ (l.map _))=add (add a (tZ l)) (add (mul l.length r) r);rw[wJ C k l c,C.comm (cU C k _) k,C.swap e k (uG C l c) (cU C k _)]
theorem xP(C:Cur P){a b r:Pt P}(d:On a)(c:On b)(k:On r)(e:add a r=add b r):a=b:=by
 have:add (add a r) (neg r)=add (add b r) (neg r):=by rw[e]
 rwa[C.assoc d k (cO k),C.assoc c k (cO k),add_neg,bF,bF]at this
theorem vC(C:Cur P){r:Pt P}(k:On r):((pts P).map λa=>add a r).Perm (pts P):=by
 refine(List.perm_ext_iff_of_nodup ?_ yU).2 λa=>?_
 ·refine yAD.2 (List.Pairwise.imp_of_mem ?_ (yU (P:=P)));intro a b c d h e;exact h (xP C ((lZ a).1 c) ((lZ b).1 d) k e)
 ·rw[lZ,UM];constructor
  ·rintro⟨b,d,rfl⟩;exact C.on ((lZ b).1 d) k
  ·intro c;refine⟨add a (neg r),(lZ _).2 (C.on c (cO k)),?_⟩;rw[C.assoc c (cO k) k,C.neg_l k,bF]
theorem EV(C:Cur P){r:Pt P}(k:On r):mul (pts P).length r=none:=by
 have c:∀a,a∈pts P->On a:=λa b=>(lZ a).1 b
 have d:=wJ C k (pts P) c;rw[GI C (vC C k) λa b=>(lZ a).1 ((vC C k).mem_iff.1 b)]at d;have e:=uG C (pts P) c;have f:=cU C k (pts P).length;have g:add (mul (pts P).length r) (tZ (pts P))=add none (tZ (pts P)):=by
  rw[C.comm f e,<-d,lD]
 exact xP C f iY e g
theorem lY(C:Cur P){a:Pt P}(k:On a)(m:Nat):∀n,mul (m*n) a=mul n (mul m a)
 | 0=>rfl
 | n+1=>by
  rw[XV,mul_add C k,lY C k m n];rfl
theorem m8:∀n,mul n (none:Pt P)=none
 | 0=>rfl
 | n+1=>by
  show add (mul n none) none=none;rw[m8 n];rfl
theorem CB(C:Cur P){a:Pt P}(k:On a)(e:add a a=none):a=none:=by
 rcases a with _|⟨x,y⟩
 ·rfl
 ·exfalso;have ho:=C.opp_ne k;rw[bV C.pr C.two k k ho (bH C.pr C.two k k ho)]at e;cases e
theorem IQ(C:Cur P){n:Nat}(f:NT.IsP n)(p:2*P+1<3*n){g:Pt P}(b:On g)(m:g≠none)(l:mul n g=none){r:Pt P}(e:On r):mul n r=none:=by
 have hd:n ∣ (pts P).length:=U5 λhd=>by
  have i:=f.fermat1 _ hd;have d:mul ((pts P).length^(n-1)) g=none:=by
   have:n-1=(n-2)+1:=by have:=f.1;omega
   rw[this,Vk,Ut,lY C b,EV C b,m8]
  have k:=YT ((pts P).length^(n-1)) n;rw[i]at k;rw[<-k,mul_add C b,lY C b,l,m8,lD]at d;exact m d
 obtain⟨c,i⟩:=hd;have o:=Mj C;have j:=LJ (P:=P);have k:=EV C e;rw[i]at o j k;have d:c<3:=Nat.lt_of_mul_lt_mul_left (a:=n) oM;match c,d with
 | 0,_=>omega
 | 1,_=>rwa[Nat.mul_one]at k
 | 2,_ =>
  rw[lY C e]at k;exact CB C (cU C e n) k
end EC
section
open Go.RowKit Go.Sort Go.Deep
variable {P:Nat}[NeZero P]{N:Nat}
def gR(P:Nat)[NeZero P](b:Bs):EC.Pt P:=match rd P b with|some p=>pt p|none=>none
theorem nT(C:Fld P){X:EC.Pt P}(h:EC.On X):gR P (wr X)=X:=by
 obtain⟨p,b,k⟩:=Nl C h;unfold gR;rw[b];exact k
def fU(P:Nat)[NeZero P]:List (Nat × Bs)->EC.Pt P
 | []=>none
 | x :: r=>EC.add (EC.mul x.1 (gR P x.2)) (fU P r)
def PtsL(P:Nat)[NeZero P](l:List (Nat × Bs)):Prop:=∀x∈l,∃X:EC.Pt P,EC.On X/\x.2=wr X
theorem PtsL.on(C:Fld P){l:List (Nat × Bs)}(h:PtsL P l){x:Nat × Bs}(c:x∈l):EC.On (gR P x.2):=by
 obtain⟨X,k,b⟩:=h x c;rw[b,nT C k];exact k
theorem nV(C:Fld P):∀ {l:List (Nat × Bs)},PtsL P l->EC.On (fU P l)
 | [],_=>EC.iY
 | x :: r,h=>C.cur.on (EC.cU C.cur (h.on C Uz) _) (nV C λy k=>h y (Uq _ k))
theorem yI(C:Fld P)(y:Nat × Bs)(b:EC.On (gR P y.2)):∀ {l:List (Nat × Bs)},PtsL P l->fU P (l++[y])=EC.add (fU P l) (EC.mul y.1 (gR P y.2))
 | [],_=>EC.bF _
 | x :: r,h=>by
  have k:PtsL P r:=λz c=>h z (Uq _ c)
  show EC.add (EC.mul x.1 (gR P x.2)) (fU P (r++[y]))=_;rw[yI C y b k];exact(C.cur.assoc (EC.cU C.cur (h.on C Uz) _) (nV C k) (EC.cU C.cur b _)).symm
theorem zV:∀l:List (Nat × Bs),fU P (LF l)=fU P l
 | []=>rfl
 | x :: r=>by
  unfold LF;rw[List.filter_cons];by_cases h:x.1=0
  ·rw[yB4 (by simp[h])];show fU P (LF r)=EC.add (EC.mul x.1 (gR P x.2)) (fU P r);rw[h,zV r];rfl
  ·rw[yB3 (by simp[h])];show EC.add _ (fU P (LF r))=EC.add _ (fU P r);rw[zV r]
theorem mul_mod(C:Fld P)(k:∀r:EC.Pt P,EC.On r->EC.mul N r=none){X:EC.Pt P}(b:EC.On X)(n:Nat):EC.mul (n%N) X=EC.mul n X:=by
 have h:=EC.mul_add C.cur b (N*(n/N)) (n%N);rw[YT,EC.lY C.cur b N (n/N),k X b,EC.m8,EC.lD]at h;exact h.symm
theorem yJ(C:Fld P)(k:∀r:EC.Pt P,EC.On r->EC.mul N r=none)(n:Nat)(p:Bs)(d:EC.On (gR P p)):∀ {l:List (Nat × Bs)},PtsL P l->fU P (fH N l n p)=EC.add (fU P l) (EC.mul n (gR P p))
 | [],_=>EC.bF _
 | (s,q) :: r,h=>by
  have g:PtsL P r:=λz j=>h z (Uq _ j)
  have i:=h.on C (x:=(s,q)) Uz;have f:=EC.cU C.cur i s;have b:=nV C g;have c:=EC.cU C.cur d n;unfold fH;by_cases e:p=q
  ·rw[yB3 e];subst e;show EC.add (EC.mul (sPl N s n) (gR P p)) (fU P r)=EC.add (EC.add (EC.mul s (gR P p)) (fU P r)) (EC.mul n (gR P p));unfold sPl;rw[mul_mod C k d,EC.mul_add C.cur d,C.cur.assoc f c b,C.cur.assoc f b c,C.cur.comm c b]
  ·rw[yB4 e];show EC.add (EC.mul s (gR P q)) (fU P (fH N r n p))=EC.add (EC.add (EC.mul s (gR P q)) (fU P r)) (EC.mul n (gR P p));rw[yJ C k n p d g,C.cur.assoc f b c]
theorem FM{n:Nat}{p:Bs}(c:∃X:EC.Pt P,EC.On X/\p=wr X):∀ {l:List (Nat × Bs)},PtsL P l->PtsL P (fH N l n p)
 | [],_=>λx k=>by
  have:x=(n,p):=by simpa[fH]using k
  rw[this];exact c
 | (s,q) :: r,h=>by
  have b:PtsL P r:=λz d=>h z (Uq _ d)
  unfold fH;split
  ·intro x k;rcases U0.1 k with rfl|k
   ·exact h (s,q) Uz
   ·exact b x k
  ·intro x k;rcases U0.1 k with rfl|k
   ·exact h (s,q) Uz
   ·exact FM c b x k
theorem Ai(ns:Nat->Nat)(X:Nat->EC.Pt P){k:Nat}(b:∀j,j<k->EC.On (X j)):∀i,i<=k->PtsL P (mrg N ns (λj=>wr (X j)) i)
 | 0,_=>λx c=>by cases c
 | i+1,hi=>FM ⟨X i,b i oM,rfl⟩ (Ai ns X b i oM)
theorem EW(C:Fld P)(b:∀r:EC.Pt P,EC.On r->EC.mul N r=none)(ns:Nat->Nat)(X:Nat->EC.Pt P){k:Nat}(d:∀j,j<k->EC.On (X j)):∀i,i<=k->fU P (mrg N ns (λj=>wr (X j)) i)=EC.tot X i (λj=>(ns j:Int))
 | 0,_=>rfl
 | i+1,hi=>by
  have c:=d i oM;show fU P (fH N (mrg N ns (λj=>wr (X j)) i) (ns i) (wr (X i)))=EC.add (EC.tot X i (λj=>(ns j:Int))) (EC.mul (ns i) (X i));rw[yJ C b _ _ (by rw[nT C c];exact c) (Ai ns X d i oM),EW C b ns X d i oM,nT C c]
theorem uV(C:Fld P)(l:List (Nat × Bs))(h:PtsL P l):∀i,i<=l.length->EC.tot (λj=>gR P ((l[j]?).getD (0,#[])).2) i (λj=>(((l[j]?).getD (0,#[])).1:Int))=fU P (l.take i)
 | 0,_=>by rw[List.take_zero];rfl
 | i+1,hi=>by
  have k:i<l.length:=oM;show EC.add (EC.tot _ i _) (EC.mul ((l[i]?).getD (0,#[])).1 (gR P ((l[i]?).getD (0,#[])).2))=_;rw[uV C l h i oM,yAC,TZ k];exact(yI C (l[i]) (h.on C (UK k)) λx b=>h x (yAg b)).symm
theorem CN(C:Fld P)(O:Ord N)(p:∀r:EC.Pt P,EC.On r->EC.mul N r=none)(g k c:Nat)(M:0<k)(U:k<=512)(ns:Nat->Nat)(X:Nat->EC.Pt P)(G:∀j,j<k->ns j<N)(D:∀j,j<k->EC.On (X j))(w:TA)(H:g<w.heap.size)(R:∀j,j<k->w.rangeAt g (37*j) (wn (ns j)++aA (wr (X j)))):
 TW prog 15 #[.slice (some (aZ g)) k c] w (rZ w λe w'=>e=pvl (wr (EC.tot X k (λj=>(ns j:Int))))):=by
 have F:=Ai (N:=N) ns X D k (TG _);have m:=Dw O ns (λj=>wr (X j)) G k (TG _);have o:=wE (N:=N) ns (λj=>wr (X j)) (k:=k) (λj _=>bX _) k (TG _);have a:=Aj (N:=N) ns (λj=>wr (X j)) k;have i:=EW C p ns X D k (TG _);have f:0<(mrg N ns (λj=>wr (X j)) k).length:=by
  obtain⟨b,rfl⟩:∃b,k=b+1:=⟨k-1,oM⟩
  show 0<(fH N _ _ _).length;cases mrg N ns (λj=>wr (X j)) b with
  | nil=>exact Xs 0
  | cons x r=>unfold fH;split<;>simp
 have l:=λW (s:Below w.heap.size w W)=>I4 O (λe w'=>Below W.heap.size W w'/\∃q cap,e=.slice q (LF (mrg N ns (λj=>wr (X j)) k)).length cap/\TmL w' q (LF (mrg N ns (λj=>wr (X j)) k))) g k c oM ns (λj=>wr (X j)) (λj _=>bX _) G W (TF H s.size) (λj b=>RG.range_below (R j b) s H) (λW' v n=>by
  refine(JD _ f oM o (λx z=>TF (m x z) O.le) W.heap.size v W' n.bl.size n.ow).mono ?_;rintro e w' ⟨u,rfl,d,B⟩;exact⟨_,rfl,n.bl.trans d,B⟩)
 generalize mrg N ns (λj=>wr (X j)) k=L at F m o a i f l;have t:PtsL P (LF L):=λx z=>F x (AO z)
 have K:(LF L).length<=L.length:=yAe _ _;refine(CM C O _ w (LF L).length oM (λj=>(((LF L)[j]?).getD (0,#[])).1) (λj=>gR P (((LF L)[j]?).getD (0,#[])).2) (λj b=>by rw[TZ b];exact m _ (AO (UK b))) (λj b=>by rw[TZ b];exact t.on C (UK b)) λW s=>?_).mono ?_
 ·refine(l W s).mono ?_;rintro e w' ⟨u,rfl,d,q,cap,rfl,B⟩;refine⟨_,rfl,d,q,cap,rfl,λQ=>?_⟩;obtain⟨y,I,T,e3⟩:=B Q;refine⟨y,I,T,λj b=>?_⟩;have J:=e3 j b;obtain⟨Y,S,E⟩:=t _ (UK b);show w'.rangeAt y (37*j) (wn (((LF L)[j]?).getD (0,#[])).1++aA (wr (gR P (((LF L)[j]?).getD (0,#[])).2)));rw[TZ b];show w'.rangeAt y (37*j) (wn ((LF L)[j]).1++aA (wr (gR P ((LF L)[j]).2)));rw[E,nT C S,<-E];exact J
 ·rintro e w' ⟨u,rfl,d,rfl⟩;refine⟨_,rfl,d,?_⟩;rw[uV C (LF L) t _ (TG _),Zp,zV,i]
theorem Sr:prog.underlying 3=some (.int .i64):=kR
end
section
open Go.RowKit Go.Sort Go.Deep Go.Shelf
attribute [local go_sem] ZL
variable {P:Nat}[NeZero P]
theorem Ap{w w':TA}(h:Below w.heap.size w w')(row:Option Nat):w.grownBy w' row:=⟨h.os,h.tape,h.output,h.size,λk b _=>h.block k b⟩
theorem Ja{w:TA}{g o:Nat}{k:Bs}(h:Holds encB w g o k)(b:0<k.size):g<w.heap.size:=by
 obtain⟨c,ho,-⟩:=cells_of_cell (h 0 b).1;exact(Uh.1 ho).1
noncomputable def cand (P:Nat) [NeZero P] (k:ByteArray) (b:List UInt8) (i:Nat):Option (Fin P × Fin P):=
 if beV (SP.jU ((⟨#[112,111,105,110,116,32]⟩:ByteArray)++k).data.toList [b,[TV i]]).toList<P then
  (rt (Vy P (beV (SP.jU ((⟨#[112,111,105,110,116,32]⟩:ByteArray)++k).data.toList [b,[TV i]]).toList)*Vy P (beV (SP.jU ((⟨#[112,111,105,110,116,32]⟩:ByteArray)++k).data.toList [b,[TV i]]).toList)*Vy P (beV (SP.jU ((⟨#[112,111,105,110,116,32]⟩:ByteArray)++k).data.toList [b,[TV i]]).toList)+7)).map λy=>(Vy P (beV (SP.jU ((⟨#[112,111,105,110,116,32]⟩:ByteArray)++k).data.toList [b,[TV i]]).toList),y)
 else none
noncomputable def cands (P:Nat) [NeZero P] (k:ByteArray) (b:List UInt8) (i:Nat):List (Fin P × Fin P):=(US i).filterMap (cand P k b)
theorem fG(k:ByteArray)(b:List UInt8)(i:Nat):cands P k b (i+1)=cands P k b i++(cand P k b i).toList:=by
 unfold cands;rw[Ya,List.filterMap_append];cases h:cand P k b i<;>simp[h]
theorem zB(k:ByteArray)(b:List UInt8){i j:Nat}(h:i<=j):cands P k b i <+: cands P k b j:=by
 induction j with
 | zero=>rw[Nat.le_zero.1 h];exact yA4
 | succ j ih =>
  rcases Vo i (j+1)with c|c
  ·rw[fG];exact(ih oM).trans (List.prefix_append _ _)
  ·rw[show i=j+1 by omega];exact yA4
theorem GZ(k:ByteArray)(b:List UInt8)(i:Nat):(cands P k b i).length<=i:=by
 unfold cands;exact TU (List.length_filterMap_le _ _) (by rw[WP];exact TG _)
end
section
open Go.RowKit Go.Sort Go.Deep Go.Shelf
attribute [local go_sem] ZL
section
variable {F:Fence}{n:Nat}{P:Vd}{ops:Array UI}{rest:List UI}{op:UI}{a:Act}{w:TA}{Q:YJ->Act->TA->Prop}
theorem oP(g:WI op (yielded ops a.tmps)=true)(k:Uw)(x:Yj)(ho:op.op=.load k x)(b o:Nat)(m:a.eval x=.pointer (some ⟨b,o,none⟩))(cs:List TC)(d:TypeDesc)(i:w.rangeAt b o cs)
 (j:P.underlying k=some d) (hd:d.isRow=true) (l:(P.info? k).map (·.size)=some cs.length) (h:wpListIn F n P ops Q rest (a.put op.dst (.agg cs.toArray)) w):wpListIn F n P ops Q (op :: rest) a w:=
 wpListIn_step λK p=>by
  rw[g,yB3 rfl];refine⟨λf hf=>(by unfold Oper.about at hf;rw[ho]at hf;cases hf),?_⟩;rw[Oper.semAt_eq _ _ _ (λc=>by rw[ho];intro e;cases e)];unfold UD;simp only[ho,m,Instr.loadAt,Instr.sureAddr,Ue,VA,UE,run_loadVar_mid w b o k cs d i j hd l];exact p _ _ h
end
variable {P:Nat}[NeZero P]
theorem Hid.mk{p:Prop}(h:p):Hid p:=h
theorem Pl(C:Fld P)(c:ByteArray)(vb:TC)(b:List UInt8)(k1 k2:Nat)(w:TA)(ke:c.size<=1000000)(h1:w.cell? ⟨k1,0,none⟩=some (.string c))(h2:w.cell? ⟨k2,0,none⟩=some vb)(l1:k1<w.heap.size)(l2:k2<w.heap.size)(hb:SP.PartOk w vb b)(n:Nat):
 SeqStopsK Fence.wide n prog 138 #[pZ k1,pZ k2] (λx:Fin P × Fin P=>#[pv x.1 x.2]) (Below w.heap.size) (λxs=>xs=cands P c b 256) (λk=>k <+: cands P c b 256) 256 w:=by
 have HP:=hb;obtain⟨a0,sb,so,cap,bs,rfl,-,-,-,-⟩:=hb;intro l J Jx W hW hJ kh hY h0;refine callsIn_of_wp func138 rfl trivial ?_ rfl;simp only[ntmps138,UH,Uy,List.length_nil,UJ,Nat.reduceSub,Array.replicate_succ,Array.replicate_zero,List.push_toArray,List.append_toArray,List.nil_append,YG]
 gi_wp2
 gi_loopw [10] (λp wr=>∃i:Nat,i<=256/\p=iZ i/\J (cands P c b i) wr/\Below w.heap.size w wr/\W.heap.size<=wr.heap.size) (λp wr=>256-(intOf p).toNat)
 case atStart =>
  exact⟨0,dC,rfl,h0,hW,TG _⟩
 case round =>
  obtain⟨i,hi,rfl,S,V,hn⟩:=hrel;have k9:=V;by_cases he:i=256
  ·subst he
   gi_wp2
   go_end0
   exact⟨⟨_,rfl⟩,.inl ⟨_,rfl,S⟩⟩
  ·have ka:(i:Int)<256:=oM;have c1:wr.cell? ⟨k1,0,none⟩=some (.string c):=(Ua (V.block k1 l1)).trans h1;have c2:wr.cell? ⟨k2,0,none⟩=some (.slice a0 bs.size cap):=(Ua (V.block k2 l2)).trans h2;have hl:=RG.Made.alloc wr [.int .u8 i] 5;have hm:=RG.Made.alloc (wr.alloc (.cells #[.int .u8 i] 5)) [.slice a0 bs.size cap,.slice (some ⟨wr.heap.size,0,none⟩) 1 1] 23;rw[TQ]at hm;have kb:ub (TV i)=(i:Int):=by
    show(((TV i).toNat:Nat):Int)=_;rw[UInt8.toNat_ofNat',Uf oM]
   obtain⟨W1,Q⟩:∃W1,W1=(wr.alloc (.cells #[.int .u8 i] 5)).alloc (.cells #[.slice a0 bs.size cap,.slice (some ⟨wr.heap.size,0,none⟩) 1 1] 23):=⟨_,rfl⟩
   have M:Below wr.heap.size wr W1:=by rw[Q];exact((TX _ wr).alloc (TG _) _).alloc (by rw[TQ];omega) _
   have hP:SP.PartsOk W1 (some ⟨wr.heap.size+1,0,none⟩) [b,[TV i]]:=by
    have k:W1.rangeAt (wr.heap.size+1) 0 [.slice a0 bs.size cap,.slice (some ⟨wr.heap.size,0,none⟩) 1 1]:=by rw[Q];exact hm.range
    refine T8 ⟨_,_,rfl,λj o=>?_⟩;have f:j=0\/j=1:=by simp at o;omega
    rcases f with rfl|rfl
    ·exact⟨_,k 0 _ rfl,(HP.below k9).below M⟩
    ·refine⟨_,k 1 _ rfl,some ⟨wr.heap.size,0,none⟩,wr.heap.size,0,1,#[TV i],rfl,rfl,TG _,Va rfl,T8 ⟨rfl,?_⟩⟩;have g:=hl.range;have s:wr.heap.size<(wr.alloc (.cells #[.int .u8 i] 5)).heap.size:=by rw[TQ];omega
     intro j o;have m:j=0:=by simp at o;omega
     subst m;have q:W1.heap[wr.heap.size]? = (wr.alloc (.cells #[.int .u8 i] 5)).heap[wr.heap.size]?:=by rw[Q];exact yAI _ _ _ s
     refine⟨?_,?_⟩
     ·rw[Ua (a:=⟨wr.heap.size,0+0,none⟩) q];show _=some (Value.int .u8 (ub (TV i)));rw[kb];exact g 0 _ rfl
     ·rw[UY (a:=⟨wr.heap.size,0+0,none⟩) q];exact(hl.there 0 (TG _)).2
   have h7:=SP.AM ((⟨#[112,111,105,110,116,32]⟩:ByteArray)++c) (some ⟨wr.heap.size+1,0,none⟩) 2 [b,[TV i]] W1 (by rw[yBU];show 6+c.size<=_;omega) (Va rfl) hP
   gi_wp2_with fail
   rw[<-Q];refine⟨trivial,λh=>(by cases h),(callsIn_wide.2 h7).mono ?_⟩;rintro e w2 ⟨r,rfl,kc,hr,Z⟩;clear h7 hP c1 c2 hl hm ka;obtain⟨T,Y⟩:∃T,Hid (SP.jU ((⟨#[112,111,105,110,116,32]⟩:ByteArray)++c).data.toList [b,[TV i]]=T):=⟨_,rfl⟩
   rw[Y.out]at Z
   gi_wp2_with fail
   refine⟨trivial,λh=>(by cases h),(callsIn_wide.2 (bL _)).mono ?_⟩;rintro e w3 ⟨v,rfl,R,rfl⟩;have hk:r<w2.heap.size:=Ja Z (by rw[<-Y.out,SP.eO];decide);have hh:T.size=32:=by rw[<-Y.out];exact SP.eO _ _
   have ha:Holds encB w3 r 0 T:=Holds.below Z R hk;have K:r<w3.heap.size:=TF hk R.size;have B:Below wr.heap.size wr w3:=(M.trans (hr.mono M.size)).trans (R.mono (TU M.size hr.size));by_cases O:beV T.toList<P
   ·obtain⟨x,U⟩:∃x:Fin P,Hid (beV T.toList=x.val):=⟨Vy P (beV T.toList),(Uf O).symm⟩
    have X:Hid (Vy P (beV T.toList)=x):=Yx (by show beV T.toList%P=_;rw[Uf O];exact U.out);have O:Hid (beV T.toList<P):=O
    gi_wp2_with fail
    refine⟨trivial,λh=>(by cases h),(callsIn_wide.2 (Kc C hh (TG _) U.out K ha)).mono ?_⟩;rintro e t ⟨v,rfl,L,rfl⟩;have A:=(RG.Made.alloc t [uZ 0,uZ 0,uZ 0,uZ 0] 44).there;have g:=B.trans (L.mono B.size);have k4:=Vq _ _ 0 (ws x) A;obtain⟨d,ht,k3⟩:=TJ.1 u85;clear A k4 hh ha hk K R L Z kc hr M;obtain⟨w5,hg⟩:∃w5,Hid ((t.alloc (.cells #[uZ 0,uZ 0,uZ 0,uZ 0] 44)).setCells t.heap.size 0 (ws x)=w5):=⟨_,rfl⟩
    have o:Hid (Below wr.heap.size wr w5):=by rw[<-hg.out];exact RG.below_setCells g.size _ _ _ (g.alloc g.size _)
    have h3:w5.rangeAt t.heap.size 0 (ws x):=by rw[<-hg.out];exact Vq _ _ 0 (ws x) (RG.Made.alloc t [uZ 0,uZ 0,uZ 0,uZ 0] 44).there
    gi_wp2_with (first|(refine bG rfl 44 _ _ rfl t.heap.size 0 (ws x).toArray rfl rfl (RG.Made.alloc t [uZ 0,uZ 0,uZ 0,uZ 0] 44).there i85 kR ?_;rw[show(ws x).toArray.toList=ws x from rfl,hg.out])|refine jX rfl 44 _ rfl t.heap.size 0 rfl (ws x) d h3 ht k3 i85 ?_)
    refine⟨trivial,λh=>(by cases h),?_⟩;clear h3 ht k3;have kg:True:=trivial;obtain⟨d8,h5,h4⟩:=TJ.1 iM;cases F:rt (x*x*x+7) with
    | none =>
     obtain⟨z,I⟩:∃z:Fin P,Hid (z=0):=⟨_,rfl⟩
     have k:=zJ C x F w5;rw[<-I.out]at k;obtain⟨vz,E⟩:∃vz,Hid (pv z z=vz):=⟨_,rfl⟩
     rw[E.out]at k;refine(callsIn_wide.2 k).mono ?_;clear k;rintro e s ⟨v,rfl,N,rfl⟩;have f:Hid (cand P c b i=none):=by
      show cand P c b i=none;unfold cand;rw[Y.out,yB3 O.out,X.out,F];rfl
     clear F;have q:Hid (Below wr.heap.size wr ((s.alloc (.cells #[uZ 0,uZ 0,uZ 0,uZ 0,uZ 0,uZ 0,uZ 0,uZ 0] 148)).setCells s.heap.size 0 (ws z++ws z))):=
      have h6:=o.trans (N.mono o.size)
      RG.below_setCells h6.size _ _ _ (h6.alloc h6.size _)
     clear N;have D:(ws z++ws z).toArray.size=8:=kR;have u:Hid <| (s.alloc (.cells #[uZ 0,uZ 0,uZ 0,uZ 0,uZ 0,uZ 0,uZ 0,uZ 0] 148)).there s.heap.size 0 (ws z++ws z).toArray.size:=by show yBx _ _ _ _;rw[D];exact(RG.Made.alloc s [uZ 0,uZ 0,uZ 0,uZ 0,uZ 0,uZ 0,uZ 0,uZ 0] 148).there
     have H:Hid ((prog.info? 148).map (·.size)=some (ws z++ws z).toArray.size):=by show _=_;rw[D];exact i109
     clear D;obtain⟨G,m⟩:∃G,Hid ((s.alloc (.cells #[uZ 0,uZ 0,uZ 0,uZ 0,uZ 0,uZ 0,uZ 0,uZ 0] 148)).setCells s.heap.size 0 (ws z++ws z)=G):=⟨_,rfl⟩
     rw[m.out]at q
     gi_wp2_with (refine bG rfl 148 _ _ rfl s.heap.size 0 (ws z++ws z).toArray ?_ ?_ ?_ ?_ ?_ ?_;rfl;exact E.symm;exact u.out;exact H.out;kernel_rfl;rw[show(ws z++ws z).toArray.toList=ws z++ws z from rfl,m.out];refine ZX ?_)
     clear u H E I m o X U O Y;show wpListIn _ _ _ _ _ _ _ _
     gi_wp2_with fail
     refine⟨λ_ h=>(by cases h),?_⟩
     gi_wp2_with fail
     refine⟨⟨i+1,oM,rfl,?_,V.trans (q.mono V.size),TU hn q.size⟩,?_⟩
     ·rw[fG,f.out];exact hJ _ wr _ none (by simpa using S) (Ap q.out none) (λ_ e=>by cases e)
     ·simp[intOf];omega
    | some y =>
     have k:=zI C x y F w5;obtain⟨vz,E⟩:∃vz,Hid (pv x y=vz):=⟨_,rfl⟩
     rw[E.out]at k;refine(callsIn_wide.2 k).mono ?_;clear k;rintro e s ⟨v,rfl,N,rfl⟩;have f:Hid (cand P c b i=some (x,y)):=by
      show cand P c b i=some (x,y);unfold cand;rw[Y.out,yB3 O.out,X.out,F];rfl
     clear F;obtain⟨G,m⟩:∃G,Hid ((s.alloc (.cells #[uZ 0,uZ 0,uZ 0,uZ 0,uZ 0,uZ 0,uZ 0,uZ 0] 148)).setCells s.heap.size 0 (ws x++ws y)=G):=⟨_,rfl⟩
     have I:Hid (Below wr.heap.size wr G):=by
      rw[<-m.out];have h6:=o.trans (N.mono o.size);exact RG.below_setCells h6.size _ _ _ (h6.alloc h6.size _)
     clear N;have h9:G.rangeAt s.heap.size 0 (ws x++ws y):=by rw[<-m.out];exact Vq _ _ 0 (ws x++ws y) (RG.Made.alloc s [uZ 0,uZ 0,uZ 0,uZ 0,uZ 0,uZ 0,uZ 0,uZ 0] 148).there
     have kd:Hid (J (cands P c b i) G):=hJ _ wr _ none (by simpa using S) (Ap I.out none) (λ_ e=>by cases e);have D:(ws x++ws y).toArray.size=8:=kR;have u:Hid <| (s.alloc (.cells #[uZ 0,uZ 0,uZ 0,uZ 0,uZ 0,uZ 0,uZ 0,uZ 0] 148)).there s.heap.size 0 (ws x++ws y).toArray.size:=by show yBx _ _ _ _;rw[D];exact(RG.Made.alloc s [uZ 0,uZ 0,uZ 0,uZ 0,uZ 0,uZ 0,uZ 0,uZ 0] 148).there
     have H:Hid ((prog.info? 148).map (·.size)=some (ws x++ws y).toArray.size):=by show _=_;rw[D];exact i109
     clear D;obtain⟨fn,tmps,k7,kf,hy,hR⟩:=hY (cands P c b i) (x,y) G kd.out (Nat.lt_of_le_of_lt (GZ c b i) oM);dsimp only at hy;obtain⟨va,hs⟩:∃va,Hid (Um (ws x++ws y).toArray=va):=⟨_,rfl⟩
     rw[show pv x y=va from hs.out]at hy
     gi_wp2_with (refine bG rfl 148 _ _ rfl s.heap.size 0 (ws x++ws y).toArray ?_ ?_ ?_ ?_ ?_ ?_;rfl;exact E.symm;exact u.out;exact H.out;kernel_rfl;rw[show(ws x++ws y).toArray.toList=ws x++ws y from rfl,m.out];refine ZX ?_)
     clear u H m o X U O Y;have k6:=Hid.mk hR;have h8:=Hid.mk h9;have hw:=Hid.mk h5;have k0:=Hid.mk h4;clear hR h9 h5 h4;show wpListIn _ _ _ _ _ _ _ _
     gi_wp2_with (refine oP rfl 148 _ rfl s.heap.size 0 ?_ (ws x++ws y) d8 ?_ ?_ ?_ ?_ ?_;rfl;exact h8.out;exact hw.out;exact k0.out;exact i109;rw[hs.out];refine ZX ?_)
     clear h8 hw k0 hs E;show wpListIn _ _ _ _ _ _ _ _
     gi_wp2_with fail
     refine⟨λh=>(by cases h),k6.mono ?_⟩;clear k6 hy;rintro e W8 (⟨rfl,k8,k5⟩|⟨rfl,hu⟩)
     ·gi_wp2_with fail
      refine⟨⟨i+1,oM,rfl,?_,(V.trans (I.mono V.size)).trans k5,TU hn (TU I.size k5.size)⟩,?_⟩
      ·rw[fG,f.out];exact k8
      ·simp[intOf];omega
     ·gi_wp2_with fail
      refine TM (results_none rfl _ _ _) rfl ?_;refine⟨⟨_,rfl⟩,.inr ⟨_,?_,hu⟩⟩;have hp:=zB (P:=P) c b (i:=i+1) (j:=256) oM;rw[fG,f.out]at hp;exact hp
   ·have f:cand P c b i=none:=by
     unfold cand;rw[Y.out,yB4 O]
    gi_wp2_with fail
    refine⟨trivial,λh=>(by cases h),(callsIn_wide.2 (Kd C hh (TG _) O K ha)).mono ?_⟩;rintro e t ⟨v,rfl,L,rfl⟩;have A:Hid ((t.alloc (.cells #[uZ 0,uZ 0,uZ 0,uZ 0] 44)).there t.heap.size 0 4):=(RG.Made.alloc t [uZ 0,uZ 0,uZ 0,uZ 0] 44).there;have g:=B.trans (L.mono B.size);have q:Hid (Below wr.heap.size wr ((t.alloc (.cells #[uZ 0,uZ 0,uZ 0,uZ 0] 44)).setCells t.heap.size 0 (ws (0:Fin P)))):=RG.below_setCells g.size _ _ _ (g.alloc g.size _);have f:Hid (cand P c b i=none):=f;obtain⟨G,m⟩:∃G,Hid ((t.alloc (.cells #[uZ 0,uZ 0,uZ 0,uZ 0] 44)).setCells t.heap.size 0 (ws (0:Fin P))=G):=⟨_,rfl⟩
    rw[m.out]at q
    gi_wp2_with (refine bG rfl 44 _ _ rfl t.heap.size 0 (ws (0:Fin P)).toArray ?_ ?_ ?_ ?_ ?_ ?_;rfl;rfl;exact A.out;exact i85;kernel_rfl;rw[show(ws (0:Fin P)).toArray.toList=ws (0:Fin P) from rfl,m.out];refine ZX ?_)
    clear A g B L Y m;show wpListIn _ _ _ _ _ _ _ _
    gi_wp2_with fail
    refine⟨⟨i+1,oM,rfl,?_,V.trans (q.mono V.size),TU hn q.size⟩,?_⟩
    ·rw[fG,f.out];exact hJ _ wr _ none (by simpa using S) (Ap q.out none) (λ_ e=>by cases e)
    ·simp[intOf];omega
end
section
open Go.RowKit Go.Sort Go.Deep Go.Shelf
variable {P:Nat}[NeZero P]{N:Nat}
theorem Dg(k:ByteArray)(a:Option V5)(m c:Nat)(w:TA):
 TW prog 111 #[.string k,.slice a m c] w (Ret λe w'=>e=.func (.func 138) #[] #[.pointer (some ⟨w.heap.size,0,none⟩),.pointer (some ⟨w.heap.size+1,0,none⟩)]/\w'=(w.alloc (.cells #[.string k] 9)).alloc (.cells #[.slice a m c] 23)):=by
 go_enter func111,ntmps111;go_wp2;go_ret;exact⟨_,rfl,rfl,rfl⟩
noncomputable def hpt (P:Nat) [NeZero P] (k:ByteArray) (b:List UInt8):Fin P × Fin P:=(cands P k b 256).headD (gX P,gY P)
theorem MJ{k:ByteArray}{b:List UInt8}{i:Nat}{x:Fin P × Fin P}(h:cand P k b i=some x):x.2*x.2=x.1*x.1*x.1+7:=by
 unfold cand at h;split at h
 ·obtain⟨y,c,rfl⟩:=TJ.1 h;exact Nj c
 ·cases h
theorem JO{k:ByteArray}{b:List UInt8}{n:Nat}{x:Fin P × Fin P}(h:x∈cands P k b n):x.2*x.2=x.1*x.1*x.1+7:=by
 unfold cands at h;obtain⟨i,-,c⟩:=List.mem_filterMap.1 h;exact MJ c
theorem DJ(C:Fld P)(k:ByteArray)(b:List UInt8):EC.On (.some (hpt P k b):EC.Pt P):=by
 unfold hpt;cases h:cands P k b 256 with
 | nil=>exact Jj C
 | cons x r=>exact IR (x:=x.1) (y:=x.2) (JO (by rw[h];exact Uz))
theorem Le(C:Fld P)(q:Fin P × Fin P)(h:EC.On (.some q:EC.Pt P)):yC q.1 q.2=wr (.some q:EC.Pt P):=Fy C ⟨rfl,rfl⟩ h
theorem Pu(C:Fld P)(k:ByteArray)(b:List UInt8):yC (hpt P k b).1 (hpt P k b).2=wr (.some (hpt P k b):EC.Pt P):=Le C _ (DJ C k b)
theorem GR(C:Fld P)(k:ByteArray)(a:Option V5)(m c:Nat)(b:List UInt8)(w:TA)(f:k.size<=1000000)(o:SP.PartOk w (.slice a m c) b):
 TW prog 110 #[.func (.func 138) #[] #[.pointer (some ⟨w.heap.size,0,none⟩),.pointer (some ⟨w.heap.size+1,0,none⟩)]] ((w.alloc (.cells #[.string k] 9)).alloc (.cells #[.slice a m c] 23)) (rZ w λe w'=>e=pv (hpt P k b).1 (hpt P k b).2):=by
 have g:=RG.Made.alloc w [.string k] 9;have i:=RG.Made.alloc (w.alloc (.cells #[.string k] 9)) [.slice a m c] 23;have d:Below w.heap.size w ((w.alloc (.cells #[.string k] 9)).alloc (.cells #[.slice a m c] 23)):=((TX _ w).alloc (TG _) _).alloc (by rw[TQ];omega) _;have q:((w.alloc (.cells #[.string k] 9)).alloc (.cells #[.slice a m c] 23)).heap.size=w.heap.size+2:=by rw[TQ,TQ]
 have p:((w.alloc (.cells #[.string k] 9)).alloc (.cells #[.slice a m c] 23)).cell? ⟨w.heap.size,0,none⟩=some (.string k):=by
  rw[Ua (a:=⟨w.heap.size,0,none⟩) (yAI _ _ _ (by rw[TQ];exact Xs _))];exact g.range 0 _ rfl
 have l:((w.alloc (.cells #[.string k] 9)).alloc (.cells #[.slice a m c] 23)).cell? ⟨w.heap.size+1,0,none⟩=some (.slice a m c):=by
  have:=i.range 0 _ rfl;rwa[TQ]at this
 refine(MC C _ (cands P k b 256) 256 _ (λn=>Pl C k (.slice a m c) b w.heap.size (w.heap.size+1) _ f p l oM oM (o.below d) n)).mono ?_;rintro e w' ⟨v,rfl,j,rfl⟩;exact⟨_,rfl,d.trans (j.mono d.size),rfl⟩
theorem Kl(C:Fld P)(k:ByteArray)(a:Option V5)(m c:Nat)(b:List UInt8)(w:TA)(i:k.size<=1000000)(y:SP.PartOk w (.slice a m c) b):
 TW prog 77 #[.string k,.slice a m c] w (rZ w λe w'=>Kk w (wr (.some (hpt P k b):EC.Pt P)) e w'):=by
 have u:=GR C k a m c b w i y;have l:∀w,TW prog 88 #[pv (hpt P k b).1 (hpt P k b).2] w (rZ w λe w'=>sV w (yC (hpt P k b).1 (hpt P k b).2) e w'):=Fx C _ _;rw[Pu C]at l;go_enter func77,ntmps77;go_wp2_with fail
 refine(Dg k a m c w).mono ?_;rintro e z ⟨v,rfl,rfl,rfl⟩;go_wp2_with fail
 refine u.mono ?_;rintro e A ⟨v,rfl,o,rfl⟩;have f:=mk1 (o);go_wp2_with fail
 refine(l _).mono ?_;rintro e t ⟨v,rfl,s,g,d,rfl,q,r,j,n⟩;have p:=mk1 (f.trans (s.mono f.size));have x:Hid (Kk w (wr (.some (hpt P k b):EC.Pt P)) (.tuple #[.slice (some (aZ g)) 33 d,iZ 0]) t):=⟨g,d,rfl,q,TU f.size r,j,n⟩
 go_wp2
 go_ret2
 exact⟨_,rfl,p.out,x.out⟩
end
section
open Go.RowKit Go.Sort Go.Deep
variable {P:Nat}[NeZero P]{N:Nat}
theorem Fw(C:Fld P)(lb:ByteArray)(o:lb.size<=1000000)(p:Option V5)(t r:Nat)(tx:List UInt8)(w:TA)(H:SP.PartOk w (.slice p t r) tx):
 TW prog 34 #[.string lb,.slice p t r] w (rZ w λe w'=>e=pvl (wr (.some (hpt P lb tx):EC.Pt P))):=by
 obtain⟨T,x⟩:=hE (wr (.some (hpt P lb tx):EC.Pt P));have s:T.size=33:=by rw[<-x.out];exact bX _
 rw[x.out];have I:=mk1 (C);have G:=Hid.mk' H;have E:=Hid.mk' o;obtain⟨j,i⟩:=hE (w.alloc (.cells z33.toArray 55));have n:Hid (Row j w.heap.size z33/\Below w.heap.size w j):=by rw[<-i.out];exact⟨aE w _ _,aD w _⟩
 obtain⟨d,u,q⟩:=TJ.1 uCP;have D:=mk2 u q;go_enter func34,ntmps34;go_wp2_with (refine cG (v:=.pointer (some ⟨w.heap.size,0,none⟩)) (w':=j) rfl (.alloc 55) rfl ?_ ?_;(rw[<-i.out];kernel_rfl))
 refine(Kl I.out lb p t r tx j E.out (G.below n.2)).mono ?_;rintro e B ⟨L,rfl,c,g,F,rfl,-,-,J,a⟩;rw[x.out]at a;have l:=mk3 (n.1.below c) (n.2.trans (c.mono n.2.size)) (Im a J);have A:=ND g F;obtain⟨y,f⟩:=hE (B.setCells w.heap.size 0 (aA T));have k:=aK s;have z:Hid (Row y w.heap.size (aA T)/\Below w.heap.size w y):=by rw[<-f.out];exact⟨l.1.put (by rw[k];rfl),RG.below_setCells (TG _) _ _ _ l.2.1⟩
 obtain⟨K,b⟩:=hE (Um (aA T).toArray);have m:Hid ((prog.info? 55).map (·.size)=some (aA T).length/\B.there w.heap.size 0 (aA T).toArray.size/\(prog.info? 55).map (·.size)=some (aA T).toArray.size):=by
  have e:(aA T).toArray.size=33:=by rw[UH];exact k
  refine⟨by rw[k];exact kN,by rw[e];exact l.1.2.2,by rw[e];exact kN⟩
 go_wp2_with (first|(refine UL rfl 55 _ rfl g 0 ?_ (aA T) d ?_ ?_ ?_ ?_ ?_;rfl;exact l.2.2.2.1;exact D.1;exact D.2;exact m.1;rw[b.out])|(refine Ui rfl 55 _ _ rfl w.heap.size 0 (aA T).toArray ?_ ?_ ?_ ?_ ?_ ?_;rfl;exact b.symm;exact m.2.1;exact m.2.2;exact nM T;rw[show(aA T).toArray.toList=aA T from rfl,f.out]))
 refine TM (aL 4 55 rfl z.1 rfl uCP m.1) rfl ?_;exact⟨_,rfl,z.2,rfl⟩
theorem QP:Gives 76 #[uZ 1] (nv 1):=by
 intro w;go_enter func76,ntmps76;refine RG.M.enter [(0,.v (uZ 1))] 6 kR ?_;intro a0 d;repeat refine TI ?_
 refine d.T [.m 0] [(0,RG.z 4)] [] [RG.z 4] [0,2] ⟨RG.mk 0 46,yB5⟩ ?_;intro k g f c;repeat refine TI ?_
 refine c.T [.x (uZ 1),.x (nv 1),.x (nv 1),.u 0] [] [(0,3,wn 1)] [wn 1] [2] ⟨RG.st,RG.st,RG.st,RG.pt i40,yB5⟩ ?_;intro e i b;refine UZ ?_;refine TM (v:=nv 1) (RG.aC b.st 2 46 rfl 0 _ rfl (b.at (s:=(.p 0 0))) u40 i40) b.sl.defers ?_;exact⟨_,rfl,b.st.bel.below,rfl⟩
def Sm(B:Nat)(W:TA)(v:TC)(l:List (Nat × Bs)):Prop:=∃g c,v=.slice (some (aZ g)) l.length c/\l.length<=c/\B<=g/\g<W.heap.size/\W.rangeAt g 0 (aU l)
theorem Sm.grow{B:Nat}{W W':TA}{v:TC}{l:List (Nat × Bs)}(h:Sm B W v l)(b:Below W.heap.size W W'):Sm B W' v l:=by
 obtain⟨g,c,f,d,e,k,i⟩:=h;exact⟨g,c,f,d,e,TF k b.size,RG.range_below i b k⟩
theorem cellsT_one'(n:Nat)(a:Bs):aU [(n,a)]=wn n++aA a:=by rw[fQ];exact Xu _
theorem Sm.one{B W k n}{w:TA}{a:Bs}(h:Row w k (wn n++aA a))(b:B<=k)(c:w=W):Sm B W (.slice (some (aZ k)) 1 1) [(n,a)]:=by
 subst c;exact⟨k,1,rfl,TG _,b,h.1,by rw[cellsT_one'];exact h.2.1⟩
theorem infoT':(prog.info? 100).map (λi=>(i.size,i.bytes,i.zero.map λz=>z.cells.size))=some (37,72,some 37):=kR
theorem Mq(n:Nat)(u:n<=10000000)(w:TA):TW prog 112 #[.slice none 0 0,iZ n] w (rZ w λe w'=>w'.ownsRow w.heap.size 100 37 e 0 []):=by
 by_cases t:n=0
 ·subst t;go_enter func112,ntmps112;go_wp2;go_ret;exact⟨_,rfl,TX _ _,yAw _ _ _ _⟩
 ·obtain⟨i,p,m⟩:=TJ.1 infoT';simp only[Vz.injEq]at m;obtain⟨v,o,r⟩:=m;obtain⟨z,q,l⟩:=TJ.1 r;have g:=Lib.run_append_nil_zeros (P:=prog) w 50 3 50 100 i z .i64 .i64 Cy Sr p q n oM oM oM (by rw[o];omega);have c:=grownCap_ge w n 0 100;have k:=grownCap_le_maxLen w n 0 100 (by unfold maxLen;omega);have b:(VN z.cells n++VN z.cells (grownCap w n 0 100-n)).size=grownCap w n 0 100*37:=by rw[Array.size_append,size_zeroCells,size_zeroCells,l];omega
  generalize grownCap w n 0 100=j at g c k b;generalize VN z.cells n++VN z.cells (j-n)=cur at g b;obtain⟨f,d⟩:∃f,Hid (w.drew.alloc (.cells cur 100)=f):=⟨_,rfl⟩
  rw[d.out]at g;have s:=Hid.mk' g;have K:Hid (Below w.heap.size w f/\f.ownsRow w.heap.size 100 37 (.slice (some ⟨w.heap.size,0,none⟩) 0 j) 0 []):=by
   rw[<-d.out];exact⟨(TX _ _).drew.alloc (TG _) _,World.ownsRow_made w.drew cur j (TG _) k b⟩
  go_enter func112,ntmps112;go_wp2_with (at_builtin;refine Lib.wpList_append_run _ rfl _ _ _ _ rfl _ _ rfl rfl _ _ s.out ?_)
  go_ret;exact⟨_,rfl,K.1,K.2⟩
theorem D9(l m:List (Nat × Bs)):aU (l++m)=aU l++aU m:=by unfold aU;rw[Yb]
theorem GY(l:List (Nat × Bs)):∀u∈aU l,u.oneCell'=true:=λu k=>by
 unfold aU at k;obtain⟨x,-,b⟩:=Zq.1 k;exact cells_one x.1 x.2 u b
theorem pV:∀ {l:List (Nat × Bs)},(∀x∈l,x.2.size=33)->(aU l).length=l.length*37
 | [],_=>rfl
 | x :: r,h=>by
  rw[fQ,TT,iH (h x Uz),pV λy k=>h y (Uq _ k),Uy];omega
theorem IM{base B:Nat}{W:TA}{v x:TC}{l m:List (Nat × Bs)}(b:W.ownsRow base 100 37 v l.length (aU l))(s:∀y∈m,y.2.size=33)(q:Sm B W x m)(F:l.length+m.length<=1000000)(o:base<=W.heap.size):
 ∃d W',(Ur #[50,50] 50 #[v,x]).run prog W=.ok d W'/\W'.ownsRow base 100 37 d (l++m).length (aU (l++m))/\W.grownBy W' v.ownBlock:=by
 obtain⟨i,p,f⟩:=TJ.1 infoT';simp only[Vz.injEq]at f;obtain⟨D,g,w⟩:=f;obtain⟨z,r,e⟩:=TJ.1 w;obtain⟨k,c,rfl,E,G,e3,t⟩:=q;obtain⟨d,W',A,a,C,-⟩:=YS (P:=prog) W base 50 50 100 i z 37 72 Cy p r D g e dC v l.length (aU l) b (aZ k) m.length c (aU m) (pV s)
  (λj u n=>by
   have:=t j u n;rw[TO]at this;rw[add0];exact this) (GY m) (by unfold maxLen;omega) oM o
 exact⟨d,W',A,by rw[TT,D9];exact a,C⟩
theorem atS(k o n c i:Nat)(b:i<n)(w:TA):(UP 48 (.slice (some ⟨k,o,none⟩) n c) (iZ i)).run prog w=.ok (.pointer (some ⟨k,o+1*i,none⟩)) w:=by
 go_simp
def mI(L:Nat->List (Nat × Bs))(k:Nat):List (Nat × Bs):=(US k).flatMap L
theorem jH(L:Nat->List (Nat × Bs))(i:Nat):mI L (i+1)=mI L i++L i:=by
 unfold mI;rw[Ya,Yb];simp
theorem Fv(L:Nat->List (Nat × Bs)){k m:Nat}(b:∀j,j<k->(L j).length<=m):∀i,i<=k->(mI L i).length<=m*i
 | 0,_=>TG _
 | i+1,hi=>by
  have d:=Fv L b i oM;have c:=b i oM;rw[jH,TT,XV];omega
theorem LU{W:TA}{base:Nat}{v:TC}{l:List (Nat × Bs)}(h:W.ownsRow base 100 37 v l.length (aU l))(i:0<l.length):Sm base W v l:=by
 have d:=λ{g:Nat}=>h.cells (g:=g)
 rcases h.2 with⟨-,f⟩|⟨g,cap,cur,rfl,e,k,b,-⟩
 ·omega
 ·refine⟨g,cap,rfl,b,e,(Uh.1 k).1,λj u c=>?_⟩;have:=d (g:=g) rfl j u c;rw[add0]at this;rw[TO];exact this
theorem Sm.point(C:Fld P)(O:Ord N)(d:∀r:EC.Pt P,EC.On r->EC.mul N r=none){B:Nat}{w:TA}{v:TC}{l:List (Nat × Bs)}(h:Sm B w v l)(i:0<l.length)(F:l.length<=512)(q:∀x∈l,x.1<N)(f:PtsL P l):
 TW prog 15 #[v] w (rZ w λe w'=>e=pvl (wr (fU P l))):=by
 obtain⟨g,c,rfl,-,-,E,D⟩:=h;have b:∀x∈l.map (·.2),x.size=33:=λx s=>by
  obtain⟨y,k,rfl⟩:=UM.1 s;obtain⟨X,-,e⟩:=f y k;rw[e];exact bX _
 have m:∀j (k:j<l.length),((l[j]?).getD (0,#[]))=l[j]:=λj k=>by rw[TZ k];rfl
 have p:∀j,j<l.length->EC.On (gR P ((l[j]?).getD (0,#[])).2):=λj k=>by rw[m j k];exact f.on C (UK k)
 refine(CN C O d g l.length c i F (λj=>((l[j]?).getD (0,#[])).1) (λj=>gR P ((l[j]?).getD (0,#[])).2) (λj k=>by rw[m j k];exact q _ (UK k)) p w E (λj k=>?_)).mono ?_
 ·rw[m j k];obtain⟨X,a,o⟩:=f _ (UK k);rw[o,nT C a,<-o];intro t u n;have z:t<37:=by
   have:=(T9.1 n).1;rw[iH (b _ (UM.2 ⟨_,UK k,rfl⟩))]at this;exact this
  have:=D (37*j+t) u (by rw[lI l b j k t z];exact n);rw[TO]at this;exact this
 ·rintro e w' ⟨u,rfl,n,rfl⟩;refine⟨_,rfl,n,?_⟩;rw[uV C l f _ (TG _),Zp]
theorem wC(C:Fld P){a b:EC.Pt P}(c:EC.On a)(k:EC.On b):∀n,EC.mul n (EC.add a b)=EC.add (EC.mul n a) (EC.mul n b)
 | 0=>rfl
 | n+1=>by
  show EC.add (EC.mul n (EC.add a b)) (EC.add a b)=EC.add (EC.add (EC.mul n a) a) (EC.add (EC.mul n b) b);rw[wC C c k n];exact C.cur.swap (EC.cU C.cur c n) (EC.cU C.cur k n) c k
def SmZ(B:Nat)(W:TA)(v:TC)(l:List (Nat × Bs)):Prop:=(v=.slice none 0 0/\l=[])\/Sm B W v l
theorem SmZ.grow{B:Nat}{W W':TA}{v:TC}{l:List (Nat × Bs)}(h:SmZ B W v l)(k:Below W.heap.size W W'):SmZ B W' v l:=by
 rcases h with h|h
 ·exact Ub h
 ·exact T8 (h.grow k)
theorem SmZ.form{B:Nat}{W:TA}{v:TC}{l:List (Nat × Bs)}(h:SmZ B W v l):∃q c,v=.slice q l.length c/\l.length<=c:=by
 rcases h with⟨rfl,rfl⟩|⟨g,c,b,k,-⟩
 ·exact⟨none,0,rfl,TG _⟩
 ·exact⟨_,_,b,k⟩
theorem Qb:∀W:TA,(Ur #[50,50] 50 #[.slice none 0 0,.slice none 0 0]).run prog W=.ok (.slice none 0 0) W:=λW=>kR
theorem IL{base B:Nat}{W:TA}{v x:TC}{l m:List (Nat × Bs)}(k:W.ownsRow base 100 37 v l.length (aU l))(n:∀y∈m,y.2.size=33)(c:SmZ B W x m)(d:l.length+m.length<=1000000)(e:base<=W.heap.size):
 ∃b W',(Ur #[50,50] 50 #[v,x]).run prog W=.ok b W'/\W'.ownsRow base 100 37 b (l++m).length (aU (l++m))/\W.grownBy W' v.ownBlock:=by
 rcases c with⟨rfl,rfl⟩|c
 ·rw[Xu];rcases id k.2 with⟨rfl,r⟩|⟨g,cap,cur,rfl,s,o,p,-⟩
  ·exact⟨_,_,Qb W,k,⟨rfl,rfl,rfl,TG _,λ_ _ _=>rfl⟩⟩
  ·obtain⟨i,f,q⟩:=TJ.1 infoT';have:=run_append_room_src (P:=prog) W 50 50 50 100 i Cy f g 0 l.length cap (.slice none 0 0) 0 [] (Src.ofNil (e':=100) _ Cy 0) oM (λj b=>by cases b) (λj b=>by cases b);exact⟨_,_,this,k,⟨rfl,rfl,rfl,TG _,λ_ _ _=>rfl⟩⟩
 ·exact IM k n c d e
theorem GU(g k c:Nat)(L:Nat->List (Nat × Bs))(N:k<=1000)(R:∀j,j<k->(L j).length<=600)(A:∀j,j<k->∀x∈L j,x.2.size=33)(w:TA)(U:g<w.heap.size)(Q:∀j,j<k->∃x,w.cell? ⟨g,j,none⟩=some x/\SmZ 0 w x (L j)):
 TW prog 79 #[.slice (some (aZ g)) k c] w (rZ w λe w'=>w'.ownsRow w.heap.size 100 37 e (mI L k).length (aU (mI L k))):=by
 have F:=Hid.mk' Q;have s:=mk1 (Fv L R);have T:=Hid.mk' U;have O:=Hid.mk' A;go_enter func79,ntmps79;go_wp2_with fail
 go_loopg [3,11] k (λm s3 s11 W=>∃i:Nat,i+m=k/\s11=iZ i/\s3=iZ ((mI L i).length:Int)/\w=W)
 case atStart=>exact⟨0,oM,rfl,rfl,rfl⟩
 case round =>
  obtain⟨i,X,rfl,rfl,rfl⟩:=hrel;by_cases G:i<k
  ·have z:(i:Int)<(k:Int):=oM;obtain⟨x,E,hE⟩:=F.out i G;obtain⟨M,I,rfl,r⟩:=hE.form;have l:=atS g 0 k c i G;rw[show 0+1*i=i by omega]at l;have d:(mI L (i+1)).length=(mI L i).length+(L i).length:=by rw[jH,TT]
   have n:=s.out i oM;have q:=s.out (i+1) oM;obtain⟨a,o⟩:∃a,Hid ((mI L i).length=a):=⟨_,rfl⟩
   obtain⟨b,f⟩:∃b,Hid ((L i).length=b):=⟨_,rfl⟩
   rw[o.out]at d n;rw[f.out]at d r;rw[o.out];rw[f.out]at E;go_wp2;go_roundg (gk-1)
   case measure=>omega
   case rel=>exact⟨i+1,oM,rfl,by rw[d,Int.natCast_add],rfl⟩
  ·have z:¬(i:Int)<(k:Int):=oM;obtain rfl:i=k:=oM;go_wp2_with fail
   refine(Mq (mI L i).length (by have:=s.out i (TG _);omega) w).mono ?_;rintro e Y ⟨v,rfl,n,t⟩;have S:=mk2 n t;go_wp2_with fail
   go_loopg [6,27] i (λm s6 s27 W=>∃j:Nat,j+m=i/\s27=iZ j/\Hid (Below w.heap.size w W/\W.ownsRow w.heap.size 100 37 s6 (mI L j).length (aU (mI L j))))
   case atStart=>exact⟨0,oM,rfl,S⟩
   case round =>
    obtain⟨j,V,rfl,f⟩:=hrel;by_cases B:j<i
    ·have u:(j:Int)<(i:Int):=oM;obtain⟨x,r,o⟩:=F.out j B;have E:wr.cell? ⟨g,j,none⟩=some x:=by rw[f.1.cell (p:=⟨g,j,none⟩) T.out];exact r
     have hE:=o.grow f.1;have q:=s.out (j+1) oM;have d:(mI L (j+1)).length=(mI L j).length+(L j).length:=by rw[jH,TT]
     obtain⟨H,W',J,C,K⟩:=IL f.2 (O j B) hE (by rw[<-d];omega) f.1.size;rw[<-jH]at C;have P:Hid (Below w.heap.size w W'/\W'.ownsRow w.heap.size 100 37 H (mI L (j+1)).length (aU (mI L (j+1)))):=⟨f.1.grown K f.1.size (λk N=>(f.2.lt k N).1),C⟩
     have D:=Hid.mk' J;obtain⟨M,I,rfl,-⟩:=hE.form;have l:=atS g 0 i c j B;rw[show 0+1*j=j by omega]at l;clear J C K d q f o r;go_wp2_with (first|(refine jI (x:=u6) (y:=.slice M (L j).length I) (v:=H) (w':=W') rfl _ _ 50 rfl ?_ ?_ ?_ ?_;rfl;rfl;exact D.out)|fail)
     go_roundg (gk-1)
     case measure=>omega
     case rel=>exact⟨j+1,oM,rfl,P⟩
    ·have u:¬(j:Int)<(i:Int):=oM;obtain rfl:j=i:=oM;go_wp2;go_ret;exact⟨_,rfl,f.1,f.2⟩
theorem lN(B:Nat)(s t:TC)(l m:List (Nat × Bs))(q:0<(l++m).length)(R:l.length<=500)(Q:m.length<=500)(n:∀x∈l,x.2.size=33)(C:∀x∈m,x.2.size=33)(w:TA)(K:SmZ B w s l)(G:SmZ B w t m):
 TW prog 36 #[s,t] w (rZ w λe w'=>Sm w.heap.size w' e (l++m)):=by
 obtain⟨o,D,L,-⟩:=K.form;obtain⟨y,a,O,-⟩:=G.form;subst L;subst O;obtain⟨b,k⟩:=hE (w.alloc (.cells #[.slice o l.length D,.slice y m.length a] 50));have H:Below w.heap.size w b:=by rw[<-k.out];exact aD _ _
 have f:w.heap.size<b.heap.size:=by rw[<-k.out,TQ];omega
 have F:b.rangeAt w.heap.size 0 [.slice o l.length D,.slice y m.length a]:=by rw[<-k.out];exact(RG.Made.alloc w [.slice o l.length D,.slice y m.length a] 50).range
 have N:=Hid.mk' (GU w.heap.size 2 2 (λj=>if j=0 then l else m) dC (λj _=>by show(if j=0 then l else m).length<=600;split<;>omega) (λj _=>by
  show ∀x∈(if j=0 then l else m),x.2.size=33;split
  ·exact n
  ·exact C) b f (λj d=>by
  have u:∀ {v:TC}{l:List (Nat × Bs)},SmZ B w v l->SmZ 0 b v l:=λh=>by
   rcases h.grow H with h|⟨g,c,p,r,-,i,A⟩
   ·exact Ub h
   ·exact T8 ⟨g,c,p,r,VH _,i,A⟩
  have d:j=0\/j=1:=oM;rcases d with rfl|rfl
  ·exact⟨_,F 0 _ rfl,u K⟩
  ·exact⟨_,F 1 _ rfl,u G⟩))
 have d:mI (λj=>if j=0 then l else m) 2=l++m:=by rw[jH,jH];rfl
 have u:=Hid.mk' H;have I:=mk2 d q;go_enter func36,ntmps36;go_wp2_with fail
 rw[k.out];refine N.mono ?_;rintro e J ⟨M,rfl,z,ho⟩;rw[I.1]at ho;have E:Hid (Below w.heap.size w J/\Sm w.heap.size J M (l++m)):=by
  obtain⟨g,c,p,r,P,i,A⟩:=LU ho I.2;exact⟨u.trans (z.mono u.size),g,c,p,r,TU u.size P,i,A⟩
 go_wp2;go_ret;exact⟨_,rfl,E.1,E.2⟩
def Nw(B:Nat)(c:List TC)(v:TC)(W:TA):Prop:=∃k,v=pZ k/\B<=k/\Row W k c
section
variable (w:TA) (k6 k8 k9 k10 x kk c z B0:Nat) (A F:Bs) (v1:TC)
def R5:Nat->TC->TA->Prop
 | 0,v,_=>v=nv kk
 | 1,v,_=>v=pvl A
 | 2,v,_=>v=pvl F
 | 3,v,W=>Nw B0 z33 v W
 | _,_,_=>True
def Two(v:TC)(W:TA):Prop:=∃k y,v=.slice (some (aZ k)) 2 2/\k<W.heap.size/\W.cell? ⟨k,0,none⟩=some (.slice (some (aZ k9)) 33 33)/\W.cell? ⟨k,1,none⟩=some y/\El 32 W y (bx z)
end
theorem SZ(N:Nat)(c:N<=512):∃C0:List TC,C0.length=37*N/\∀w:TA,(Instr.makeSlice 50 (iZ N) (iZ N)).run prog w=.ok (.slice (some ⟨w.heap.size,0,none⟩) N N) (w.alloc (.cells C0.toArray 100)):=by
 have j:(prog.info? 100).map (λi=>(i.size,decide (i.bytes<=4000),i.zero.isSome))=some (37,true,true):=kR;obtain⟨i,b,k⟩:=TJ.1 j;simp only[Vz.injEq,decide_eq_true_eq]at k;obtain⟨g,d,e⟩:=k;obtain⟨z,m⟩:=UT.1 e;refine⟨(madeCells z.cells (N*37)).toList,by rw[TR,size_madeCells,Ut],λw=>?_⟩;have f:(i.bytes:Int)*(N:Int)<=281474976710656:=by
  have:i.bytes*N<=4000*512:=Nat.mul_le_mul d c;have l:((i.bytes*N:Nat):Int)<=281474976710656:=oM;rwa[Int.natCast_mul]at l
 have:=run_make (P:=prog) w 50 100 i z Cy b m .i64 .i64 (N:Int) (N:Int) oM oM f oM;rw[Int.toNat_natCast,g]at this;rw[Array.toArray_toList];exact this
theorem GX{W:TA}{g:Nat}{l:List (Nat × Bs)}(k:∀x∈l.map (·.2),x.size=33)(d:W.rangeAt g 0 (aU l))(j:Nat)(c:j<l.length):W.rangeAt g (37*j) (wn (l[j]).1++aA (l[j]).2):=λt u b=>by
 have e:t<37:=by
  have:=(T9.1 b).1;rw[iH (k _ (UM.2 ⟨_,UK c,rfl⟩))]at this;exact this
 have:=d (37*j+t) u (by rw[lI l k j c t e];exact b);rw[TO]at this;exact this
theorem CW{W:TA}{g:Nat}{l:List (Nat × Bs)}(k:∀x∈l.map (·.2),x.size=33)(i:∀j (b:j<l.length),W.rangeAt g (37*j) (wn (l[j]).1++aA (l[j]).2)):W.rangeAt g 0 (aU l):=λt u c=>by
 have f:t<l.length*37:=by
  have:=(T9.1 c).1;rwa[pV λx d=>k _ (UM.2 ⟨x,d,rfl⟩)]at this
 have b:t/37<l.length:=Nat.div_lt_of_lt_mul oM;have m:t%37<37:=Vm _ dC;have e:37*(t/37)+t%37=t:=YT _ _;have d:=lI l k (t/37) b (t%37) m;rw[e,c]at d;have:=i (t/37) b (t%37) u d.symm;rw[e]at this;rw[TO];exact this
def tmT(N n:Nat)(x:Nat × Bs):Nat × Bs:=(sTi N n x.1,x.2)
structure Tz(w W:TA)(N n K k3 i:Nat)(l:List (Nat × Bs)):Prop where
 bl:Below w.heap.size w W
 lt:K<W.heap.size
 ne:k3≠K
 th:W.there K 0 (37*l.length)
 r3:Row W k3 (wn n)
 rw:∀j (hj:j<l.length),j<i->W.rangeAt K (37*j) (wn (tmT N n (l[j])).1++aA (tmT N n (l[j])).2)
theorem Tz.grow{w W W':TA}{n K c i:Nat}{l:List (Nat × Bs)}(h:Tz w W N n K c i l)(k:Below W.heap.size W W'):Tz w W' N n K c i l:=
 ⟨h.bl.trans (k.mono h.bl.size),TF h.lt k.size,h.ne,RG.eG h.th k h.lt,h.r3.below k,λj d b=>RG.range_below (h.rw j d b) k h.lt⟩
theorem Tz.drew{w W:TA}{n K k i:Nat}{l:List (Nat × Bs)}(h:Tz w W N n K k i l):Tz w W.drew N n K k i l:=⟨h.bl.drew,h.lt,h.ne,h.th,h.r3,h.rw⟩
theorem Tz.put{w W:TA}{n K d i:Nat}{l:List (Nat × Bs)}(h:Tz w W N n K d i l)(g:w.heap.size<=K)(o:i<l.length)(c:∀x∈l.map (·.2),x.size=33):Tz w (W.setCells K (37*i) (wn (tmT N n (l[i])).1++aA (tmT N n (l[i])).2)) N n K d (i+1) l:=by
 have b:∀(j:Nat) (k:j<l.length),(wn (tmT N n (l[j])).1++aA (tmT N n (l[j])).2).length=37:=λj k=>iH (c _ (UM.2 ⟨_,UK k,rfl⟩))
 refine⟨RG.below_setCells g _ _ _ h.bl,by rw[RG.setCells_size];exact h.lt,h.ne,VM h.th _ _ _,⟨by rw[RG.setCells_size];exact h.r3.1,UW h.r3.2.1 K _ _ (Ub h.ne),VM h.r3.2.2 _ _ _⟩,λj k m=>?_⟩;by_cases e:j=i
 ·subst e;refine Vq W K _ _ λt f=>?_
  rw[b j k]at f;have:=h.th (37*j+t) oM;rwa[TO]at this
 ·exact UW (h.rw j k oM) K _ _ (T8 (Ub (by rw[b j k];omega)))
section
variable (w:TA) (n K k3 k7 i s m:Nat) (p:Bs) (l:List (Nat × Bs))
def Rt:Nat->TC->TA->Prop
 | 0,v,_=>v=.slice (some (aZ K)) l.length l.length
 | 1,v,_=>v=iZ i
 | 2,v,_=>v=nv n
 | 3,v,_=>v=pZ k7
 | 4,v,_=>v=nv s
 | 5,v,_=>v=nv m
 | 6,v,_=>v=.pointer (some ⟨k7,4,none⟩)
 | 7,v,_=>v=pvl p
 | 8,v,_=>v=tvl m p
 | 9,v,_=>v=.pointer (some ⟨K,0+37*i,none⟩)
 | _,_,_=>True
def Gt(N:Nat):RG.Gw:=⟨Rt n K k7 i s m p l,λW=>Tz w W N n K k3 i l/\Row W k7 (wn s++aA p),λj v W W' k h=>by
 match j,h with
 | 0,h=>exact h
 | 1,h=>exact h
 | 2,h=>exact h
 | 3,h=>exact h
 | 4,h=>exact h
 | 5,h=>exact h
 | 6,h=>exact h
 | 7,h=>exact h
 | 8,h=>exact h
 | 9,h=>exact h
 | _+10,_=>trivial,λW W' k h=>⟨h.1.grow k,h.2.below k⟩⟩
end
theorem lM(O:Ord N){n:Nat}(hn:n<N)(B:Nat)(s:TC)(l:List (Nat × Bs))(hl:l.length<=512)(h7:∀x∈l.map (·.2),x.size=33)(h0:∀x∈l,x.1<N)(w:TA)(hS:Sm B w s l):
 TW prog 37 #[s,nv n] w (rZ w λe w'=>Sm w.heap.size w' e (l.map (tmT N n))):=by
 obtain⟨g,c,rfl,hc,-,hg,hr⟩:=hS;have Y:=Hid.mk' (boxS n w);obtain⟨r,A⟩:∃r,Hid (w.alloc (.cells (wn n).toArray 46)=r):=⟨_,rfl⟩
 rw[A.out]at Y;obtain⟨F,C⟩:∃k,Hid (w.heap.size=k):=⟨_,rfl⟩
 obtain⟨K,hK⟩:∃k,Hid (r.heap.size=k):=⟨_,rfl⟩
 have e1:K=F+1:=by rw[<-hK.out,<-C.out,<-A.out,TQ]
 obtain⟨C0,h3,ha⟩:=SZ l.length hl;have I:=ha r;obtain⟨w2,H⟩:∃w2,Hid (r.alloc (.cells C0.toArray 100)=w2):=⟨_,rfl⟩
 rw[H.out,hK.out]at I;rw[C.out]at Y;have K2:Hid (Tz w w2 N n K F 0 l):=by
  have f:Row r F (wn n):=by rw[<-A.out,<-C.out];exact aE w _ _
  have b1:Below w.heap.size w r:=by rw[<-A.out];exact aD _ _
  have o:Below r.heap.size r w2:=by rw[<-H.out];exact aD _ _
  have d:Row w2 K C0:=by rw[<-H.out,<-hK.out];exact aE r _ _
  exact⟨b1.trans (o.mono b1.size),d.1,oM,by rw[<-h3];exact d.2.2,f.below o,λj hj q=>oM⟩
 have D:Hid (Ord N/\n<N/\(∀x∈l.map (·.2),x.size=33)/\(∀x∈l,x.1<N)/\g<w.heap.size/\w.rangeAt g 0 (aU l)/\w.heap.size<=K):=⟨O,hn,h7,h0,hg,hr,by rw[C.out];omega⟩
 obtain⟨d',h4,h9⟩:=TJ.1 uT;have HD:Hid (prog.underlying 100=some d'/\d'.isRow=true):=⟨h4,h9⟩
 obtain⟨vn,hq⟩:∃v,Hid (nv n=v):=⟨_,rfl⟩
 rw[hq.out]at Y⊢;clear h4 h9 O hn h7 h0 hg hr ha h3 A H hK C e1;go_enter func37,ntmps37;go_wp2_with (first|(refine aM (u:=vn) (v:=pZ F) (w':=r) rfl 46 (.tmp 1) rfl ?_ ?_ ?_;rfl;exact Y.out)|fail)
 clear I;go_loopg [13] l.length (λm s13 W=>∃i:Nat,i+m=l.length/\s13=iZ i/\Hid (Tz w W N n K F i l))
 case atStart=>exact⟨0,oM,rfl,K2⟩
 case round =>
  clear K2 Y;obtain⟨i,hs,rfl,Q⟩:=hrel;by_cases o:i<l.length
  ·have hm:(i:Int)<(l.length:Int):=oM;obtain⟨s,L⟩:∃s,Hid ((l[i]'o).1=s):=⟨(l[i]'o).1,(rfl:(l[i]'o).1=(l[i]'o).1)⟩
   obtain⟨p,M⟩:∃p,Hid ((l[i]'o).2=p):=⟨(l[i]'o).2,(rfl:(l[i]'o).2=(l[i]'o).2)⟩
   have E:Hid (p.size=33):=by rw[<-M.out];exact D.2.2.1 _ (UM.2 ⟨_,UK o,rfl⟩)
   have he:Hid (s<N):=by rw[<-L.out];exact D.2.2.2.1 _ (UK o)
   have B0:Hid (wr.rangeAt g (37*i) (wn s++aA p)):=by
    have h:=RG.range_below (GX D.2.2.1 D.2.2.2.2.2.1 i o) Q.bl D.2.2.2.2.1;rw[L.out,M.out]at h;exact h
   obtain⟨q,G⟩:∃k,Hid (wr.heap.size=k):=⟨_,rfl⟩
   obtain⟨S,J⟩:∃S,Hid (wr.alloc (.cells zT.toArray 100)=S):=⟨_,rfl⟩
   obtain⟨W2,T⟩:∃W2,Hid (S.setCells q 0 (wn s++aA p)=W2):=⟨_,rfl⟩
   have f:(wn s++aA p).length=37:=iH E.out;have F1:Hid (Row S q zT/\Below wr.heap.size wr S):=by rw[<-J.out,<-G.out];exact⟨aE wr _ _,aD wr _⟩
   have F2:Hid (Row W2 q (wn s++aA p)/\Tz w W2 N n K F i l):=by
    rw[<-T.out];exact⟨F1.1.put (by rw[f];rfl),Q.grow (RG.below_setCells (by rw[G.out];exact TG _) _ _ _ F1.2)⟩
   have hk:Hid ((prog.info? 100).map (·.size)=some (wn s++aA p).length):=by show _=_;rw[f];exact iT
   have Z:Hid ((prog.info? 100).map (·.size)=some (wn s++aA p).toArray.size/\S.there q 0 (wn s++aA p).toArray.size):=by
    have e:(wn s++aA p).toArray.size=37:=by rw[UH];exact f
    rw[e];exact⟨iT,F1.1.2.2⟩
   have hh:Hid ((wn s++aA p).toArray.all (·.oneCell')=true):=by
    show _=_;rw[Vu];intro u hu;exact cells_one s p u (WU.1 hu)
   have hw:=atT g 0 l.length c i o;obtain⟨vt,U⟩:∃v,Hid (Um (wn s++aA p).toArray=v):=⟨_,rfl⟩
   have HL:Hid (i<l.length):=o;clear f Q F1;go_wp2_with (first|(refine UL rfl 100 _ rfl g (37*i) ?_ (wn s++aA p) d' ?_ ?_ ?_ ?_ ?_;rfl;exact B0.out;exact HD.1;exact HD.2;exact hk.out;rw[U.out])|(refine cG (v:=pZ q) (w':=S) rfl (.alloc 100) rfl ?_ ?_;(rw[<-J.out,<-G.out];kernel_rfl))|(refine Ui rfl 100 _ _ rfl q 0 (wn s++aA p).toArray ?_ ?_ ?_ ?_ ?_ ?_;rfl;exact U.symm;exact Z.2;exact Z.1;exact hh.out;rw[show(wn s++aA p).toArray.toList=wn s++aA p from rfl,T.out])|fail)
   clear J T G;refine(Gt w n K F q i s (sTi N n s) p l N).last 10 kR kR kR ⟨
    RG.dM λa W d=>⟨[(5,.slice (some (aZ K)) l.length l.length)],.slice (some (aZ K)) l.length l.length,W,⟨d.o 5 kR,yB5⟩,kR,TX _ _,rfl⟩,
    RG.dM λa W d=>⟨[(6,iZ i)],iZ i,W,⟨d.o 6 kR,yB5⟩,kR,TX _ _,rfl⟩,
    RG.l9 46 3 rfl Go.Proofs.YtjnchldodncnbaaGreat.u40 λa W d=>⟨F,0,wn n,d.o 3 kR,d.b.1.r3.2.1,i40,rfl⟩,
    RG.dM λa W d=>⟨[(7,pZ q)],pZ q,W,⟨d.o 7 kR,yB5⟩,kR,TX _ _,rfl⟩,
    RG.l9 46 21 rfl Go.Proofs.YtjnchldodncnbaaGreat.u40 λa W d=>⟨q,0,wn s,d.n 3 21 kR kR,kD d.b.2.2.1,i40,rfl⟩,
    RG.kH λa W d=>⟨[(20,nv n),(22,nv s)],80,#[nv n,nv s],⟨d.n 2 20 kR kR,d.n 4 22 kR kR,yB5⟩,kR,(zZ D.1 n s D.2.1 he.out W).mono (by
     rintro e W' ⟨u,rfl,P,rfl⟩;exact⟨_,rfl,P,rfl⟩)⟩,
    RG.dM λa W d=>⟨[(7,pZ q)],.pointer (some ⟨q,4,none⟩),W,⟨d.o 7 kR,yB5⟩,kR,TX _ _,rfl⟩,
    RG.l9 55 24 rfl uCP λa W d=>⟨q,4,aA p,d.n 6 24 kR kR,lS (xs:=wn s) d.b.2.2.1,by rw[aK E.out];exact kN,rfl⟩,
    RG.dM λa W d=>⟨[(23,nv (sTi N n s)),(25,pvl p)],tvl (sTi N n s) p,W,⟨d.n 5 23 kR kR,d.n 7 25 kR kR,yB5⟩,by
     rw[Vz.injEq];refine⟨kR,?_⟩;refine Eq.trans (b:=((Instr.build 100 #[(0,nv (sTi N n s)),(1,pvl p)]) >>= λv=>pure (Ww v)).run prog W) kR ?_;rw[Ue,RP E.out];rfl,TX _ _,rfl⟩,
    RG.dM λa W d=>⟨[(18,.slice (some (aZ K)) l.length l.length),(19,iZ i)],.pointer (some ⟨K,0+37*i,none⟩),W,⟨d.n 0 18 kR kR,d.n 1 19 kR kR,yB5⟩,by
     rw[Vz.injEq];refine⟨kR,?_⟩;show((UP 50 (.slice (some (aZ K)) l.length l.length) (iZ i)) >>= λv=>pure (Ww v)).run prog W=_;rw[Ue,atT K 0 l.length l.length i HL.out];rfl,TX _ _,rfl⟩,yB5⟩ ⟨F2.2.drew,F2.1⟩ ?_
   intro V W3 P R;have X:V 8=tvl (sTi N n s) p:=P 8 dC;have h6:V 9=.pointer (some ⟨K,0+37*i,none⟩):=P 9 dC;have d:(wn (sTi N n s)++aA p).length=37:=iH E.out;obtain⟨W4,h5⟩:∃W4,Hid (W3.setCells K (37*i) (wn (sTi N n s)++aA p)=W4):=⟨_,rfl⟩
   have K4:Hid (Tz w W4 N n K F (i+1) l):=by
    have h:=R.1.put D.2.2.2.2.2.2 HL.out D.2.2.1;have e:tmT N n (l[i]'HL.out)=(sTi N n s,p):=by
     have h1:=L.out;have h2:=M.out;unfold tmT;rw[h1,h2]
    rw[e]at h;rw[<-h5.out];exact h
   have HT:Hid (W3.there K (37*i) (wn (sTi N n s)++aA p).toArray.size/\(prog.info? 100).map (·.size)=some (wn (sTi N n s)++aA p).toArray.size/\(wn (sTi N n s)++aA p).toArray.all (·.oneCell')=true):=by
    have e:(wn (sTi N n s)++aA p).toArray.size=37:=by rw[UH];exact d
    refine⟨λt ht=>?_,by rw[e];exact iT,?_⟩
    ·rw[e]at ht;have:=R.1.th (37*i+t) (by have:=HL.out;omega);rwa[TO]at this
    ·rw[Vu];intro u hu;exact cells_one _ p u (WU.1 hu)
   dsimp only[RG.bW,UJ,Vw,Vx];simp only[Ug,TD,TK,TL];obtain⟨vz,h8⟩:∃v,Hid (tvl (sTi N n s) p=v):=⟨_,rfl⟩
   rw[X,h6,h8.out,TO];clear P R X h6 d F2;generalize V 0=s0;generalize V 1=s1;generalize V 2=s2;generalize V 3=s3;generalize V 4=s4;generalize V 5=s5;generalize V 6=s6;generalize V 7=s7;go_wp2_with (first|(refine Ui rfl 100 _ _ rfl K (37*i) (wn (sTi N n s)++aA p).toArray ?_ ?_ ?_ ?_ ?_ ?_;rfl;exact h8.symm;exact HT.1;exact HT.2.1;exact HT.2.2;rw[show(wn (sTi N n s)++aA p).toArray.toList=wn (sTi N n s)++aA p from rfl,h5.out])|fail)
   go_roundg (gk-1)
   case measure=>omega
   case rel=>exact⟨i+1,oM,rfl,K4⟩
  ·have hm:¬(i:Int)<(l.length:Int):=oM;obtain rfl:i=l.length:=oM;have d:Hid (Below w.heap.size w wr/\Sm w.heap.size wr (.slice (some (aZ K)) l.length l.length) (l.map (tmT N n))):=by
    refine⟨Q.bl,K,l.length,by rw[Uk],by rw[Uk];exact TG _,D.2.2.2.2.2.2,Q.lt,CW (λx q=>?_) λj hj=>?_⟩
    ·obtain⟨y,f,rfl⟩:=UM.1 q;obtain⟨z,E,rfl⟩:=UM.1 f;exact D.2.2.1 _ (UM.2 ⟨z,E,rfl⟩)
    ·rw[List.getElem_map];rw[Uk]at hj;exact Q.rw j hj hj
   clear Q;go_wp2;go_ret;exact⟨_,rfl,d.1,d.2⟩
end
namespace SPA
structure Md(N:Nat)[NeZero N](M:Type) where
 ad:M->M->M
 zo:M
 ac:(Fin N)->M->M
 comm:∀a b,ad a b=ad b a
 assoc:∀a b c,ad (ad a b) c=ad a (ad b c)
 zadd:∀a,ad zo a=a
 acAd:∀r a b,ac r (ad a b)=ad (ac r a) (ac r b)
 adAc:∀r s a,ac (r+s) a=ad (ac r a) (ac s a)
 acAc:∀r s a,ac r (ac s a)=ac (r*s) a
 acOne:∀a,ac 1 a=a
 zac:∀a,ac 0 a=zo
variable {N:Nat}[NeZero N]{M:Type}
namespace Md
variable (D:Md N M)
theorem Ts(a:M):D.ad a D.zo=a:=by rw[D.comm,D.zadd]
theorem swap(a b c d:M):D.ad (D.ad a b) (D.ad c d)=D.ad (D.ad a c) (D.ad b d):=by
 rw[D.assoc,<-D.assoc b,D.comm b c,D.assoc c,<-D.assoc]
theorem acz(r:(Fin N)):D.ac r D.zo=D.zo:=by
 have h:=D.zac D.zo;rw[<-h,D.acAc,show r*0=(0:(Fin N)) by grind]
def sm(f:Nat->M):Nat->M
 | 0=>D.zo
 | n+1=>D.ad (sm f n) (f n)
theorem Ba{f g:Nat->M}:∀n,(∀i,i<n->f i=g i)->D.sm f n=D.sm g n
 | 0,_=>rfl
 | n+1,h=>by
  show D.ad _ _=D.ad _ _;rw[Ba n λi k=>h i oM,h n oM]
theorem EA(f g:Nat->M):∀n,D.sm (λi=>D.ad (f i) (g i)) n=D.ad (D.sm f n) (D.sm g n)
 | 0=>(D.zadd _).symm
 | n+1=>by
  show D.ad _ _=D.ad (D.ad _ _) (D.ad _ _);rw[EA f g n,D.swap]
theorem H8(r:(Fin N))(f:Nat->M):∀n,D.sm (λi=>D.ac r (f i)) n=D.ac r (D.sm f n)
 | 0=>(D.acz r).symm
 | n+1=>by
  show D.ad _ _=D.ac r (D.ad _ _);rw[H8 r f n,D.acAd]
theorem H7(f:Nat->M)(n:Nat):∀m,D.sm f (n+m)=D.ad (D.sm f n) (D.sm (λi=>f (n+i)) m)
 | 0=>(D.Ts _).symm
 | m+1=>by
  show D.ad (D.sm f (n+m)) _=D.ad _ (D.ad _ _);rw[H7 f n m,D.assoc];rfl
instance:Std.Associative D.ad:=⟨D.assoc⟩
instance:Std.Commutative D.ad:=⟨D.comm⟩
def dt(a:Nat->(Fin N))(g:Nat->M)(n:Nat):M:=D.sm (λi=>D.ac (a i) (g i)) n
theorem DY(a:Nat->(Fin N))(g:Nat->M)(n m:Nat):D.dt a g (n+m)=D.ad (D.dt a g n) (D.dt (λi=>a (n+i)) (λi=>g (n+i)) m):=D.H7 _ n m
theorem DZ(x y:(Fin N))(b:x*y=1)(a c:Nat->(Fin N))(g k:Nat->M)(n:Nat):
 D.dt (λi=>x*a i+y*c i) (λi=>D.ad (D.ac y (g i)) (D.ac x (k i))) n
  = D.ad (D.ad (D.ac (x*x) (D.dt a k n)) (D.ad (D.dt a g n) (D.dt c k n))) (D.ac (y*y) (D.dt c g n)):=by
 unfold dt;rw[<-D.H8,<-D.H8,<-D.EA,<-D.EA,<-D.EA];refine D.Ba n λi _=>?_
 rw[D.acAd,D.acAc,D.acAc,D.acAc,D.acAc,show(x*a i+y*c i)*y=a i+y*y*c i by grind,show(x*a i+y*c i)*x=x*x*a i+c i by grind,D.adAc,D.adAc]
 ac_rfl
end Md
def own(N:Nat)[NeZero N]:Md N (Fin N) where
 ad:=(·+·)
 zo:=0
 ac:=(·*·)
 comm:=by grind
 assoc:=by grind
 zadd:=by grind
 acAd:=by grind
 adAc:=by grind
 acAc:=by grind
 acOne:=by grind
 zac:=by grind
namespace Md
variable (D:Md N M)
def pr(a b:Nat->(Fin N))(n:Nat):(Fin N):=(own N).dt a b n
def hd(a b:Nat->(Fin N))(g h:Nat->M)(u:M)(n:Nat):M:=D.ad (D.ad (D.dt a g n) (D.dt b h n)) (D.ac (pr a b n) u)
def lf(a b:Nat->(Fin N))(g h:Nat->M)(u:M)(n:Nat):M:=D.hd a (λi=>b (n+i)) (λi=>g (n+i)) h u n
def rt(a b:Nat->(Fin N))(g h:Nat->M)(u:M)(n:Nat):M:=D.hd (λi=>a (n+i)) b g (λi=>h (n+i)) u n
def fS(x y:(Fin N))(n:Nat)(a:Nat->(Fin N))(i:Nat):(Fin N):=x*a i+y*a (n+i)
def fP(x y:(Fin N))(n:Nat)(g:Nat->M)(i:Nat):M:=D.ad (D.ac x (g i)) (D.ac y (g (n+i)))
theorem halved(x y:(Fin N))(k:x*y=1)(a b:Nat->(Fin N))(g h:Nat->M)(u:M)(n:Nat):
 D.hd (fS x y n a) (fS y x n b) (D.fP y x n g) (D.fP x y n h) u n
  = D.ad (D.ad (D.ac (x*x) (D.lf a b g h u n)) (D.hd a b g h u (n+n))) (D.ac (y*y) (D.rt a b g h u n)):=by
 have c:=D.DZ x y k a (λi=>a (n+i)) g (λi=>g (n+i)) n;have d:=D.DZ y x (by rw[<-k];grind) b (λi=>b (n+i)) h (λi=>h (n+i)) n;have e3:=(own N).DZ x y k a (λi=>a (n+i)) b (λi=>b (n+i)) n;unfold lf rt hd pr;rw[show D.dt (fS x y n a) (D.fP y x n g) n=_ from c,show D.dt (fS y x n b) (D.fP x y n h) n=_ from d,show(own N).dt (fS x y n a) (fS y x n b) n=_ from e3,D.DY,D.DY,(own N).DY];simp only[D.acAd,D.acAc];rw[show(own N).ad ((own N).ad ((own N).ac (x*x) ((own N).dt a (λi=>b (n+i)) n)) ((own N).ad ((own N).dt a b n) ((own N).dt (λi=>a (n+i)) (λi=>b (n+i)) n))) ((own N).ac (y*y) ((own N).dt (λi=>a (n+i)) b n))
  = (x*x*(own N).dt a (λi=>b (n+i)) n+(own N).ad ((own N).dt a b n) ((own N).dt (λi=>a (n+i)) (λi=>b (n+i)) n))+y*y*(own N).dt (λi=>a (n+i)) b n from rfl,D.adAc,D.adAc]
 ac_rfl
def pv{S:Type}(ch:S->M->M->S × (Fin N))(k:(Fin N)->(Fin N))(u:M):Nat->S->(Nat->(Fin N))->(Nat->(Fin N))->(Nat->M)->(Nat->M)->List (M × M) × (Fin N) × (Fin N)
 | 0,_,a,b,_,_=>([],a 0,b 0)
 | t+1,s,a,b,g,h =>
  let L:=D.lf a b g h u (2^t)
  let T:=D.rt a b g h u (2^t)
  let c:=ch s L T
  let r:=pv ch k u t c.1 (fS c.2 (k c.2) (2^t) a) (fS (k c.2) c.2 (2^t) b) (D.fP (k c.2) c.2 (2^t) g) (D.fP c.2 (k c.2) (2^t) h)
  ((L,T) :: r.1,r.2)
def vf{S:Type}(ch:S->M->M->S × (Fin N))(k:(Fin N)->(Fin N))(u:M)(a b:(Fin N)):List (M × M)->S->M->(Nat->M)->(Nat->M)->Prop
 | [],_,p,g,h=>p=D.ad (D.ad (D.ac a (g 0)) (D.ac b (h 0))) (D.ac (a*b) u)
 | (L,T) :: l,s,p,g,h =>
  let c:=ch s L T
  let x:=c.2
  let y:=k x
  vf ch k u a b l c.1 (D.ad (D.ad (D.ac (x*x) L) p) (D.ac (y*y) T)) (D.fP y x (2^l.length) g) (D.fP x y (2^l.length) h)
def cm(H G:M)(c r:(Fin N)):M:=D.ad (D.ac c H) (D.ac r G)
end Md
end SPA
section
open SPA
variable {P:Nat}[NeZero P]{N:Nat}[NeZero N]
abbrev OnP(P:Nat)[NeZero P]:={p:EC.Pt P // EC.On p}
def aO(C:Fld P)(k:∀r:EC.Pt P,EC.On r->EC.mul N r=none):Md N (OnP P) where
 ad a b:=⟨EC.add a.1 b.1,C.cur.on a.2 b.2⟩
 zo:=⟨none,EC.iY⟩
 ac r a:=⟨EC.mul r.val a.1,EC.cU C.cur a.2 _⟩
 comm a b:=XF (C.cur.comm a.2 b.2)
 assoc a b c:=XF (C.cur.assoc a.2 b.2 c.2)
 zadd _:=rfl
 acAd r a b:=XF (wC C a.2 b.2 _)
 adAc r s a:=XF (by
  show EC.mul (r+s).val a.1=_;rw[yBT,mul_mod C k a.2,EC.mul_add C.cur a.2])
 acAc r s a:=XF (by
  show _=EC.mul (r*s).val a.1;rw[Xq,mul_mod C k a.2,Ut,EC.lY C.cur a.2])
 acOne a:=XF (by
  show EC.mul (1:Fin N).val a.1=_;rw[show(1:Fin N).val=1%N from rfl,mul_mod C k a.2];rfl)
 zac a:=XF (by
  show EC.mul (0:Fin N).val a.1=_;rw[show(0:Fin N).val=0%N from rfl,mul_mod C k a.2];rfl)
omit [NeZero N] in
theorem Di(a b:Fin N):(a+b).val=sPl N a.val b.val:=yBT a b
omit [NeZero N] in
theorem zU(a b:Fin N):(a*b).val=sTi N a.val b.val:=Xq a b
def ivF(a:Fin N):Fin N:=⟨sIn N a.val,Vm _ (XU N)⟩
structure Tl(N:Nat)(l:List (Nat × Bs))(X:OnP P):Prop where
 pts:PtsL P l
 lt:∀x∈l,x.1<N
 sum:fU P l=X.1
omit [NeZero N] in
theorem A7(C:Fld P):∀ {l m:List (Nat × Bs)},PtsL P l->PtsL P m->fU P (l++m)=EC.add (fU P l) (fU P m)
 | [],_,_,_=>rfl
 | x :: r,m,h,hm=>by
  have k:PtsL P r:=λz b=>h z (Uq _ b)
  show EC.add (EC.mul x.1 (gR P x.2)) (fU P (r++m))=EC.add (EC.add _ _) _;rw[A7 C k hm];exact(C.cur.assoc (EC.cU C.cur (h.on C Uz) _) (nV C k) (nV C hm)).symm
omit [NeZero N] in
theorem Ey(C:Fld P)(k:∀r:EC.Pt P,EC.On r->EC.mul N r=none)(n:Nat):∀ {l:List (Nat × Bs)},PtsL P l->fU P (l.map (tmT N n))=EC.mul n (fU P l)
 | [],_=>(EC.m8 n).symm
 | x :: r,h=>by
  have c:PtsL P r:=λz d=>h z (Uq _ d)
  have b:=h.on C (x:=x) Uz;show EC.add (EC.mul (sTi N n x.1) (gR P x.2)) (fU P (r.map (tmT N n)))=EC.mul n (EC.add (EC.mul x.1 (gR P x.2)) (fU P r));rw[Ey C k n c,wC C (EC.cU C.cur b _) (nV C c)];unfold sTi;rw[mul_mod C k b,Ut,EC.lY C.cur b]
section
variable (C:Fld P) (hord:∀r:EC.Pt P,EC.On r->EC.mul N r=none)
theorem Tl.nil:Tl N [] (aO C hord).zo:=⟨λ_ h=>(Ud h).elim,λ_ h=>(Ud h).elim,rfl⟩
theorem Tl.app{l m:List (Nat × Bs)}{X Y:OnP P}(h:Tl N l X)(k:Tl N m Y):Tl N (l++m) ((aO C hord).ad X Y):=
 ⟨λx b=>(WA.1 b).elim (h.pts x) (k.pts x),λx b=>(WA.1 b).elim (h.lt x) (k.lt x),by
  rw[A7 C h.pts k.pts,h.sum,k.sum];rfl⟩
theorem Tl.tm{l:List (Nat × Bs)}{X:OnP P}(h:Tl N l X)(n:Fin N):Tl N (l.map (tmT N n.val)) ((aO C hord).ac n X):=
 ⟨λx k=>by
  obtain⟨y,b,rfl⟩:=UM.1 k;exact h.pts y b,λx k=>by
  obtain⟨y,b,rfl⟩:=UM.1 k;exact Vm _ (XU N),by
  rw[Ey C hord n.val h.pts,h.sum];rfl⟩
omit [NeZero N] in
theorem Tl.one(C:Fld P)(b:1<N)(X:OnP P):Tl N [(1,wr X.1)] X:=
 ⟨λx k=>⟨X.1,X.2,by rw[XA.1 k]⟩,λx k=>by rw[XA.1 k];exact b,by
  show EC.add (EC.mul 1 (gR P (wr X.1))) none=_;rw[nT C X.2,EC.bF];rfl⟩
def eW(N:Nat)(a:Nat->Nat)(T:Nat->List (Nat × Bs)):Nat->List (Nat × Bs)
 | 0=>[]
 | n+1=>eW N a T n++(T n).map (tmT N (a n))
theorem Fj{a:Nat->Fin N}{T:Nat->List (Nat × Bs)}{g:Nat->OnP P}:∀n,(∀i,i<n->Tl N (T i) (g i))->Tl N (eW N (λi=>(a i).val) T n) ((aO C hord).dt a g n)
 | 0,_=>Tl.nil C hord
 | n+1,h=>(Fj n λi k=>h i oM).app C hord ((h n oM).tm C hord (a n))
theorem fB(N:Nat)(a:Nat->Nat){T:Nat->List (Nat × Bs)}{c:Nat}:∀n,(∀i,i<n->(T i).length=c)->(eW N a T n).length=c*n
 | 0,_=>rfl
 | n+1,h=>by
  show(eW N a T n++_).length=_;rw[TT,Uk,fB N a n (λi k=>h i oM),h n oM,XV]
def lG(N x y n:Nat)(T:Nat->List (Nat × Bs))(i:Nat):List (Nat × Bs):=(T i).map (tmT N x)++(T (n+i)).map (tmT N y)
theorem Mz{T:Nat->List (Nat × Bs)}{g:Nat->OnP P}(x y:Fin N)(n:Nat)(h:∀i,i<n+n->Tl N (T i) (g i))(i:Nat)(k:i<n):Tl N (lG N x.val y.val n T i) ((aO C hord).fP x y n g i):=
 ((h i oM).tm C hord x).app C hord ((h (n+i) oM).tm C hord y)
theorem Jl(N x y n:Nat){T:Nat->List (Nat × Bs)}{c:Nat}(h:∀i,i<n+n->(T i).length=c)(i:Nat)(k:i<n):(lG N x y n T i).length=c+c:=by
 unfold lG;rw[TT,Uk,Uk,h i oM,h (n+i) oM]
end
end
section
open SPA
variable {N:Nat}[NeZero N]
def ofF(N:Nat)[NeZero N](n:Nat):Fin N:=⟨n%N,Vm _ (XU N)⟩
theorem IV:ofF N 0=0:=Yx rfl
end
namespace SPA
variable {N:Nat}[NeZero N]{M:Type}
namespace Md
variable (D:Md N M)
structure Vs(S M:Type) where
 s:S
 p:M
 g:Nat->M
 h:Nat->M
structure Ps(S R M:Type) where
 s:S
 a:Nat->R
 b:Nat->R
 g:Nat->M
 h:Nat->M
section
variable {S:Type}(ch:S->M->M->S × (Fin N)) (iv:(Fin N)->(Fin N)) (u:M)
def Nc(n:Nat)(L T:M)(v:Vs S M):Vs S M:=
 let c:=ch v.s L T
 ⟨c.1,D.ad (D.ad (D.ac (c.2*c.2) L) v.p) (D.ac (iv c.2*iv c.2) T),D.fP (iv c.2) c.2 n v.g,D.fP c.2 (iv c.2) n v.h⟩
def vst(t:Nat)(L T:Nat->M)(v:Vs S M):Nat->Vs S M
 | 0=>v
 | i+1=>D.Nc ch iv (2^(t-(i+1))) (L i) (T i) (vst t L T v i)
def pL(n:Nat)(q:Ps S (Fin N) M):M:=D.lf q.a q.b q.g q.h u n
def pT(n:Nat)(q:Ps S (Fin N) M):M:=D.rt q.a q.b q.g q.h u n
def mY(n:Nat)(q:Ps S (Fin N) M):Ps S (Fin N) M:=
 let c:=ch q.s (D.pL u n q) (D.pT u n q)
 ⟨c.1,fS c.2 (iv c.2) n q.a,fS (iv c.2) c.2 n q.b,D.fP (iv c.2) c.2 n q.g,D.fP c.2 (iv c.2) n q.h⟩
def pst(t:Nat)(q:Ps S (Fin N) M):Nat->Ps S (Fin N) M
 | 0=>q
 | i+1=>D.mY ch iv u (2^(t-(i+1))) (pst t q i)
def pLi(t:Nat)(q:Ps S (Fin N) M)(i:Nat):M:=D.pL u (2^(t-(i+1))) (D.pst ch iv u t q i)
def pTi(t:Nat)(q:Ps S (Fin N) M)(i:Nat):M:=D.pT u (2^(t-(i+1))) (D.pst ch iv u t q i)
def hdP(n:Nat)(q:Ps S (Fin N) M):M:=D.hd q.a q.b q.g q.h u n
theorem beside(k:∀s L T,(ch s L T).2*iv (ch s L T).2=1)(t:Nat)(q:Ps S (Fin N) M):∀i,i<=t ->
 D.vst ch iv t (D.pLi ch iv u t q) (D.pTi ch iv u t q) ⟨q.s,D.hdP u (2^t) q,q.g,q.h⟩ i
  = ⟨(D.pst ch iv u t q i).s,D.hdP u (2^(t-i)) (D.pst ch iv u t q i),(D.pst ch iv u t q i).g,(D.pst ch iv u t q i).h⟩
 | 0,_=>rfl
 | i+1,hi=>by
  have b:=beside k t q i oM;show D.Nc ch iv _ _ _ (D.vst ch iv t _ _ _ i)=_;rw[b];have e:2^(t-i)=2^(t-(i+1))+2^(t-(i+1)):=by
   rw[show t-i=t-(i+1)+1 by omega,Vk];omega
  show(⟨_,_,_,_⟩:Vs S M)=⟨(D.mY ch iv u _ (D.pst ch iv u t q i)).s,D.hdP u _ (D.mY ch iv u _ (D.pst ch iv u t q i)),(D.mY ch iv u _ (D.pst ch iv u t q i)).g,(D.mY ch iv u _ (D.pst ch iv u t q i)).h⟩;unfold pLi pTi;generalize D.pst ch iv u t q i=r;rw[e];have h:=D.halved _ _ (k r.s (D.pL u (2^(t-(i+1))) r) (D.pT u (2^(t-(i+1))) r)) r.a r.b r.g r.h u (2^(t-(i+1)))
  congr 1
  exact h.symm
end
end Md
end SPA
section
open SPA
variable {P:Nat}[NeZero P]{N:Nat}[NeZero N]
def QN(a:Fin N):Fin N:=if a=0 then 1 else a
def mR(k b:List UInt8)(L X Y:Bs):Bs:=SP.kU (SP.kU L k X.toList) b Y.toList
def J3(N:Nat)[NeZero N](L:Bs):Fin N:=QN (ofF N (cha N L))
def iK(L:Bs):Bs:=SP.mD L [99,104,97,108,108,101,110,103,101]
def chF(N:Nat)[NeZero N](L:Bs)(X Y:OnP P):Bs × Fin N:=
 let k:=mR [108,101,102,116] [114,105,103,104,116] L (wr X.1) (wr Y.1)
 (iK k,J3 N k)
end
end Go.Proofs.YtjnchldodncnbaaGreat
