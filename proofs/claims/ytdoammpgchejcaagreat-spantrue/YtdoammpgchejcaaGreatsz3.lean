import Derived.Deep.RegionHeld3
import Derived.Deep.RegionWith
import Derived.Deep.LoopGhost
import Derived.Deep.CutRange
import Derived.Deep.DeepCutAuto
import Derived.Deep.OwnRows
import Derived.Great.BuildSlice
import Derived.Lib.LazyBuf
import Derived.Laws.AppendOwn
import Derived.Laws.IdiomCopy
import Derived.Lib.AppendZeros
import Derived.Deep.AppendSrc
import Derived.Lib.ConvBytes
import Derived.Laws.MathBits
import Derived.Test.YtdoammpgchejcaaGreatsz2
set_option linter.unusedVariables false
set_option linter.constructorNameAsVariable false
set_option linter.unusedSimpArgs false
set_option maxRecDepth 1000000
set_option maxHeartbeats 4000000
namespace Go.Proofs.YtdoammpgchejcaaGreat
open EC NT RG SP
open _root_.Array renaming all_eq_true'->WR,any_eq_true'->Xs,ext_getElem?->yAQ,getD_eq_getD_getElem?->UJ,getElem?_eq_getElem->UZ,getElem?_eq_some_iff->UY,getElem?_replicate->Xu,getElem?_setIfInBounds->WL,getElem?_toList->Vt,length_toList->UL,replicate->UM,size_append->VP,size_extract->XE,size_replicate->UO,size_setIfInBounds->Vz,toArray_toList->Yb,toList_replicate->XT
open _root_.Bool renaming and_eq_true->UN,or_eq_false_iff->yAG,or_eq_true->WV,true_or->XX
open _root_.Classical renaming byContradiction->WB
open _root_.Fin renaming ext->Yi,ofNat->Xr,val_add->yAO,val_mul->XO
open _root_.Go renaming Addr->Wv,Calls->UK,Exit->X9,FuncId->Xl,Oper->Vk,Operand->XM,Program->VD,Tmp->WF,TypeId->Vb,Value->Uv,World->Ut,bodyPost_ret->UH,execOp->U9,run_append_own->Yv,run_loadVar_mid->Y2,run_underlying->Yn,size_madeCells->Zp,undef->WJ,wpList_load_mid->U8,wpList_plain->Xd,wpList_store_mid->U3,wpOp_mono->X8,wp_cond_false->VJ,wp_cond_true->VH,wp_region_any->Z5,wp_ret->Wy,wp_seq->UC,wp_skip->WQ
open _root_.Go.Act renaming put->UR
open _root_.Go.Addr renaming add->Zr
open _root_.Go.Builtin renaming append_->Vx,clear_->yAV,zeroCells->WC
open _root_.Go.Code renaming region->V3
open _root_.Go.Instr renaming arrayAt->yBC,box->Vh,build->Y0,buildSlice->VF,findAsking->yA4,findKey->yBB,indexAt->Vj,lookup->yAu,makeSlice->Xx,mapUpdate->Zf,sliceAt->Xw,sureAddr->Yy
open _root_.Go.IntKind renaming i64->VY,wrap_i64->Yp
open _root_.Go.Lib renaming run_append_nil_zeros->yAt,wpList_append_run->WG
open _root_.Go.Next renaming value->Xq
open _root_.Go.Oper renaming semAt_some->yAc,upon_enter->WU,wp->VT
open _root_.Go.Region renaming binds->VM,ready->U7,wanted->V5
open _root_.Go.Result renaming andThen_ok->Vr
open _root_.Go.RowKit.Below renaming heap_alloc->yA2,refl->UT
open _root_.Go.RowKit.Hid renaming out->Zq
open _root_.Go.Sem renaming run->yBT,run_bind->UW,run_pure->WA
open _root_.Go.Value renaming agg->U5
open _root_.Go.World renaming cell?->V1,cell?_of_block->U0,frozen?->Xe,frozen?_of_block->VR,ownsRow_made->yAM,ownsRow_nil->ZD,putObj->yAq,rangeAt_setCells_apart->Vq,rangeAt_setCells_same->VZ,size_alloc->UD,there->yBL,there_setCells->V7
open _root_.Int renaming natCast_add->Z4,natCast_mul->XD,toNat_natCast->YF
open _root_.List renaming all_eq_true->Va,append_nil->XC,cons_append->Xv,countP_replicate->Zk,drop->Xo,drop_eq_getElem_cons->yAe,drop_length->ZZ,eq_nil_iff_forall_not_mem->YE,ext_getElem?->Zb,filter_sublist->yAL,finRange->yBE,flatMap_append->YM,flatMap_cons->ZI,getElem?_append_left->UX,getElem?_append_right->U4,getElem?_eq_getElem->UI,getElem?_eq_none->WE,getElem?_eq_some_iff->UG,getElem?_map->Vy,getElem?_of_mem->WS,getElem?_range->Zy,getElem?_take->WI,getElem?_toArray->Vm,getElem_cons_succ->yAy,getElem_mem->VI,length_append->UB,length_cons->Vg,length_filter_le->yAA,length_map->US,length_range->X5,length_take->WN,map_append->Wx,map_cons->X4,map_nil->yBI,map_toArray->yA9,mem_append->Ww,mem_cons->V0,mem_cons_of_mem->Vd,mem_cons_self->Vo,mem_filter->Zg,mem_finRange->yA0,mem_flatMap->ZP,mem_map->Vn,mem_of_mem_take->yAB,mem_range->VS,mem_singleton->WT,mem_toArray->XL,nodup_cons->X1,nodup_finRange->Zt,not_mem_nil->U1,pairwise_map->yAZ,prefix_rfl->yBi,range->VB,range_succ->YJ,setIfInBounds_toArray->Uu,set_cons_succ->Uw,set_cons_zero->Ux,size_toArray->VE,take->Xn,take_add_one->yAY,take_length->ZO
open _root_.List.Pairwise renaming imp->yAa
open _root_.Nat renaming add_comm->yAS,add_mod->Ze,add_zero->Xm,div_add_mod->YT,le_add_right->Zh,le_of_ble_eq_true->VX,le_refl->Uy,le_trans->UE,lt_of_lt_of_le->Uz,lt_of_succ_le->Xt,lt_or_ge->VV,lt_succ_self->XZ,mod_eq_of_lt->UU,mod_lt->V6,mul_comm->Vv,mul_le_mul->WP,mul_le_mul_left->XU,mul_le_mul_right->WX,mul_mod->Xz,mul_succ->Yk,mul_zero->Zn,ne_of_gt->Wp,pos_of_neZero->Yc,pow_succ->V8,reduceAdd->VO,sub_self->YH,sub_zero->Y8,zero_add->UF,zero_le->Wz,zero_mod->YO
open _root_.Ne renaming symm->YL
open _root_.Option renaming isSome_iff_exists->Vu,map_eq_some_iff->UA,some->UP
open _root_.Or renaming inl->U6,inr->U2
open _root_.Prod renaming fst->ZG,mk->We,snd->ZF
open _root_.Subtype renaming ext->Yz
open _root_.UInt8 renaming ofNat->UQ
open Go.Proofs.Tryz
variable {b:Bs}{U:List (Nat × Bs)}{vs xs ys:List Uv}{B d e id:Nat}{H:Nat->List (Nat × Bs)}{r:Pt P}
section
open Go.RowKit Go.Sort Go.Deep
variable {P:Nat}[NeZero P]{N:Nat}
theorem kB{w W:Ut}{k b c:Nat}(h:Kept w k [⟨k,0,b,c,d,0⟩,⟨e,0,0,0,0,0⟩] W):W.cell? ⟨k,0,none⟩=some (uZ b)/\W.cell? ⟨k,1,none⟩=some (uZ c)/\W.cell? ⟨k,2,none⟩=some (uZ d)/\W.cell? ⟨k,3,none⟩=some (uZ 0)/\Kept w k [⟨k,0,b,c,d,0⟩,⟨e,0,0,0,0,0⟩] W:=⟨h.head.c0,h.head.c1,h.head.c2,h.head.c3,h⟩
theorem kT{w W:Ut}{k b c:Nat}(h:W.cell? ⟨k,0,none⟩=some (uZ b)/\W.cell? ⟨k,1,none⟩=some (uZ c)/\W.cell? ⟨k,2,none⟩=some (uZ d)/\W.cell? ⟨k,3,none⟩=some (uZ 0)/\Kept w k [⟨k,0,b,c,d,0⟩,⟨e,0,0,0,0,0⟩] W):Kept w k [⟨k,0,b,c,d,0⟩,⟨e,0,0,0,0,0⟩] W:=h.2.2.2.2
theorem Ds{w W:Ut}{k b c:Nat}{o:Obj}(h:W.cell? ⟨k,0,none⟩=some (uZ b)/\W.cell? ⟨k,1,none⟩=some (uZ c)/\W.cell? ⟨k,2,none⟩=some (uZ d)/\W.cell? ⟨k,3,none⟩=some (uZ 0)/\Kept w k [⟨k,0,b,c,d,0⟩,⟨e,0,0,0,0,0⟩] W):(W.alloc o).cell? ⟨k,0,none⟩=some (uZ b)/\(W.alloc o).cell? ⟨k,1,none⟩=some (uZ c)/\(W.alloc o).cell? ⟨k,2,none⟩=some (uZ d)/\(W.alloc o).cell? ⟨k,3,none⟩=some (uZ 0)/\Kept w k [⟨k,0,b,c,d,0⟩,⟨e,0,0,0,0,0⟩] (W.alloc o):=kB ((kT h).alloc o)
theorem BW{w W:Ut}{k b c:Nat}{o:Obj}(h:W.drew.cell? ⟨k,0,none⟩=some (uZ b)/\W.drew.cell? ⟨k,1,none⟩=some (uZ c)/\W.drew.cell? ⟨k,2,none⟩=some (uZ d)/\W.drew.cell? ⟨k,3,none⟩=some (uZ 0)/\Kept w k [⟨k,0,b,c,d,0⟩,⟨e,0,0,0,0,0⟩] W.drew):(W.alloc o).drew.cell? ⟨k,0,none⟩=some (uZ b)/\(W.alloc o).drew.cell? ⟨k,1,none⟩=some (uZ c)/\(W.alloc o).drew.cell? ⟨k,2,none⟩=some (uZ d)/\(W.alloc o).drew.cell? ⟨k,3,none⟩=some (uZ 0)/\Kept w k [⟨k,0,b,c,d,0⟩,⟨e,0,0,0,0,0⟩] (W.alloc o).drew:=kB (((kT h).undrew).alloc o).drew
theorem xM{w:Ut}{g o:Nat}{k:Bs}(p l:Nat)(h:Holds encB w g o k)(c:p+l<=k.size):Holds encB w g (o+p) (k.extract p (p+l)):=by
 refine Holds.part h (by rw[XE];omega) (λj b=>?_);rw[XE]at b;rw[getElem!_pos (k.extract p (p+l)) j (by rw[XE];omega),getElem!_pos k (p+j) oM,Array.getElem_extract]
theorem Cs{w:Ut}{g o:Nat}{k:Bs}(f:Nat)(h:Holds encB w g o k)(hf:f<=k.size):Holds encB w g o (k.extract 0 f):=by
 have:=xM 0 f h oM;rwa[UF,Xm]at this
def RedR(w:Ut)(e f g j l N:Nat)(s6:Uv)(i:Ut):Prop:=
 ∃k a b c d:Nat,s6=jZ k/\Kept w e [⟨k,0,a,b,c,d⟩,⟨e,0,g,j,l,0⟩,⟨f,0,0,0,0,0⟩] i/\k≠e/\k≠f/\e<=k /\
  Hid (Four (.agg #[uZ a,uZ b,uZ c,uZ d]) N)
theorem RedR.made{w k:Ut}{f l g i j N a b c:Nat}(e:Kept w f [⟨f,0,g,i,j,0⟩,⟨l,0,0,0,0,0⟩] k)(m:Hid (Four (.agg #[uZ a,uZ b,uZ c,uZ d]) N)):
 RedR w f l g i j N (jZ k.heap.size) (k.alloc (.cells #[uZ a,uZ b,uZ c,uZ d] 118)):=
 ⟨k.heap.size,a,b,c,d,rfl,(e.alloc _).cons (At4.made k 118 a b c d rfl).blk,Wp e.head.lt,Wp e.tail.head.lt,e.le,m⟩
theorem RedR.put{w l:Ut}{j k f g i N a b c x y z u:Nat}(o:Kept w e [⟨e,0,f,g,i,0⟩,⟨j,0,0,0,0,0⟩] l)(T:At4 l k x y z u)(n:e<=k)(m:∀x∈([⟨e,0,f,g,i,0⟩,⟨j,0,0,0,0,0⟩]:List Blk),x.k<k)(p:Hid (Four (.agg #[uZ a,uZ b,uZ c,uZ d]) N)):
 RedR w e j f g i N (jZ k) ((((l.setCell (aZ k) (uZ a)).setCell ⟨k,1,none⟩ (uZ b)).setCell ⟨k,2,none⟩ (uZ c)).setCell ⟨k,3,none⟩ (uZ d)):=
 ⟨k,a,b,c,d,rfl,(o.set4' n (λx hx=>Wp (m x hx)) _ _ _ _).cons (T.self4 a b c d).blk,Wp (m ⟨e,0,f,g,i,0⟩ (by simp)),Wp (m ⟨j,0,0,0,0,0⟩ (by simp)),n,p⟩
theorem IG{P:Nat}(k:Bs)(p:Nat)(d:p+32<=k.size):(beV (k.extract p (p+32)).toList+top*(beV (k.extract 0 p).toList%P))%P=beV (k.extract 0 (p+32)).toList%P:=by
 have e:(k.extract 0 (p+32)).toList=(k.extract 0 p).toList++(k.extract p (p+32)).toList:=by
  rw[<-Array.toList_append,Array.extract_append_extract,Nat.min_eq_left oM,Nat.max_eq_right oM]
 have b:(k.extract p (p+32)).toList.length=32:=by rw[UL,XE];omega
 have c:256^32=top:=by unfold top;decide
 rw[e,jR,b,c,yAS,Ze,Xz,Nat.mod_mod,<-Xz,<-Ze,Vv]
theorem CZ(g0 g1 g2 P g o n cap : Nat)(bs : Bs)(hG : Gap g0 g1 g2 P)(w : Ut)(hs : bs.size = n)(hc : n <= cap)(hg : g < w.heap.size)(hB : Holds encB w g o bs):
    UK prog 229 #[.agg #[.int .u64 (g0 : Int), .int .u64 (g1 : Int), .int .u64 (g2 : Int), .int .u64 0], .slice (some ⟨g, o, none⟩) n cap] w (Ret λe w' => Below w.heap.size w w' /\ Four e (beV bs.toList % P)) := by
  obtain⟨f, hf⟩ : ∃f, f = n % 32 := ⟨_, rfl⟩;have hf32 : f < 32 := oM;have hfn : f <= n := oM;have e1 : (n : Int) % 32 = (f : Int) := oM;have e2 : (f : Int) <= (cap : Int) := oM;have e3 : (f : Int) <= (n : Int) := oM;have e4 : f <= cap := oM;have hsz0 : (bs.extract 0 f).size = f := by rw [XE]; omega
  have Hf : Hid (f = n % 32) := hf;have HS : Hid ((bs.extract 0 f).size = f) := hsz0;have hbs : f <= bs.size := oM;have HSZ : Hid (bs.size = n) := hs;have HG : Hid (Gap g0 g1 g2 P) := hG;clear hf hsz0 hG;go_enter func229, ntmps229
  go_upto_region 2 with fail
  rw [e1];clear e1;have PR := (At4.made w 120 g0 g1 g2 0 rfl).alloc (.cells #[.int .u64 0, .int .u64 0, .int .u64 0, .int .u64 0] 47);have RE := At4.made (w.alloc (.cells #[.int .u64 (g0 : Int), .int .u64 (g1 : Int), .int .u64 (g2 : Int), .int .u64 0] 120)) 47 0 0 0 0 (UD _ _);have KP := ((Kept.mk1 (below2 w (.cells #[.int .u64 (g0 : Int), .int .u64 (g1 : Int), .int .u64 (g2 : Int), .int .u64 0] 120) (.cells #[.int .u64 0, .int .u64 0, .int .u64 0, .int .u64 0] 47)) (below2 w (.cells #[.int .u64 (g0 : Int), .int .u64 (g1 : Int), .int .u64 (g2 : Int), .int .u64 0] 120) (.cells #[.int .u64 0, .int .u64 0, .int .u64 0, .int .u64 0] 47)).size).cons RE.blk).cons PR.blk;clear PR RE;generalize World.alloc _ _ = W0 at KP⊢;generalize h1 : w.heap.size + 1 = k1 at KP⊢;have Q1 : Hid (w.heap.size <= k1) := by unfold Hid; omega
  generalize h0 : w.heap.size = k0 at KP Q1 hg⊢;have n01 : k0 ≠ k1 := oM;have H0 : Hid (w.heap.size = k0) := h0;have HBS : Hid (Holds encB w g o bs) := hB;clear h0 h1 hB hs
  go_cut [6] (λs6 wx => RedR w k0 k1 g0 g1 g2 (beV (bs.extract 0 f).toList % P) s6 wx)
  case first =>
    go_region_held3 (λw' => w'.cell? ⟨k0, 0, none⟩ = some (.int .u64 (g0 : Int)) /\ w'.cell? ⟨k0, 1, none⟩ = some (.int .u64 (g1 : Int)) /\ w'.cell? ⟨k0, 2, none⟩ = some (.int .u64 (g2 : Int)) /\ w'.cell? ⟨k0, 3, none⟩ = some (.int .u64 0) /\ Kept w k0 [⟨k0, 0, g0, g1, g2, 0⟩, ⟨k1, 0, 0, 0, 0, 0⟩] w') (first | (with_reducible exact kB KP) | (with_reducible exact kB KP.drew) | (with_reducible exact BW (by assumption)) | (with_reducible exact Ds (by assumption)) | (with_reducible exact kB (KP.alloc _)) | (with_reducible exact kB (KP.set4' M7 (λx hx => Wp (N7 x hx)) _ _ _ _)) | (with_reducible exact kB (KP.alloc _).drew) | (with_reducible exact kB (KP.set4' M7 (λx hx => Wp (N7 x hx)) _ _ _ _).drew) | fail) (first | (go_at_call 125; refine(kM (some ⟨g, o, none⟩) g o f cap (bs.extract 0 f) _ (Nat.le_of_lt hf32) e4 HS.out (U2 ⟨rfl, Cs f (Holds.below HBS.out (kT (by assumption)).bl hg) hbs⟩)).mono ?_; rintro e w1 ⟨v, rfl, hb1, hF1⟩; obtain⟨a1, b1, c1, d1, rfl, ha1, hb1', hc1, hd1, es1⟩ := id hF1; clear es1; have HF1 : Hid (Four _ _) := hF1; clear hF1; (try(with_reducible have T1 := T.call hb1; clear T; have T := T1; clear T1)); (try(first | (with_reducible have T := (At4.made _ 118 0 0 0 0 rfl).call hb1) | (with_reducible have T := (At4.made _ 118 0 0 0 0 rfl).drew.call hb1)); have N7 := KP.lts; have M7 := KP.le); have KP1 := Kept.call (kT (by assumption)) hb1; clear KP; have KP := KP1; clear KP1 hb1) | (go_at_call 127; refine(jP _ _ HF1.out _).mono ?_; rintro e w1 ⟨v, rfl, hb1, rfl⟩; (try(with_reducible have T1 := T.call hb1; clear T; have T := T1; clear T1)); (try(first | (with_reducible have T := (At4.made _ 118 0 0 0 0 rfl).call hb1) | (with_reducible have T := (At4.made _ 118 0 0 0 0 rfl).drew.call hb1)); have N7 := KP.lts; have M7 := KP.le); have KP1 := Kept.call (kT (by assumption)) hb1; clear KP; have KP := KP1; clear KP1 hb1) | (go_at_call 235; refine(xT g0 g1 g2 _ _ _ _ P HG.h0 HG.h1 HG.h2 HG.hor HG.hP HG.hP2 HF1.out (Four.mk (a := 0) (b := 0) (c := 0) (d := 0) dC dC dC dC rfl) _).mono ?_; rintro e w1 ⟨v, rfl, hb1, hF3⟩; obtain⟨a', b', c', d', rfl, ha', hb', hc', hd', es3⟩ := id hF3; clear es3; have HF3 : Hid (Four _ _) := hF3; clear hF3; (try(with_reducible have T1 := T.call hb1; clear T; have T := T1; clear T1)); (try(first | (with_reducible have T := (At4.made _ 118 0 0 0 0 rfl).call hb1) | (with_reducible have T := (At4.made _ 118 0 0 0 0 rfl).drew.call hb1)); have N7 := KP.lts; have M7 := KP.le); have KP1 := Kept.call (kT (by assumption)) hb1; clear KP; have KP := KP1; clear KP1 hb1; (try(obtain⟨tc0, tc1, tc2, tc3, tf⟩ := id T; have zt := T.lt))))
    all_goals (try go_wp2)
    all_goals (rw [show val 0 0 0 0 = 0 from rfl, Zn, Xm]at HF3)
    all_goals (go_meet; first | (with_reducible exact RedR.made KP HF3) | (with_reducible exact(RedR.made KP HF3).drew) | (with_reducible exact RedR.put KP T M7 N7 HF3) | (with_reducible exact(RedR.put KP T M7 N7 HF3).drew) | fail)
  case rest =>
    clear KP;obtain⟨k6, a, b, c, d, rfl, KP, n60, n61, M6, HF⟩ := hcut;have f0 : (0 : Int) <= (f : Int) := Int.natCast_nonneg _
    go_upto_region 3 with fail
    go_cut [1] (λs1 wx => ∃q : Nat, s1 = .slice (some ⟨g, q, none⟩) (n - f) (cap - f) /\ Hid (0 < n - f -> q = o + f) /\ Kept w k0 [⟨k6, 0, a, b, c, d⟩, ⟨k0, 0, g0, g1, g2, 0⟩, ⟨k1, 0, 0, 0, 0, 0⟩] wx)
    case first =>
      by_cases ec : cap = f
      · have en : n = f := oM
        have HEN : Hid (n = f /\ cap = f) := ⟨en, ec⟩;go_wp2
        go_meet
        refine⟨o, ?_, λh => ?_, KP⟩
        · rw [HEN.1, HEN.2]; try simp
        · have := HEN.1; omega
      · go_wp2
        go_meet
        exact⟨o + f, rfl, λ_ => rfl, KP⟩
    case rest =>
    clear KP;obtain⟨q0, rfl, HQ0, KP⟩ := hcut;go_wp2_with fail
    go_loopg [1] (n - f) (λgk s1 wr => ∃(l q lc a b c d : Nat), gk = l /\ l <= n /\ s1 = .slice (some ⟨g, q, none⟩) l lc /\ Hid (l % 32 = 0 /\ (0 < l -> q = o + (n - l)) /\ lc = cap - (n - l)) /\ Kept w k0 [⟨k6, 0, a, b, c, d⟩, ⟨k0, 0, g0, g1, g2, 0⟩, ⟨k1, 0, 0, 0, 0, 0⟩] wr /\
      Hid (Four (.agg #[.int .u64 (a : Int), .int .u64 (b : Int), .int .u64 (c : Int), .int .u64 (d : Int)]) (beV (bs.extract 0 (n - l)).toList % P)))
    case atStart =>
      refine⟨n - f, q0, cap - f, a, b, c, d, rfl, oM, rfl, ⟨by have := Hf.out; omega, λh => by have := HQ0.out h; omega, oM⟩, KP, ?_⟩;rw [show n - (n - f) = f by omega];exact HF
    case round =>
      clear KP HF;obtain⟨l, q, lc, a, b, c, d, hgk, hln, rfl, HQ3, KP, HF⟩ := hrel;clear e2 e3 e4 f0 hbs HS hf32 hfn HQ0;have hlcl : l <= lc := by have := HQ3.out; omega
      by_cases h0 : l = 0
      · subst h0
        obtain⟨xc0, xc1, xc2, xc3, xf⟩ := KP.head.at4;have z7 := KP.head.lt;go_wp2_with fail
        refine(jK _ _ HF.out _).mono ?_;rintro e w3 ⟨v, rfl, hb3, rfl⟩;have KP3 := KP.call hb3;clear hb3 xc0 xc1 xc2 xc3 xf z7 KP;obtain⟨rc0, rc1, rc2, rc3, rf⟩ := KP3.tail.tail.head.at4;have z3 := KP3.tail.tail.head.lt;go_wp2;have RF := KP3.tail.tail.head.at4.self4 a b c d;unfold set4 at RF;refine UH (v := ?v) ?hr rfl ?hR
        case hr => simp [results, Tryz.results229, go_sem, RF.c0, RF.c1, RF.c2, RF.c3]; rfl
        refine⟨_, rfl, ?_, ?_⟩
        · rw [H0.out]
          exact aL KP3.bl Q1.out _ _ _ _
        · have := HF.out
          rw [Y8, <-HSZ.out, Array.extract_size]at this;exact this
      · have h32 : 32 <= l := by have := HQ3.out; omega
        have HQ : Hid (o + (n - l) = q) := (HQ3.2.1 oM).symm;have h32c : 32 <= lc := oM;have i1 : (32 : Int) <= (lc : Int) := oM;have i2 : (32 : Int) <= (l : Int) := oM;have i3 : (0 : Int) < (l : Int) := oM;have HSL : Hid (n - l + 32 <= bs.size) := by unfold Hid; have := HSZ.out; omega
        have HS3 : Hid ((bs.extract (n - l) (n - l + 32)).size = 32) := by unfold Hid; rw [XE]; have := HSL.out; omega
        obtain⟨tc0, tc1, tc2, tc3, tf⟩ := KP.head.at4;have zt := KP.head.lt;obtain⟨pc0, pc1, pc2, pc3, pf⟩ := KP.tail.head.at4;have hl6 : ∀x ∈ ([⟨k0, 0, g0, g1, g2, 0⟩, ⟨k1, 0, 0, 0, 0, 0⟩] : List Blk), k6 ≠ x.k := by simp only [V0, U1, or_false]; rintro x (rfl | rfl); exact n60; exact n61
        have HFF : Hid (_ = _) := IG (P := P) bs (n - l) HSL.out;go_wp2_with fail
        go_region_with (first | (go_at_call 125; refine(kM (some ⟨g, q, none⟩) g q 32 lc (bs.extract (n - l) (n - l + 32)) _ (Uy 32) h32c HS3.out (U2 ⟨rfl, HQ.out ▸ xM (n - l) 32 (by first | (with_reducible exact Holds.below HBS.out KP.bl hg) | (with_reducible exact Holds.below HBS.out KP.drew.bl hg) | fail) HSL.out⟩)).mono ?_; rintro e w1 ⟨v, rfl, hb1, hF1⟩; obtain⟨a1, b1, c1, d1, rfl, ha1, hb1', hc1, hd1, es1⟩ := id hF1; clear es1; have HF1 : Hid (Four _ _) := hF1; clear hF1; (first | (with_reducible have KP1 := KP.call hb1) | (with_reducible have KP1 := KP.drew.call hb1) | fail); clear KP; have KP := KP1; clear KP1 hb1; obtain⟨tc0, tc1, tc2, tc3, tf⟩ := KP.head.at4; have zt := KP.head.lt; obtain⟨pc0, pc1, pc2, pc3, pf⟩ := KP.tail.head.at4) | (go_at_call 127; refine(jP _ _ HF1.out _).mono ?_; rintro e w1 ⟨v, rfl, hb1, rfl⟩; (first | (with_reducible have KP1 := KP.call hb1) | (with_reducible have KP1 := KP.drew.call hb1) | fail); clear KP; have KP := KP1; clear KP1 hb1; obtain⟨tc0, tc1, tc2, tc3, tf⟩ := KP.head.at4; have zt := KP.head.lt; obtain⟨pc0, pc1, pc2, pc3, pf⟩ := KP.tail.head.at4) | (go_at_call 235; refine(xT g0 g1 g2 _ _ _ _ P HG.h0 HG.h1 HG.h2 HG.hor HG.hP HG.hP2 HF1.out HF.out _).mono ?_; rintro e w1 ⟨v, rfl, hb1, hF3⟩; obtain⟨a', b', c', d', rfl, ha', hb', hc', hd', es3⟩ := id hF3; clear es3; have HF3 : Hid (Four _ _) := hF3; clear hF3; (first | (with_reducible have KP1 := KP.call hb1) | (with_reducible have KP1 := KP.drew.call hb1) | fail); clear KP; have KP := KP1; clear KP1 hb1; obtain⟨tc0, tc1, tc2, tc3, tf⟩ := KP.head.at4; have zt := KP.head.lt; obtain⟨pc0, pc1, pc2, pc3, pf⟩ := KP.tail.head.at4))
        all_goals (rw [HFF.out]at HF3)
        all_goals (by_cases i4 : lc = 32)
        all_goals (try go_wp2)
        all_goals
          (go_roundg (l - 32)
           case measure => omega
           case rel =>
            first
              | refine⟨l - 32, q + 32, lc - 32, a', b', c', d', rfl, oM, rfl, ⟨by have := HQ3.out; omega, λ_ => by have := HQ.out; omega, by have := HQ3.out; omega⟩, ?_, ?_⟩
              | refine⟨l - 32, q, lc - 32, a', b', c', d', rfl, oM, by first | rfl | (rw [i4]), ⟨by have := HQ3.out; omega, λh => oM, by have := HQ3.out; omega⟩, ?_, ?_⟩
              | fail
            · first | (with_reducible exact KP.put M6 hl6 a' b' c' d') | (with_reducible exact(KP.put M6 hl6 a' b' c' d').drew) | fail
            · rw [show n - (l - 32) = n - l + 32 by omega]; exact HF3)
def sPl(N a b:Nat):Nat:=(a+b)%N
theorem LO(O:Ord N){a b:Nat}(c:a<N)(k:b<N):Gives 155 #[gv1,nv a,nv b] (nv (sPl N a b)):=λw =>
 (CY _ _ _ N _ _ a b O.gap (O.four c) (O.four k) c k w).mono (by rintro e w' ⟨v,rfl,k,d⟩;exact⟨_,rfl,k,d.nv⟩)
theorem mX(O:Ord N)(a b:Nat)(e:a<N)(c:b<N):Gives 80 #[(nv a),(nv b)] (nv (sPl N a b)):=by
 intro w;go_enter func80,ntmps80;refine RG.M.enter [(0,.v (nv a)),(1,.v (nv b))] 12 kR ?_;intro a0 f;repeat refine UC ?_
 refine f.T [.m 0,.m 1,.m 2] [(0,wn a),(1,wn b),(2,RG.z 4)] [] [wn a,wn b,RG.z 4] [2,3,4] ⟨mk 0 49,mk 1 49,mk 2 49,yCm⟩ ?_;intro l n g j i d;repeat refine UC ?_
 refine d.D [.c gv1,.s (.p 0 0),.x (nv a),.s (.p 1 0),.x (nv b),.c (nv (sPl N a b)),.x (nv (sPl N a b)),.u 2] [] [(2,7,wn (sPl N a b))] [wn a,wn b,wn (sPl N a b)] [4] ⟨cl fJ,st,ld u38 i38,st,ld u38 i38,cl (LO O e c),st,RG.pt i40,yCm⟩ ?_;intro a2 m k;refine Wy ?_;refine UH (v:=(nv (sPl N a b))) (aI k.st 4 49 rfl 2 _ rfl (k.at (s:=(.p 2 0))) u40 i40) k.sl.defers ?_;exact⟨_,rfl,k.st.bel.below,rfl⟩
def oS(N:Nat)(k:Bs):Nat:=beV k.toList%N
def Qq(v:Uv)(n:Nat):List It:=[.c 3 [] gv1,.x 4 [] v,.c 5 [(3,0),(4,1)] (nv n),.x 6 [(5,2)] (nv n),.u [(6,3)] 0]
theorem zL(O:Ord N)(g:Nat)(k:Bs)(i:k.size=64)(w:Ut)(f:g<w.heap.size)(l:Holds encB w g 0 k):UK prog 197 #[sZ g 64 64] w (rZ w λe w'=>e=nv (oS N k)):=by
 have m:∀w',BelX w.heap.size [] w w'->UK prog 229 #[gv1,sZ g 64 64] w' (Ret λe b=>kZ w' b/\e=nv (oS N k)):=λw' c =>
  (CZ _ _ _ N g 0 64 64 k O.gap w' i (Uy _) (Uz f c.below.size) (Holds.below l c.below f)).mono (by rintro e b ⟨v,rfl,c,d⟩;exact⟨_,rfl,c,d.nv⟩)
 go_enter func197,ntmps197;refine RG.M.enter [(0,.v (sZ g 64 64))] 7 kR ?_;intro a0 n;repeat refine UC ?_
 refine n.T [.m 0] [(0,RG.z 4)] [] [RG.z 4] [0,2] ⟨mk 0 49,yCm⟩ ?_;intro q r p j;repeat refine UC ?_
 refine j.t (Qq (sZ g 64 64) (oS N k)) [] [(0,4,wn (oS N k))] [wn (oS N k)] [(2,.p 0 0)] ⟨cl fJ,st,clB (λ_ _=>kR) m,st,RG.pt i40,yCm⟩ ?_;intro a2 o d;refine Wy ?_;refine UH (v:=(nv (oS N k))) (aI d.st 2 49 rfl 0 _ rfl (d.at (s:=(.p 0 0))) u40 i40) d.sl.defers ?_;exact⟨_,rfl,d.st.bel.below,rfl⟩
theorem uS(O:Ord N)(k:Bs):oS N k<N:=V6 _ O.pos
def chL(N:Nat)(k:List UInt8)(b:List (List UInt8)):Nat:=oS N (qL (oR k b).toList 64)
theorem aE(w:Ut)(c:List Uv)(T:Vb):Row (w.alloc (.cells c.toArray T)) w.heap.size c:=
 have h:=Made.alloc w c T
 ⟨h.lt,h.range,h.there⟩
theorem aM(n:Nat):(wn n).toArray.all (·.oneCell')=true:=kR
theorem Ih(O:Ord N)(f:Nat)(T:Bs)(w:Ut)(r:T.size=32)(q:Holds encB w f 0 T):
 UK prog 128 #[sZ f 32 32] w (rZ w λe w'=>e=nv (oS N (qL T.toList 64))):=by
 obtain⟨S,t⟩:∃S,Hid (qL T.toList 64=S):=⟨_,rfl⟩
 have s:S.size=64:=by rw[<-t.out];exact zI _ _
 rw[t.out];obtain⟨d,b⟩:∃d,Hid (w.alloc (.cells #[uZ 0,uZ 0,uZ 0,uZ 0] 49)=d):=⟨_,rfl⟩
 have j:Hid (Row d w.heap.size [uZ 0,uZ 0,uZ 0,uZ 0]/\kZ w d/\Holds encB d f 0 T):=by rw[<-b.out];exact⟨aE w _ _,aC w _,Holds.below q (aC w _) (Holds.lt q oM)⟩
 clear q;go_enter func128,ntmps128;go_wp2_with fail
 rw[b.out];clear b;refine(yV (some (aZ f)) f 0 32 32 64 T d dC r (Uy _) dC (U2 ⟨rfl,j.2.2⟩)).mono ?_;rintro e l ⟨y,rfl,B,x,p⟩;rw[t.out]at p;have c:Hid (Row l w.heap.size [uZ 0,uZ 0,uZ 0,uZ 0]/\kZ w l/\Holds encB l y 0 S):=⟨j.1.below x,j.2.1.trans (x.mono j.2.1.size),p⟩
 clear B x p j;go_wp2_with fail
 refine(zL O y S s l (Holds.lt c.2.2 oM) c.2.2).mono ?_;rintro e u ⟨v,rfl,k,rfl⟩;have o:Hid (Row u w.heap.size [uZ 0,uZ 0,uZ 0,uZ 0]/\kZ w u):=⟨c.1.below k,c.2.1.trans (k.mono c.2.1.size)⟩
 clear k c;obtain⟨m,A⟩:∃m,Hid (oS N S=m):=⟨_,rfl⟩
 rw[A.out];obtain⟨n,i⟩:∃n,Hid (u.setCells w.heap.size 0 (wn m)=n):=⟨_,rfl⟩
 have z:Hid (Row n w.heap.size (wn m)/\kZ w n):=by rw[<-i.out];exact⟨o.1.put rfl,RG.below_setCells (Uy _) _ _ _ o.2⟩
 obtain⟨a,g⟩:∃a,Hid (nv m=a):=⟨_,rfl⟩
 rw[g.out];go_wp2_with (refine U3 rfl 49 _ _ rfl w.heap.size 0 (wn m).toArray ?_ ?_ ?_ ?_ ?_ ?_;rfl;exact g.symm;exact o.1.2.2;exact i40;exact aM m;rw[show(wn m).toArray.toList=wn m from rfl,i.out])
 refine UH (aG 2 49 rfl z.1 rfl u40 i40) rfl ?_;exact⟨_,rfl,z.2,by rw[A.out];rfl⟩
theorem CE(O:Ord N)(k:ByteArray)(s:Option Wv)(n cap:Nat)(i:List (List UInt8))(w:Ut)(j:k.size<=1048576)(I:i.length=n)(l:n<=1048576)(C:PartsOk w s i):
 UK prog 60 #[.string k,.slice s n cap] w (rZ w λe w'=>e=nv (chL N k.data.toList i)):=by
 obtain⟨T,y⟩:∃T,Hid (oR k.data.toList i=T):=⟨_,rfl⟩
 have z:T.size=32:=by rw[<-y.out];exact fD _ _
 have E:chL N k.data.toList i=oS N (qL T.toList 64):=by unfold chL;rw[y.out]
 rw[E];clear E;obtain⟨c,g⟩:∃c,Hid (w.alloc (.cells #[uZ 0,uZ 0,uZ 0,uZ 0] 49)=c):=⟨_,rfl⟩
 have b:Hid (Row c w.heap.size [uZ 0,uZ 0,uZ 0,uZ 0]/\kZ w c):=by rw[<-g.out];exact⟨aE w _ _,aC w _⟩
 have d:Hid (UK prog 113 #[.string k,.slice s n cap] c λe w'=>∃r,e=.returned (sZ r 32 32)/\c.heap.size<=r/\kZ c w'/\Holds encB w' r 0 T):=by
  subst I;rw[<-y.out];exact vN k s cap i c j l (C.below b.2)
 clear C I l;go_enter func60,ntmps60;go_wp2_with fail
 rw[g.out];clear g;refine d.mono ?_;rintro e t ⟨B,rfl,J,A,D⟩;have q:Hid (Row t w.heap.size [uZ 0,uZ 0,uZ 0,uZ 0]/\kZ w t/\Holds encB t B 0 T):=⟨b.1.below A,b.2.trans (A.mono b.2.size),D⟩
 clear J A D d b;go_wp2_with fail
 refine(Ih O B T t z q.2.2).mono ?_;rintro e a ⟨v,rfl,f,rfl⟩;have x:Hid (Row a w.heap.size [uZ 0,uZ 0,uZ 0,uZ 0]/\kZ w a):=⟨q.1.below f,q.2.1.trans (f.mono q.2.1.size)⟩
 clear f q;obtain⟨m,H⟩:∃m,Hid (oS N (qL T.toList 64)=m):=⟨_,rfl⟩
 rw[H.out];obtain⟨u,p⟩:∃u,Hid (a.setCells w.heap.size 0 (wn m)=u):=⟨_,rfl⟩
 have F:Hid (Row u w.heap.size (wn m)/\kZ w u):=by rw[<-p.out];exact⟨x.1.put rfl,RG.below_setCells (Uy _) _ _ _ x.2⟩
 obtain⟨G,o⟩:∃G,Hid (nv m=G):=⟨_,rfl⟩
 rw[o.out];go_wp2_with (refine U3 rfl 49 _ _ rfl w.heap.size 0 (wn m).toArray ?_ ?_ ?_ ?_ ?_ ?_;rfl;exact o.symm;exact x.1.2.2;exact i40;exact aM m;rw[show(wn m).toArray.toList=wn m from rfl,p.out])
 refine UH (aG 4 49 rfl F.1 rfl u40 i40) rfl ?_;exact⟨_,rfl,F.2,by rw[H.out];rfl⟩
end
section
open Go.RowKit Go.Sort Go.Deep
section
variable {P:VD}{ops:Array Vk}{rest:List Vk}{op:Vk}{a:Act}{w w':Ut}{v:Uv}{Q:X9->Act->Ut->Prop}
theorem bG(k:op.guard=none)(X:Op)(_:op.op=X)(c:(U9 a.eval op).run P w=.ok (.value v) w')(h:wpList P ops Q rest (a.put op.dst v) w'):wpList P ops Q (op :: rest) a w:=
 Xd k λK b=>by
  unfold VT;rw[c];exact b _ _ h
end
variable {N:Nat}
theorem Row.only{W W':Ut}{k b o n:Nat}(h:Row W k vs)(e:SP.Only b o n W W')(d:k≠b):Row W' k vs:=by
 refine⟨Uz h.1 e.size,λj v f=>?_,λj f=>?_⟩
 ·rw[(e.other (c:=k) (o:=0+j) d h.1).1];exact h.2.1 j v f
 ·have g:=h.2.2 j f;have i:=e.other (c:=k) (o:=0+j) d h.1;exact⟨by rw[i.1];exact g.1,by rw[i.2];exact g.2⟩
theorem dX{w W:Ut}{y o n k:Nat}(h:SP.Only y o n w W)(e:y<w.heap.size)(g:w.heap.size<=k)(q:Nat):SP.Only y o n w (W.setCells k q vs):=
 have b:=RG.below_setCells g _ _ _ (UT _ _)
 ⟨b.os.trans h.os,b.tape.trans h.tape,b.output.trans h.output,UE h.size b.size,λj d c=>(b.block j d).trans (h.block j d c),λp f=>(U0 (a:=⟨y,p,none⟩) (b.block y e)).trans (h.cell p f),λp=>(VR (a:=⟨y,p,none⟩) (b.block y e)).trans (h.froz p)⟩
theorem Hid.mk'{p:Prop}(h:p):Hid p:=h
theorem u124:(prog.underlying 143).map (·.isRow)=some true:=kR
theorem i124:(prog.info? 143).map (·.size)=some 1:=kR
theorem Gq(k:ByteArray)(w:Ut)(l:k.size<=1048576):UK prog 207 #[.string k] w (rZ w λe w'=>∃r,e=.agg #[jZ r]/\w.heap.size<=r/\r<w'.heap.size/\Holds encB w' r 0 (newL k.data.toList)):=by
 obtain⟨L,t⟩:=hE (newL k.data.toList);have y:L.size=32:=by rw[<-t.out];exact zY _
 rw[t.out];obtain⟨f,g⟩:∃f,Hid (w.alloc (.cells #[.pointer none] 143)=f):=⟨_,rfl⟩
 have n:Hid (Row f w.heap.size [.pointer none]/\kZ w f):=by rw[<-g.out];exact⟨aE w _ _,aC w _⟩
 go_enter func207,ntmps207;go_wp2_with fail
 rw[g.out];clear g;refine(Ep k f l).mono ?_;rintro e d ⟨rfl,c,b⟩;rw[t.out]at b;have m:f.heap.size<d.heap.size:=Holds.lt b oM;obtain⟨r,s⟩:∃r,Hid (f.heap.size=r):=⟨_,rfl⟩
 rw[s.out]at b m⊢;have u:w.heap.size<r:=by rw[<-s.out];exact n.1.1
 have q:Hid (Row d w.heap.size [.pointer none]/\kZ w d/\Holds encB d r 0 L):=⟨n.1.below c,n.2.trans (c.mono n.2.size),b⟩
 clear c b n s;obtain⟨i,o⟩:∃i,Hid (d.setCells w.heap.size 0 [jZ r]=i):=⟨_,rfl⟩
 have p:Hid (Row i w.heap.size [jZ r]/\kZ w i/\Holds encB i r 0 L/\r<i.heap.size):=by
  rw[<-o.out];refine⟨q.1.put rfl,RG.below_setCells (Uy _) _ _ _ q.2.1,λj x=>?_,by rw[setCells_size];exact m⟩;have h:=q.2.2 j x;have e:=aH w.heap.size [jZ r] 0 d r oM;rw[U0 (a:=⟨r,0+j,none⟩) e,VR (a:=⟨r,0+j,none⟩) e];exact h
 go_wp2_with (refine bG (v:=.agg #[jZ r]) (w':=d) rfl (.build 143 _) rfl ?_ ?_;kernel_rfl;refine Zq ?_)
 show wpList _ _ _ _ _ _;refine U3 rfl 143 _ _ rfl w.heap.size 0 #[jZ r] ?_ ?_ ?_ ?_ ?_ ?_
 ·kernel_rfl
 ·kernel_rfl
 ·exact q.1.2.2
 ·exact i124
 ·kernel_rfl
 rw[show(#[jZ r]).toList=[jZ r] from rfl,o.out];go_wp2;refine UH (aG 2 143 rfl p.1 rfl u124 i124) rfl ?_;exact⟨_,rfl,p.2.1,r,rfl,oM,p.2.2.2,p.2.2.1⟩
def cha(N:Nat)(L:Bs):Nat:=oS N (CQ L [99,104,97,108,108,101,110,103,101] 64)
end
namespace SP
open Go.RowKit Go.Sort Go.Deep
attribute [local go_sem] cY dW eC pB
end SP
namespace SP
open Go.RowKit Go.Sort Go.Deep
attribute [local go_sem] cY dW eC pB
end SP
namespace SP
open Go.RowKit Go.Sort Go.Deep
attribute [local go_sem] cY dW eC qI pB
end SP
namespace SP
open Go.RowKit Go.Sort Go.Deep
attribute [local go_sem] cY dW eC qI pB Er NH
end SP
namespace SP
open Go.RowKit Go.Sort Go.Deep
attribute [local go_sem] Ak
end SP
section
open Go.RowKit Go.Sort Go.Deep
variable {P:Nat}[NeZero P]{N:Nat}
def n12(P:Nat)[NeZero P]:List Uv:=ws (0:Fin P)++(ws (1:Fin P)++ws (0:Fin P))
theorem Ei(l:List UInt8):beV l<256^l.length:=by
 induction l with
 | nil=>decide
 | cons x r ih =>
  have h:=jR [x] r;rw[show [x]++r=x :: r from rfl]at h;have hx:beV [x]=x.toNat:=by simp[beV]
  have k:=x.toNat_lt;rw[h,hx,Vg,V8,Vv (256^r.length)];have:=WX (256^r.length) (show x.toNat+1<=256 by omega);rw[Nat.add_mul,Nat.one_mul]at this;omega
theorem Rz(w:Ut):(Xx 23 (iZ 32) (iZ 32)).run prog w=.ok (sZ w.heap.size 32 32) (w.alloc (.cells (madeCells #[.int .u8 0] 32) 5)):=
 run_make_row' (P:=prog) 23 5 (.int .u8 0) 1 H6 DR rfl .i64 .i64 32 dC dC w
theorem Nt:prog.underlying 103=some (.array 33 5):=kR
theorem dH(h:b.size=33):aA b=[.int .u8 (ub b[0]!),.int .u8 (ub b[1]!),.int .u8 (ub b[2]!),.int .u8 (ub b[3]!),.int .u8 (ub b[4]!),.int .u8 (ub b[5]!),.int .u8 (ub b[6]!),.int .u8 (ub b[7]!),.int .u8 (ub b[8]!),.int .u8 (ub b[9]!),.int .u8 (ub b[10]!),.int .u8 (ub b[11]!),.int .u8 (ub b[12]!),.int .u8 (ub b[13]!),.int .u8 (ub b[14]!),.int .u8 (ub b[15]!),.int .u8 (ub b[16]!),.int .u8 (ub b[17]!),.int .u8 (ub b[18]!),.int .u8 (ub b[19]!),.int .u8 (ub b[20]!),.int .u8 (ub b[21]!),.int .u8 (ub b[22]!),.int .u8 (ub b[23]!),.int .u8 (ub b[24]!),.int .u8 (ub b[25]!),.int .u8 (ub b[26]!),.int .u8 (ub b[27]!),.int .u8 (ub b[28]!),.int .u8 (ub b[29]!),.int .u8 (ub b[30]!),.int .u8 (ub b[31]!),.int .u8 (ub b[32]!)]:=by
 apply Zb;intro i;by_cases k:i<33
 ·rw[rM b i oM];match i,k with
  | 0,_=>rfl
  | 1,_=>rfl
  | 2,_=>rfl
  | 3,_=>rfl
  | 4,_=>rfl
  | 5,_=>rfl
  | 6,_=>rfl
  | 7,_=>rfl
  | 8,_=>rfl
  | 9,_=>rfl
  | 10,_=>rfl
  | 11,_=>rfl
  | 12,_=>rfl
  | 13,_=>rfl
  | 14,_=>rfl
  | 15,_=>rfl
  | 16,_=>rfl
  | 17,_=>rfl
  | 18,_=>rfl
  | 19,_=>rfl
  | 20,_=>rfl
  | 21,_=>rfl
  | 22,_=>rfl
  | 23,_=>rfl
  | 24,_=>rfl
  | 25,_=>rfl
  | 26,_=>rfl
  | 27,_=>rfl
  | 28,_=>rfl
  | 29,_=>rfl
  | 30,_=>rfl
  | 31,_=>rfl
  | 32,_=>rfl
  | n+33,h=>exact absurd h oM
 ·rw[WE (by rw[aB h];omega),WE (by show 33<=i;omega)]
theorem bytes_eq{a:Bs}(e:a.size=33)(d:b.size=33):(∀i∈VB 33,ub a[i]! = ub b[i]!)↔a=b:=by
 constructor
 ·intro h;apply Array.ext (by rw[e,d]);intro i f g;have k:=h i (VS.2 oM);rw[getElem!_pos a i f,getElem!_pos b i g]at k;have c:a[i].toNat=b[i].toNat:=by unfold ub at k;omega
  exact UInt8.toNat_inj.1 c
 ·rintro rfl i _;rfl
theorem Su{a:Bs}(e:a.size=33)(d:b.size=33)(w:Ut):(Op.equal 103 (.agg (aA a).toArray) (.agg (aA b).toArray)).run prog w=.ok (decide (a=b)) w:=by
 have c:(prog.info? 5).isSome=true:=kR;obtain⟨f,k⟩:=Vu.1 c;show(Op.equalIn 10000 103 _ _).run prog w=_;rw[run_equalIn_array w 9999 _ _ Nt k,cells5,
  eqI _ _ (λi=>ub a[i]!) (λi=>ub b[i]!) 9998 w (VB 33) (λi c=>by
   rw[Vm];exact rM a i (by rw[e];exact VS.1 c)) (λi c=>by
   rw[Vm];exact rM b i (by rw[d];exact VS.1 c))]
 rw[decide_eq_decide.2 (bytes_eq e d)]
theorem FC(k:b.size=33)(e:Bool)(w:Ut):(Instr.checkKey e 10000 103 (.agg (aA b).toArray)).run prog w=.ok () w:=by
 rw[dH k];kernel_rfl
def at?(b:Bs):List Bs->Nat->Option Nat
 | [],_=>none
 | k :: r,i=>if b=k then some i else at? b r (i+1)
def ents:List Bs->Nat->List MapEntry
 | [],_=>[]
 | k :: r,i=>{ key:=.agg (aA k).toArray,val:=iZ i,born:=i } :: ents r (i+1)
theorem Cy(d:b.size=33)(w:Ut):∀(D:List Bs) (i:Nat),(∀k∈D,k.size=33)->(yA4 103 (.agg (aA b).toArray) (ents D i) i).run prog w=.ok ((at? b D i).map λj=>(j,iZ j)) w
 | [],i,_=>rfl
 | k :: r,i,h=>by
  have e:=Cy d w r (i+1) (λx hx=>h x (Vd _ hx));have f:=Su d (h k Vo) w;unfold ents yA4 at?;simp only[UW,f,Vr];by_cases c:b=k
  ·simp only[c,decide_true,if_true,WA,Option.map_some]
  ·simp only[c,decide_false,Bool.false_eq_true,if_false,e]
theorem E8(c:b.size=33)(D:List Bs)(h:∀k∈D,k.size=33)(w:Ut):(yBB 103 (.agg (aA b).toArray) (ents D 0)).run prog w=.ok ((at? b D 0).map λj=>(j,iZ j)) w:=by
 have e:=Yn Nt w;unfold yBB;rw[UW,e,Vr];cases D with
 | nil=>rfl
 | cons k r =>
  have d:Instr.findNow (.array 33 5) (.agg (aA b).toArray) (ents (k :: r) 0) 0=none:=rfl;simp only[d];exact Cy c w (k :: r) 0 h
theorem at?_none:∀ {D:List Bs}{i:Nat},at? b D i=none↔b ∉ D
 | [],i=>by simp[at?]
 | k :: r,i=>by
  unfold at?;by_cases h:b=k
  ·simp[h]
  ·simp[h,at?_none (D:=r) (i:=i+1)]
end
section
open Go.RowKit Go.Sort Go.Deep
section
variable {P:VD}{ops:Array Vk}{rest:List Vk}{op:Vk}{a:Act}{w w':Ut}{v u:Uv}{Q:X9->Act->Ut->Prop}
theorem aF(k:op.guard=none)(T:Vb)(x:XM)(ho:op.op=.box T x)(hx:a.eval x=u)(c:(Vh T u).run P w=.ok v w')(h:wpList P ops Q rest (a.put op.dst v) w'):wpList P ops Q (op :: rest) a w:=
 Xd k λK b=>by
  unfold VT U9;simp only[ho,hx,UW,c,Vr,WA];exact b _ _ h
end
variable {N:Nat}
theorem cV:(prog.info? 103).map (·.size)=some 33:=kR
theorem uCP:(prog.underlying 103).map (·.isRow)=some true:=kR
theorem rL{a:Bs}(k:a.size=33)(w:Ut):(Vh 103 (.agg (aA a).toArray)).run prog w=.ok (jZ w.heap.size) (w.alloc (.cells (aA a).toArray 103)):=by
 rw[dH k];kernel_rfl
theorem QO(k:Nat)(w:Ut):(Xw 103 (jZ k) none none none).run prog w=.ok (sZ k 33 33) w:=kR
theorem row_holds{W:Ut}{k:Nat}{a:Bs}(h:Row W k (aA a)):Holds encB W k 0 a:=cb_holds h.2.1 h.2.2
theorem wN{W:Ut}{k:Nat}{a:Bs}(b:a.size=33)(h:Row W k (aA a)):PartOk W (sZ k 33 33) a.toList:=
 ⟨_,k,0,33,a,by rw[b],rfl,oM,oM,U2 ⟨rfl,row_holds h⟩⟩
theorem OI{W:Ut}{r:Nat}{L:Bs}(h:Holds encB W r 0 L):Holds SP.encB W r 0 L:=h
theorem OH{W:Ut}{r:Nat}{L:Bs}(h:Holds SP.encB W r 0 L):Holds encB W r 0 L:=h
end
section
open Go.RowKit Go.Sort Go.Deep
variable {P:Nat}[NeZero P]{N:Nat}
theorem FV(g k:Nat)(w:Ut):(yBC 103 (sZ g 33 k)).run prog w=.ok (jZ g) w:=kR
theorem pW{W:Ut}{k:Nat}{a:Bs}(b:Holds encB W k 0 a)(c:k<W.heap.size):Row W k (aA a):=⟨c,(rK b).1,(rK b).2⟩
theorem bW(a:Bs):(aA a).toArray.all (·.oneCell')=true:=by
 rw[WR];intro v hv;obtain⟨x,-,rfl⟩:=Vn.1 (XL.1 hv);rfl
def pvl(a:Bs):Uv:=.agg (aA a).toArray
theorem NS(C:Fld P):Gives 63 #[] (pvl (wr (gG P))):=by
 intro w;obtain⟨T,s⟩:∃T,Hid (wr (gG P)=T):=⟨_,rfl⟩
 have t:T.size=33:=by rw[<-s.out];exact aT _
 rw[s.out];obtain⟨f,c⟩:∃f,Hid (w.alloc (.cells z33.toArray 103)=f):=⟨_,rfl⟩
 have o:Hid (Row f w.heap.size z33/\kZ w f):=by rw[<-c.out];exact⟨aE w _ _,aC w _⟩
 obtain⟨d,l,n⟩:=UA.1 uCP;have A:Hid (prog.underlying 103=some d/\d.isRow=true):=⟨l,n⟩
 clear l n;go_enter func63,ntmps63;go_wp2_with (refine bG (v:=jZ w.heap.size) (w':=f) rfl (.alloc 103) rfl ?_ ?_;(rw[<-c.out];kernel_rfl))
 refine(Qr C f).mono ?_;rintro e m ⟨E,rfl,b,g,D,rfl,-,B,z,u⟩;rw[s.out]at u;have r:Hid (Row m w.heap.size z33/\kZ w m/\Row m g (aA T)):=⟨o.1.below b,o.2.trans (b.mono o.2.size),pW u z⟩
 clear b B z u o c;have x:=FV g D;obtain⟨q,i⟩:∃q,Hid (m.setCells w.heap.size 0 (aA T)=q):=⟨_,rfl⟩
 have k:(aA T).length=33:=aB t;have y:Hid (Row q w.heap.size (aA T)/\kZ w q):=by rw[<-i.out];exact⟨r.1.put (by rw[k];rfl),RG.below_setCells (Uy _) _ _ _ r.2.1⟩
 obtain⟨a,j⟩:∃a,Hid (U5 (aA T).toArray=a):=⟨_,rfl⟩
 have p:Hid ((prog.info? 103).map (·.size)=some (aA T).length/\m.there w.heap.size 0 (aA T).toArray.size/\(prog.info? 103).map (·.size)=some (aA T).toArray.size):=by
  have e:(aA T).toArray.size=33:=by rw[VE];exact k
  refine⟨by rw[k];exact cV,by rw[e];exact r.1.2.2,by rw[e];exact cV⟩
 clear k;go_wp2_with (first|(refine U8 rfl 103 _ rfl g 0 ?_ (aA T) d ?_ ?_ ?_ ?_ ?_;rfl;exact r.2.2.2.1;exact A.1;exact A.2;exact p.1;rw[j.out])|(refine U3 rfl 103 _ _ rfl w.heap.size 0 (aA T).toArray ?_ ?_ ?_ ?_ ?_ ?_;rfl;exact j.symm;exact p.2.1;exact p.2.2;exact bW T;rw[show(aA T).toArray.toList=aA T from rfl,i.out]))
 refine UH (aG 0 103 rfl y.1 rfl uCP p.1) rfl ?_;exact⟨_,rfl,y.2,rfl⟩
end
section
open Go.RowKit Go.Sort Go.Deep
section
variable {P:VD}{ops:Array Vk}{rest:List Vk}{op:Vk}{a:Act}{w w':Ut}{v:Uv}{Q:X9->Act->Ut->Prop}
theorem lK(b:op.guard=none)(T:Vb)(k:Array (Nat × XM))(ho:op.op=.build T k)(vs:Array (Nat × Uv))(hx:(k.map λ(i,x)=>(i,a.eval x))=vs)(d:(Y0 T vs).run P w=.ok v w')(h:wpList P ops Q rest (a.put op.dst v) w'):wpList P ops Q (op :: rest) a w:=
 Xd b λK c=>by
  unfold VT U9;simp only[ho,hx,UW,d,Vr,WA];exact c _ _ h
theorem jE(b:op.guard=none)(T:Vb)(n:Nat)(k:Array (Nat × XM))(ho:op.op=.buildSlice T n k)(vs:Array (Nat × Uv))(hx:(k.map λ(i,x)=>(i,a.eval x))=vs)(d:(VF T n vs).run P w=.ok v w')(h:wpList P ops Q rest (a.put op.dst v) w'):wpList P ops Q (op :: rest) a w:=
 Xd b λK c=>by
  unfold VT U9;simp only[ho,hx,UW,d,Vr,WA];exact c _ _ h
end
theorem SU{a:Bs}(k:a.size=33)(n:Nat)(w:Ut):(Y0 226 #[(0,nv n),(1,pvl a)]).run prog w=.ok (.agg (wn n++aA a).toArray) w:=by
 unfold pvl;rw[dH k];kernel_rfl
theorem SJ{a:Bs}(k:a.size=33)(n:Nat)(w:Ut):(VF 131 1 #[(0,.agg (wn n++aA a).toArray)]).run prog w=.ok (sZ w.heap.size 1 1) (w.alloc (.cells (wn n++aA a).toArray 226)):=by
 rw[dH k];kernel_rfl
theorem boxS(n:Nat)(w:Ut):(Vh 49 (nv n)).run prog w=.ok (jZ w.heap.size) (w.alloc (.cells (wn n).toArray 49)):=kR
theorem kV(a:Bs)(p:a.size=33)(n:Nat)(w:Ut):UK prog 64 #[pvl a,nv n] w (rZ w λe w'=>∃k,e=sZ k 1 1/\w.heap.size<=k/\Row w' k (wn n++aA a)):=by
 have F:=Hid.mk' (rL p w);obtain⟨c,j⟩:=hE (w.alloc (.cells (aA a).toArray 103));rw[j.out]at F;have C:c.heap.size=w.heap.size+1:=by rw[<-j.out,UD]
 have D:=Hid.mk' (boxS n c);obtain⟨b,g⟩:=hE (c.alloc (.cells (wn n).toArray 49));rw[g.out,C]at D;have E:b.heap.size=w.heap.size+2:=by rw[<-g.out,UD,C]
 have G:=Hid.mk' (SU p n b);have r:=Hid.mk' (SJ p n b);obtain⟨o,l⟩:=hE (b.alloc (.cells (wn n++aA a).toArray 226));rw[l.out,E]at r;have K:Hid (Row b w.heap.size (aA a)/\Row b (w.heap.size+1) (wn n)/\kZ w o/\Row o (w.heap.size+2) (wn n++aA a)):=by
  have q:Row c w.heap.size (aA a):=by rw[<-j.out];exact aE w _ _
  have m:Row b (w.heap.size+1) (wn n):=by rw[<-g.out,<-C];exact aE c _ _
  have s:Row o (w.heap.size+2) (wn n++aA a):=by rw[<-l.out,<-E];exact aE b _ _
  have b1:kZ w c:=by rw[<-j.out];exact aC w _
  have f:kZ c b:=by rw[<-g.out];exact aC c _
  have i:kZ b o:=by rw[<-l.out];exact aC b _
  exact⟨q.below f,m,(b1.trans (f.mono oM)).trans (i.mono oM),s⟩
 have I:Hid ((prog.info? 103).map (·.size)=some (aA a).length):=by show _=_;rw[aB p];exact cV
 obtain⟨d,s,B⟩:=UA.1 uCP;obtain⟨x,y,z⟩:=UA.1 u40;have q:Hid ((prog.underlying 103=some d/\d.isRow=true)/\prog.underlying 49=some x/\x.isRow=true):=⟨⟨s,B⟩,y,z⟩
 obtain⟨va,i⟩:=hE (pvl a);obtain⟨A,f⟩:=hE (nv n);obtain⟨H,m⟩:=hE (U5 (wn n++aA a).toArray);have t:Hid ((Vh 103 va).run prog w=.ok (jZ w.heap.size) c):=by rw[<-i.out];exact F
 rw[f.out]at D;rw[i.out,f.out,m.out]at G;rw[m.out]at r;rw[i.out,f.out];go_enter func64,ntmps64;go_wp2_with (first|(refine aF (u:=va) (v:=jZ w.heap.size) (w':=c) rfl 103 (.tmp 0) rfl ?_ ?_ ?_;rfl;exact t.out)|(refine aF (u:=A) (v:=.pointer (some ⟨w.heap.size+1,0,none⟩)) (w':=b) rfl 49 (.tmp 1) rfl ?_ ?_ ?_;rfl;exact D.out)|(refine U8 rfl 49 _ rfl (w.heap.size+1) 0 ?_ (wn n) x ?_ ?_ ?_ ?_ ?_;rfl;exact K.2.1.2.1;exact q.2.1;exact q.2.2;exact i40;rw[show U5 (wn n).toArray=A from f.out])|(refine U8 rfl 103 _ rfl w.heap.size 0 ?_ (aA a) d ?_ ?_ ?_ ?_ ?_;rfl;exact K.1.2.1;exact q.1.1;exact q.1.2;exact I.out;rw[show U5 (aA a).toArray=va from i.out])|(refine lK (v:=H) (w':=b) rfl 226 _ rfl #[(0,A),(1,va)] ?_ ?_ ?_;kernel_rfl;exact G.out)|(refine jE (v:=.slice (some ⟨w.heap.size+2,0,none⟩) 1 1) (w':=o) rfl 131 1 _ rfl #[(0,H)] ?_ ?_ ?_;kernel_rfl;exact r.out))
 go_ret;exact⟨_,rfl,K.2.2.1,w.heap.size+2,rfl,oM,K.2.2.2⟩
end
section
open Go.RowKit Go.Sort Go.Deep
variable {P:Nat}[NeZero P]{N:Nat}
theorem Ui{a:Bs}(k:a.size=33)(n:Nat)(w:Ut):(Vh 226 (.agg (wn n++aA a).toArray)).run prog w=.ok (jZ w.heap.size) (w.alloc (.cells (wn n++aA a).toArray 226)):=by
 rw[dH k];kernel_rfl
theorem Uk(w:Ut):(Y0 49 #[]).run prog w=.ok (nv 0) w:=kR
def tvl(n:Nat)(a:Bs):Uv:=.agg (wn n++aA a).toArray
theorem kC{W:Ut}{k:Nat}(h:W.rangeAt k 0 (xs++ys)):W.rangeAt k 0 xs:=λj v b=>h j v (by rw[UX (UG.1 b).1];exact b)
theorem lT{W:Ut}{k:Nat}(h:W.rangeAt k 0 (xs++ys)):W.rangeAt k xs.length ys:=λj v b=>by
 have:=h (xs.length+j) v (by rw[U4 (Zh _ _),Nat.add_sub_cancel_left];exact b);rwa[UF]at this
theorem I4{n:Nat}(x:n<top){a:Bs}(s:a.size=33):Gives 205 #[tvl n a] (.bool (decide (n=0))):=by
 intro w;have g:=Hid.mk' (Ui s n w);obtain⟨k,d⟩:=hE (w.alloc (.cells (wn n++aA a).toArray 226));rw[d.out]at g;have K:Hid (Row k w.heap.size (wn n++aA a)/\kZ w k):=by rw[<-d.out];exact⟨aE w _ _,aC w _⟩
 obtain⟨r,i,j⟩:=UA.1 u40;have p:=mk2 i j;obtain⟨va,e⟩:=hE (tvl n a);obtain⟨o,b⟩:=hE (nv n);obtain⟨v0,c⟩:=hE (nv 0);have f:Hid ((Vh 226 va).run prog w=.ok (jZ w.heap.size) k):=by rw[<-e.out];exact g
 have t:Hid ((Y0 49 #[]).run prog k=.ok v0 k):=by rw[<-c.out];exact Uk k
 have l:=Hid.mk' (eqS x (show 0<top by unfold top;omega) k);rw[b.out,c.out]at l;have q:=l.out;obtain⟨z,m⟩:=hE (decide (n=0));rw[m.out]at q;have y:(eqGuard .eql 49 (.tmp 4) (.tmp 5) o v0).run prog k=.ok () k:=by rw[<-b.out,<-c.out];kernel_rfl
 rw[e.out,m.out];clear g l;go_enter func205,ntmps205;go_wp2_with (first|(refine aF (u:=va) (v:=jZ w.heap.size) (w':=k) rfl 226 (.tmp 0) rfl ?_ ?_ ?_;rfl;exact f.out)|(refine U8 rfl 49 _ rfl w.heap.size 0 ?_ (wn n) r ?_ ?_ ?_ ?_ ?_;rfl;exact kC K.1.2.1;exact p.1;exact p.2;exact i40;rw[show U5 (wn n).toArray=o from b.out])|(refine lK (v:=v0) (w':=k) rfl 49 _ rfl #[] ?_ ?_ ?_;kernel_rfl;exact t.out))
 go_wp2;go_ret;exact⟨_,rfl,K.2,rfl⟩
theorem uT:(prog.underlying 226).map (·.isRow)=some true:=kR
theorem iT:(prog.info? 226).map (·.size)=some 37:=kR
theorem atT(k o n c i:Nat)(b:i<n)(w:Ut):(Vj 131 (.slice (some ⟨k,o,none⟩) n c) (iZ i)).run prog w=.ok (.pointer (some ⟨k,o+37*i,none⟩)) w:=by
 go_simp
def kN(ns:Nat->Nat):Nat->Nat->Int
 | _,0=>-1
 | i,m+1=>if ns i=0 then(i:Int) else kN ns (i+1) m
def Oj(b:Bool):List It:=[.x 9 [] (.bool b)]
def Oi(g k c i n:Nat)(a:Bs)(z:Bool):List It:=[.x 11 [] (.func (.func 205) #[] #[]),.x 12 [] (sZ g k c),.x 13 [] (iZ i),.x 14 [(12,1),(13,2)] (.pointer (some ⟨g,(0+37*i),none⟩)),.x 15 [(14,3)] (tvl n a),.c 16 [(11,0),(15,4)] (.bool z)]
theorem E9(g k c:Nat)(W:k<=1000000)(ns:Nat->Nat)(M:Nat->Bs)(V:∀j,j<k->ns j<top)(Q:∀j,j<k->(M j).size=33)(w:Ut)(N:g<w.heap.size)(O:∀j,j<k->w.rangeAt g (37*j) (wn (ns j)++aA (M j))):
 UK prog 230 #[sZ g k c,.func (.func 205) #[] #[]] w (rZ w λe w'=>e=iZ (kN ns 0 k)):=by
 obtain⟨R,hR⟩:∃R,kN ns 0 k=R:=⟨_,rfl⟩
 rw[hR];go_enter func230,ntmps230;refine RG.M.enter [(0,.v (sZ g k c)),(1,.v (.func (.func 205) #[] #[]))] 19 kR ?_;intro a0 T;repeat refine UC ?_
 refine T.U [.x (iZ 0)] [0,1] ⟨st,yCm⟩ ?_;intro a1 Z P;repeat refine UC ?_
 refine P.U [.x (sZ g k c),.x (iZ k),.x (iZ 0)] [0,1,7,8] ⟨st,st,st,yCm⟩ ?_;intro a2 Y U;repeat refine UC ?_
 refine wp_block ?_;refine wp_loop_ghost (λm a wr=>∃i:Nat,i+m=k/\kN ns i m=R/\RG.M w w.heap.size [] 19 [] [] [(0,.v (sZ g k c)),(1,.v (.func (.func 205) #[] #[])),(7,.v (iZ k)),(8,.v (iZ i))] a wr) k ⟨0,oM,hR,U⟩ ?_;intro E a wr;rintro⟨i,S,hf,y⟩;by_cases t:i<k
 ·obtain⟨n,u⟩:∃n,ns i=n:=⟨_,rfl⟩
  obtain⟨b,L⟩:∃b,M i=b:=⟨_,rfl⟩
  have x:=V i t;have r:=Q i t;have s:=O i t;rw[u]at x s;rw[L]at r s;have p:w.rangeAt g (0+37*i) (wn n++aA b):=by rw[UF];exact s
  have q:(prog.info? 226).map (·.size)=some (wn n++aA b).length:=by rw[UB,aB r];exact iT
  have z:=I4 x r;obtain⟨H,rfl⟩:∃H,E=H+1:=⟨E-1,oM⟩
  unfold kN at hf;rw[u]at hf;repeat refine UC ?_
  refine y.u (Oj true) [(0,.v (sZ g k c)),(1,.v (.func (.func 205) #[] #[])),(7,.v (iZ k)),(8,.v (iZ i)),(9,.v (.bool true))] ⟨aQ rfl .lss 3 3 8 7 (iZ i) (iZ k) (.bool true) rfl rfl sx sx (λw=>kR) (gB t),yCm⟩ ?_;intro I F f;repeat refine UC ?_
  refine VH f.ev ?_;refine WQ ?_;refine UC ?_;refine wp_block ?_;repeat refine UC ?_
  refine f.U [.x (iZ i),.x (iZ i)] [0,1,7,8,5] ⟨st,st,yCm⟩ ?_;intro B J d;repeat refine UC ?_
  by_cases A:n=0
  ·rw[decide_eq_true A]at z;rw[yCk A]at hf;refine d.u (Oi g k c i n b true) [(0,.v (sZ g k c)),(1,.v (.func (.func 205) #[] #[])),(7,.v (iZ k)),(8,.v (iZ i)),(5,.v (iZ i)),(16,.v (.bool true))] ⟨st,st,st,bD rfl 131 12 13 rfl (.v (sZ g k c)) (iZ i) sx sx (λμ w=>atT _ 0 _ _ i t w),eH rfl g (0+37*i) N U1 226 14 rfl (wn n++aA b) rfl sx p uT q,clB (λ_ _=>kR) (λw' _=>z w'),yCm⟩ ?_;intro K C l;repeat refine UC ?_
   refine VH l.ev ?_;repeat refine UC ?_
   refine l.U [.x (iZ i),.x (iZ i)] [4] ⟨st,st,yCm⟩ ?_;intro G D o;refine Wy ?_;refine UH (v:=iZ i) (jC 4 rfl (iZ i) o.av) o.sl.defers ?_;exact⟨_,rfl,o.st.bel.below,by rw[hf]⟩
  ·rw[decide_eq_false A]at z;rw[yCl A]at hf;refine d.u (Oi g k c i n b false) [(0,.v (sZ g k c)),(1,.v (.func (.func 205) #[] #[])),(7,.v (iZ k)),(8,.v (iZ i)),(16,.v (.bool false))] ⟨st,st,st,bD rfl 131 12 13 rfl (.v (sZ g k c)) (iZ i) sx sx (λμ w=>atT _ 0 _ _ i t w),eH rfl g (0+37*i) N U1 226 14 rfl (wn n++aA b) rfl sx p uT q,clB (λ_ _=>kR) (λw' _=>z w'),yCm⟩ ?_;intro K C l;repeat refine UC ?_
   refine VJ l.ev ?_;refine WQ ?_;repeat refine UC ?_
   refine l.U [.x (iZ ((i+1:Nat):Int)),.x (iZ ((i+1:Nat):Int))] [0,1,7,8] ⟨aP rfl .add 3 3 8 (iZ i) (iZ 1) (iZ ((i+1:Nat):Int)) rfl rfl sx (λw=>kR) (uP i 1 oM oM),st,yCm⟩ ?_;intro G D o;show ∃X,_;exact⟨H,oM,i+1,oM,hf,o⟩
 ·have l:E=0:=oM;rw[l]at hf;unfold kN at hf;repeat refine UC ?_
  refine y.u (Oj false) [(9,.v (.bool false))] ⟨aQ rfl .lss 3 3 8 7 (iZ i) (iZ k) (.bool false) rfl rfl sx sx (λw=>kR) (nG t),yCm⟩ ?_;intro I F f;repeat refine UC ?_
  refine VJ f.ev ?_;refine wp_exit ?_;dsimp only[Exit.then,Exit.inBlock];rw[yCk rfl];repeat refine UC ?_
  refine f.U [.x (iZ (-1))] [4] ⟨st,yCm⟩ ?_;intro B J d;refine Wy ?_;refine UH (v:=iZ (-1)) (jC 4 rfl (iZ (-1)) d.av) d.sl.defers ?_;exact⟨_,rfl,d.st.bel.below,by rw[<-hf]⟩
theorem uD{ns:Nat->Nat}:∀(m i:Nat),(∀j,i<=j->j<i+m->ns j≠0)->kN ns i m = -1
 | 0,_,_=>rfl
 | m+1,i,h=>by
  unfold kN;rw[yCl (h i (Uy _) oM)];exact uD m (i+1) (λj k b=>h j oM oM)
theorem Cz(g k c:Nat)(p:k<=1000000)(ns:Nat->Nat)(i:Nat->Bs)(x:∀j,j<k->ns j<top)(b:∀j,j<k->ns j≠0)(s:∀j,j<k->(i j).size=33)(w:Ut)(l:g<w.heap.size)(q:∀j,j<k->w.rangeAt g (37*j) (wn (ns j)++aA (i j))):
 UK prog 204 #[sZ g k c,.func (.func 205) #[] #[]] w (rZ w λe w'=>e=(sZ g k c)):=by
 have o:∀w',BelX w.heap.size [] w w'->UK prog 230 #[sZ g k c,.func (.func 205) #[] #[]] w' (Ret λe d=>kZ w' d/\e=iZ (-1)):=λw' n=>by
  have h:=E9 g k c p ns i x s w' (Uz l n.below.size) (λj f=>RG.range_below (q j f) n.below l);rw[uD k 0 (λj _ m=>b j oM)]at h;exact h
 go_enter func204,ntmps204;refine RG.M.enter [(0,.v (sZ g k c)),(1,.v (.func (.func 205) #[] #[]))] 42 kR ?_;intro a0 t;repeat refine UC ?_
 refine t.U [.x (.slice none 0 0)] [0,1] ⟨st,yCm⟩ ?_;intro D A r;repeat refine UC ?_
 refine r.U [.x (sZ g k c),.x (.func (.func 205) #[] #[]),.c (iZ (-1)),.x (iZ (-1))] [0,5] ⟨st,st,clB (λ_ _=>kR) o,st,yCm⟩ ?_;intro a2 y u;repeat refine UC ?_
 refine u.U [.x (iZ (-1)),.x (.bool true)] [0,12] ⟨st,st,yCm⟩ ?_;intro a z m;repeat refine UC ?_
 refine VH m.ev ?_;repeat refine UC ?_
 refine m.U [.x (sZ g k c),.x (sZ g k c)] [4] ⟨st,st,yCm⟩ ?_;intro C B f;refine Wy ?_;refine UH (v:=(sZ g k c)) (jC 4 rfl _ f.av) f.sl.defers ?_;exact⟨_,rfl,f.st.bel.below,rfl⟩
theorem QA:prog.underlying 278=some (.map 103 3):=kR
theorem zero3(w:Ut):(zeroValue 3).run prog w=.ok (iZ 0) w:=kR
theorem Af(b:Bs):∀(D:List Bs) (i:Nat),ents (D++[b]) i=ents D i++[{ key:=.agg (aA b).toArray,val:=iZ ((i+D.length:Nat):Int),born:=i+D.length }]
 | [],i=>rfl
 | k :: r,i=>by
  rw[Xv];unfold ents;rw[Af b r (i+1),Vg,show i+1+r.length=i+(r.length+1) by omega];rfl
theorem Cm(d:b.size=33)(D:List Bs)(g:∀k∈D,k.size=33)(m c:Nat)(w:Ut)(i:w.heap[m]? = some (.map (ents D 0).toArray c)):
 (yAu 278 (.map (some m)) (.agg (aA b).toArray) true).run prog w=.ok (.tuple #[iZ (((at? b D 0).getD 0:Nat):Int),.bool (at? b D 0).isSome]) w:=by
 have n:=Yn QA w;have o:=λe=>FC d e w
 have l:=E8 d D g w;have f:(getObj m).run prog w=.ok (.map (ents D 0).toArray c) w:=by
  simp[getObj,yBT,i]
 unfold yAu;simp only[UW,n,Vr,f,WA,o,l];cases h:at? b D 0 with
 | none=>simp[UW,zero3]
 | some j=>simp
theorem Lg(c:b.size=33)(D:List Bs)(i:∀k∈D,k.size=33)(m:Nat)(w:Ut)(d:w.heap[m]? = some (.map (ents D 0).toArray D.length))(n:at? b D 0=none):
 (Zf 278 (.map (some m)) (.agg (aA b).toArray) (iZ (D.length:Int))).run prog w=.ok () (w.putObj m (.map (ents (D++[b]) 0).toArray (D.length+1))):=by
 have j:=Yn QA w;have l:=λe=>FC c e w
 have f:=E8 c D i w;rw[n]at f;have g:(getObj m).run prog w=.ok (.map (ents D 0).toArray D.length) w:=by
  simp[getObj,yBT,d]
 unfold Zf;simp only[UW,j,Vr,g,WA,l,f];rw[Af,UF];simp[setObj,yBT,d,yAq]
theorem C6:prog.underlying 131=some (.slice 226):=kR
theorem RQ:(prog.info? 226).map (λi=>(i.size,i.bytes,i.zero.map λz=>z.cells.size))=some (37,72,some 37):=kR
theorem cells_one(n:Nat)(a:Bs):∀u∈wn n++aA a,u.oneCell'=true:=by
 intro u k;rcases Ww.1 k with h|h
 ·unfold wn at h;simp only[V0,U1,or_false]at h;rcases h with rfl|rfl|rfl|rfl<;>rfl
 ·obtain⟨x,-,rfl⟩:=Vn.1 h;rfl
theorem Kf{b k g n:Nat}{v:Uv}{a:Bs}(s:a.size=33){W:Ut}(c:W.ownsRow b 226 37 v k xs)(hR:Row W g (wn n++aA a))(B:k<=1000000)(x:b<=W.heap.size):
 ∃d W',(Vx #[131,131] 131 #[v,sZ g 1 1]).run prog W=.ok d W'/\W'.ownsRow b 226 37 d (k+1) (xs++(wn n++aA a))/\W.grownBy W' v.ownBlock:=by
 obtain⟨i,y,f⟩:=UA.1 RQ;simp only[We.injEq]at f;obtain⟨p,t,o⟩:=f;obtain⟨z,m,e⟩:=UA.1 o;obtain⟨d,W',w,l,q,-⟩:=Yv (P:=prog) W b 131 131 226 i z 37 72 C6 y m p t e dC v k xs c (aZ g) 1 1 (wn n++aA a) (by rw[UB,aB s];rfl)
  (λj u r=>by
   have:=hR.2.1 j u r;rw[UF]at this;rw[show(⟨g,0,none⟩:Wv).add j=⟨g,j,none⟩ by unfold Zr;split<;>simp_all];exact this) (cells_one n a) (by unfold maxLen;omega) oM x
 exact⟨d,W',w,l,q⟩
def fB(N:Nat):List (Nat × Bs)->Nat->Bs->List (Nat × Bs)
 | [],n,p=>[(n,p)]
 | (s,q) :: r,n,p=>if p=q then(sPl N s n,q) :: r else(s,q) :: fB N r n p
def mrg(N:Nat)(ns:Nat->Nat)(k:Nat->Bs):Nat->List (Nat × Bs)
 | 0=>[]
 | i+1=>fB N (mrg N ns k i) (ns i) (k i)
def aU(l:List (Nat × Bs)):List Uv:=l.flatMap λx=>wn x.1++aA x.2
theorem CU{N n:Nat}{p:Bs}:∀ {l:List (Nat × Bs)},at? p (l.map (·.2)) 0=none->fB N l n p=l++[(n,p)]
 | [],_=>rfl
 | (s,q) :: r,h=>by
  have k:=at?_none.1 h;rw[X4,V0,not_or]at k;unfold fB;rw[yCl k.1,CU (l:=r) (at?_none.2 k.2)];rfl
theorem CM(l:List (Nat × Bs))(n:Nat)(p:Bs):aU (l++[(n,p)])=aU l++(wn n++aA p):=by
 unfold aU;rw[YM];simp
structure Mx(w W:Ut)(m:Nat)(l:List (Nat × Bs))(v:Uv):Prop where
 bl:kZ w W
 mp:W.heap[m]? = some (.map (ents (l.map (·.2)) 0).toArray l.length)
 lm:w.heap.size<=m
 ow:W.ownsRow w.heap.size 226 37 v l.length (aU l)
theorem Mx.own_ne{w W:Ut}{m:Nat}{l:List (Nat × Bs)}{v:Uv}(h:Mx w W m l v){g:Nat}(k:v.ownBlock=some g):g≠m/\w.heap.size<=g/\g<W.heap.size:=by
 rcases h.ow.2 with⟨rfl,-⟩|⟨c,cap,cur,rfl,d,b,-⟩
 ·cases k
 ·obtain rfl:c=g:=by simpa[Value.ownBlock]using k
  refine⟨λe=>?_,d,(UY.1 b).1⟩;have:=h.mp;rw[<-e,b]at this;cases this
theorem sH{W W':Ut}{b k:Nat}{e:Vb}{s:Nat}{v:Uv}(h:W.ownsRow b e s v k xs)(d:∀g,v.ownBlock=some g->W'.heap[g]? = W.heap[g]?):W'.ownsRow b e s v k xs:=by
 refine⟨h.1,?_⟩;rcases h.2 with c|⟨g,cap,cur,rfl,i,c,f⟩
 ·exact U6 c
 ·exact U2 ⟨g,cap,cur,rfl,i,by rw[d g rfl];exact c,f⟩
theorem Mx.kept{w W W':Ut}{m:Nat}{l:List (Nat × Bs)}{v:Uv}(h:Mx w W m l v)(k:kZ W W'):Mx w W' m l v:=
 ⟨h.bl.trans (k.mono h.bl.size),by rw[k.block m (UY.1 h.mp).1];exact h.mp,h.lm,sH h.ow λg b=>k.block g (h.own_ne b).2.2⟩
theorem JG(l:List (Nat × Bs))(n:Nat)(p:Bs):(l++[(n,p)]).map (·.2)=l.map (·.2)++[p]:=by simp
theorem Mx.push{w W:Ut}{m:Nat}{l:List (Nat × Bs)}{v:Uv}(h:Mx w W m l v){p:Bs}(A:p.size=33)(B:l.length<=1000000)(n:Nat):
 ∃f b,(Vx #[131,131] 131 #[v,sZ W.heap.size 1 1]).run prog ((W.putObj m (.map (ents (l.map (·.2)++[p]) 0).toArray (l.length+1))).alloc (.cells (wn n++aA p).toArray 226))=.ok f b/\Mx w b m (l++[(n,p)]) f/\W.heap.size<b.heap.size/\∀j,j<W.heap.size->w.heap.size<=j->j≠m->some j≠v.ownBlock->b.heap[j]? = W.heap[j]?:=by
 obtain⟨c,d⟩:∃c,W.putObj m (.map (ents (l.map (·.2)++[p]) 0).toArray (l.length+1))=c:=⟨_,rfl⟩
 have s3:c.heap.size=W.heap.size:=by rw[<-d];simp[yAq]
 have z:=(UY.1 h.mp).1;have t:∀j,j≠m->c.heap[j]? = W.heap[j]?:=λj u=>by rw[<-d];exact World.putObj_heap_other u
 have i:=h.bl.trans ⟨by rw[<-d];rfl,by rw[<-d];rfl,by rw[<-d];rfl,oM,λj u=>t j (by have:=h.lm;omega)⟩;have C:=sH h.ow λg r=>t g (h.own_ne r).1
 have E:c.heap[m]? = some (.map (ents (l.map (·.2)++[p]) 0).toArray (l.length+1)):=by rw[<-d];exact World.putObj_heap_same z
 rw[d];have R4:=aE c (wn n++aA p) 226;have o:=aC c (.cells (wn n++aA p).toArray 226);have s4:(c.alloc (.cells (wn n++aA p).toArray 226)).heap.size=W.heap.size+1:=by rw[UD,s3]
 have D:=sH C λg r=>o.block g (by have:=(h.own_ne r).2.2;omega)
 rw[s3]at R4;obtain⟨f,b,F,a,q⟩:=Kf A D R4 B (by have:=i.size;omega);have x:some m≠v.ownBlock:=λe=>(h.own_ne e.symm).1 rfl
 refine⟨f,b,F,⟨?_,?_,h.lm,?_⟩,by have:=q.size;omega,λj u _ y s=>?_⟩
 ·exact(i.trans (o.mono i.size)).grown q (by have:=i.size;omega) (λk e=>(h.own_ne e).2.1)
 ·rw[q.block m oM x,o.block m oM,E,JG,UB];rfl
 ·rw[CM,UB];exact a
 ·rw[q.block j oM s,o.block j oM,t j y]
end
section
open Go.RowKit Go.Sort Go.Deep
variable {N:Nat}
section
variable {P:VD}{ops:Array Vk}{rest:List Vk}{op:Vk}{a:Act}{w w':Ut}{v x y z:Uv}{Q:X9->Act->Ut->Prop}
theorem zA(b:op.guard=none)(T:Vb)(m k:XM)(ok:Bool)(ho:op.op=.lookup T m k ok)(f:a.eval m=x)(d:a.eval k=y)(e:(yAu T x y ok).run P w=.ok v w')(h:wpList P ops Q rest (a.put op.dst v) w'):wpList P ops Q (op :: rest) a w:=
 Xd b λK c=>by
  unfold VT U9;simp only[ho,f,d,UW,e,Vr,WA];exact c _ _ h
theorem Gj(b:op.guard=none)(T:Vb)(m k u:XM)(ho:op.op=.mapUpdate T m k u)(f:a.eval m=x)(d:a.eval k=y)(g:a.eval u=z)(e:(Zf T x y z).run P w=.ok () w')(h:wpList P ops Q rest (a.put op.dst WJ) w'):wpList P ops Q (op :: rest) a w:=
 Xd b λK c=>by
  unfold VT U9;simp only[ho,f,d,g,UW,e,Vr,WA];exact c _ _ h
theorem lM(k:op.guard=none)(s u:XM)(t:Vb)(ho:op.op=.call { callee:=.builtin .append,args:=#[s,u],argTypes:=#[t,t] })(b:a.eval s=x)(e:a.eval u=y)(d:(Vx #[t,t] op.type #[x,y]).run P w=.ok v w')(h:wpList P ops Q rest (a.put op.dst v) w'):wpList P ops Q (op :: rest) a w:=
 Xd k λK c=>by
  unfold VT U9;simp only[ho,resolve,invoke,builtin,UW,WA,Vr,yA9,X4,yBI,b,e,d];exact c _ _ h
end
def zT:List Uv:=[uZ 0,uZ 0,uZ 0,uZ 0]++z33
theorem GB{W:Ut}{b k:Nat}{e:Vb}{s:Nat}{v:Uv}(h:W.ownsRow b e s v k xs):∃q cap,v=.slice q k cap:=by
 rcases h.2 with⟨rfl,rfl⟩|⟨g,cap,cur,rfl,-⟩
 ·exact⟨none,0,rfl⟩
 ·exact⟨some (aZ g),cap,rfl⟩
theorem AX(ns:Nat->Nat)(k:Nat->Bs):∀i,(mrg N ns k i).length<=i
 | 0=>Uy _
 | i+1=>by
  have b:=AX ns k i;have h:∀(l:List (Nat × Bs)) n p,(fB N l n p).length<=l.length+1:=by
   intro l n p;induction l with
   | nil=>exact Uy _
   | cons x r ihr =>
    unfold fB;split
    ·simp
    ·simp only[Vg];omega
  exact UE (h _ _ _) oM
theorem xE(ns:Nat->Nat)(c:Nat->Bs){k:Nat}(d:∀j,j<k->(c j).size=33):∀i,i<=k->∀x∈(mrg N ns c i).map (·.2),x.size=33
 | 0,_=>λx hx=>by cases hx
 | i+1,hi=>by
  have g:=xE ns c d i oM;have h:∀(l:List (Nat × Bs)) n p,p.size=33->(∀x∈l.map (·.2),x.size=33)->∀x∈(fB N l n p).map (·.2),x.size=33:=by
   intro l n p e;induction l with
   | nil=>intro _ x hx;simp[fB]at hx;rw[hx];exact e
   | cons y r ihr =>
    intro b x hx;unfold fB at hx;split at hx
    ·exact b x (by simpa using hx)
    ·rw[X4,V0]at hx;rcases hx with hx|hx
     ·exact b x (by rw[hx];simp)
     ·exact ihr (λz f=>b z (Vd _ f)) x hx
  exact h _ _ _ (d i oM) g
theorem lE:∀(l:List (Nat × Bs)),(∀x∈l.map (·.2),x.size=33)->∀(j:Nat) (k:j<l.length) (t:Nat),t<37->(aU l)[37*j+t]? = (wn (l[j]).1++aA (l[j]).2)[t]?
 | [],_,j,k,_,_=>by cases k
 | x :: r,hs,j,k,t,ht=>by
  have hx:(wn x.1++aA x.2).length=37:=by rw[UB,aB (hs x.2 (by simp))];rfl
  have e:aU (x :: r)=(wn x.1++aA x.2)++aU r:=by unfold aU;rw[ZI]
  rw[e];cases j with
  | zero =>
   rw[Zn,UF,UX oM];rfl
  | succ j =>
   rw[U4 oM,hx,show 37*(j+1)+t-37=37*j+t by omega,lE r (λy b=>hs y (Vd _ b)) j (by simpa using k) t ht];rfl
theorem sF{W:Ut}{k:Nat}{v:Uv}{l:List (Nat × Bs)}(h:W.ownsRow k 226 37 v l.length (aU l))(c:∀x∈l.map (·.2),x.size=33)(q:0<l.length):
 ∃g cap,v=sZ g l.length cap/\k<=g/\g<W.heap.size/\∀j (b:j<l.length),W.rangeAt g (37*j) (wn (l[j]).1++aA (l[j]).2):=by
 have n:=h;rcases h.2 with⟨-,d⟩|⟨g,cap,cur,rfl,m,d,p⟩
 ·omega
 ·refine⟨g,cap,rfl,m,(UY.1 d).1,λj b t u i=>?_⟩;have o:t<37:=by
   have:=(UG.1 i).1;rw[UB,aB (c _ (Vn.2 ⟨_,VI b,rfl⟩))]at this;exact this
  have f:=n.cells (g:=g) rfl (37*j+t) u (by rw[lE l c j b t o];exact i);have e:(⟨g,0,none⟩:Wv).add (37*j+t)=⟨g,37*j+t,none⟩:=by
   unfold Zr;split
   ·rename_i h;rw[h]
   ·simp
  rw[e]at f;exact f
end
section
open Go.RowKit Go.Sort Go.Deep
variable {P:Nat}[NeZero P]{N:Nat}
theorem Om(w:Ut):(zeroValue 226).run prog w=.ok (.agg zT.toArray) w:=kR
theorem Oo:∀v∈zT,v.oneCell'=true:=by
 intro v hv;unfold zT z33 at hv;rcases Ww.1 hv with h|h
 ·simp only[V0,U1,or_false]at h;rcases h with rfl|rfl|rfl|rfl<;>rfl
 ·rw[(List.mem_replicate.1 h).2];rfl
end
namespace RG
open Go Go.RowKit
variable {P:VD}{ops:Array Vk}{Q:X9->Act->Ut->Prop}{w:Ut}{a0:Act}{L:Array Bool}
structure Flow where
 R:Nat->Uv->Ut->Prop
 B:Nat->Ut->Prop
 E:Nat->Ut->Ut->Prop
 kill:Nat->List Nat
 killB:Nat->List Nat
def aX(k:Array Vk)(i:Nat):Option WF:=(k[i]?).bind (·.dst)
def depOn(b:Array Vk)(x k:Nat):Bool:=match b[x]? with|some o=>dB o k|none=>true
def okK(b:Array Vk)(k:Nat)(l:List Nat):Bool:=l.all (λx=>x == k || depOn b x k)
def oY(b:Array Vk)(k:Nat)(t:WF):Bool:=(VB b.size).all (λi=>aX b i != some t || i == k || depOn b i k)
structure InvF(F:Flow)(ops:Array Vk)(a0:Act)(L:Array Bool)(a:Act)(w:Ut):Prop where
 size:L.size=ops.size
 cl:∀(i:Nat) (o:Vk),ops[i]? = some o->on L i=true->∀e∈o.after,VM .any e=true->on L e.on=true
 def':a.defers=a0.defers
 sz:a.tmps.size=a0.tmps.size
 rest:∀t:WF,(∀i,on L i=true->aX ops i≠some t)->a.tmps[t]? = a0.tmps[t]?
 all:∃V:Nat->Uv,(∀i d,on L i=true->aX ops i=some d->a.tmps[d]? = some (V i))/\(∀i,on L i=true->(∀x∈F.kill i,on L x=false)->F.R i (V i) w)
 base:∀b,(∀x∈F.killB b,on L x=false)->F.B b w
def bF(P:VD)(Q:X9->Act->Ut->Prop)(F:Flow)(c:Array Vk)(a0:Act)(k:Nat)(o:Vk):Prop:=
 ∀(a:Act) (w:Ut) (K:Act->Ut->Prop),
  (∀j d,dB o j=true->okK c k (F.kill j)=true->aX c j=some d->F.R j (a.eval (.tmp d)) w) ->
  (∀t,oY c k t=true->a.eval (.tmp t)=a0.eval (.tmp t)) ->
  (∀b,okK c k (F.killB b)=true->F.B b w) ->
  (∀v w',F.E k w w'->F.R k v w'->K (a.put o.dst v) w')->o.wp P a w K Q
def As(P:VD)(Q:X9->Act->Ut->Prop)(F:Flow)(b:Array Vk)(a0:Act)(k:Nat)(o:Vk):Prop:=
 match o.guard with
 | none=>bF P Q F b a0 k o
 | some (j,want)=>dB o j=true/\(aX b j).isSome=true/\okK b k (F.kill j)=true /\
  (((∀v w,F.R j v w->v=.bool want)/\bF P Q F b a0 k o)\/((∀v w,F.R j v w->v=.bool (!want))/\∀w,F.E k w w/\F.R k WJ w))
def Bf(k:Array Vk)(n:Nat):Bool:=
 (VB k.size).all (λi=>match k[i]? with
  | some o=>o.after.all (λe=>!VM .any e || e.on<i) && (match o.dst with|none=>true|some d=>decide (d<n) && (VB k.size).all (λj=>j == i || aX k j != some d))
  | none=>false)
structure RegF(P:VD)(Q:X9->Act->Ut->Prop)(F:Flow)(ops:Array Vk)(a0:Act)(m:Nat):Prop where
 chk:Bf ops a0.tmps.size=true
 cert:∀k o,k<m->ops[k]? = some o->As P Q F ops a0 k o
 stab:∀i j,i<m->j<m->i≠j->(F.kill j).contains i=false->depOn ops j i=false->∀v w w',F.E i w w'->F.R j v w->F.R j v w'
 stabB:∀i b,i<m->(F.killB b).contains i=false->∀w w',F.E i w w'->F.B b w->F.B b w'
variable {F:Flow}{m:Nat}
theorem RegF.of{k:Nat}{o:Vk}(h:RegF P Q F ops a0 m)(ho:ops[k]? = some o):(∀e∈o.after,VM .any e=true->e.on<k)/\∀d,o.dst=some d->d<a0.tmps.size/\∀j,aX ops j=some d->j=k:=by
 have i:=(UY.1 ho).1;have g:=Va.1 h.chk k (VS.2 i);rw[ho]at g;simp only[UN]at g;obtain⟨p,c⟩:=g;refine⟨λe n l=>?_,λd hd=>?_⟩
 ·have:=WR.1 p e n;simpa[l]using this
 ·rw[hd]at c;simp only[UN,decide_eq_true_eq]at c;refine⟨c.1,λj b=>?_⟩;have f:j<ops.size:=by
   unfold aX at b;cases hx:ops[j]? with
   | none=>rw[hx]at b;cases b
   | some x=>exact(UY.1 hx).1
  have:=Va.1 c.2 j (VS.2 f);simpa[b]using this
theorem eY{i:Nat}{o:Vk}(ho:ops[i]? = some o):aX ops i=o.dst:=by unfold aX;rw[ho];rfl
theorem Bc{a:Act}{x k:Nat}{o:Vk}(h:InvF F ops a0 L a w){ho:ops[x]? = some o}(hd:dB o k=true)(hx:on L x=true):on L k=true:=by
 obtain⟨e,c,b⟩:=Xs.1 hd;simp only[UN,beq_iff_eq]at b;rw[<-b.2];exact h.cl x o ho hx e c b.1
theorem zV{L:Array Bool}{x:Nat}(h:on L x=true):x<L.size:=by
 rcases VV x L.size with k|k
 ·exact k
 ·unfold on at h;rw[UJ,Array.getElem?_eq_none k]at h;cases h
theorem InvF.nt{k:Nat}{a:Act}(c:on L k=false)(h:InvF F ops a0 L a w)(x:Nat)(hx:(x == k || depOn ops x k)=true):on L x=false:=by
 cases b:on L x with
 | false=>rfl
 | true =>
  rcases WV _ _ ▸ hx with e|e
  ·rw[show x=k by simpa using e,c]at b;cases b
  ·unfold depOn at e;have f:x<ops.size:=by rw[<-h.size];exact zV b
   have d:=UZ f;rw[d]at e;have:=Bc (ho:=d) h e b;rw[c]at this;cases this
theorem InvF.nx{k:Nat}{o:Vk}{a:Act}{v:Uv}{w':Ut}(R:RegF P Q F ops a0 m)(s:k<m)(D:∀i,on L i=true->i<m)(ho:ops[k]? = some o)(G:on L k=false)(z:∀e∈o.after,VM .any e=true->on L e.on=true)(h:InvF F ops a0 L a w)(hE:F.E k w w')(hR:F.R k v w'):InvF F ops a0 (L.setIfInBounds k true) (a.put o.dst v) w':=by
 obtain⟨H,n⟩:=R.of ho;have J:=(UY.1 ho).1;have C:k<L.size:=by rw[h.size];exact J
 have r:=eY ho;have y:=λx hx=>h.nt G x hx
 obtain⟨V,I,E⟩:=h.all;have f:∀x,on (L.setIfInBounds k true) x=(on L x || k == x):=λx=>dD C
 refine⟨by rw[Vz];exact h.size,λi S p j e N B=>?_,?_,?_,λt M=>?_,⟨λx=>if x=k then v else V x,λi d j hd=>?_,λi j q=>?_⟩,λb B=>?_⟩
 ·rw[f]at j⊢;by_cases c:k=i
  ·subst c;rw[ho]at p;obtain rfl:=UP.inj p;rw[z e N B,XX]
  ·rw[h.cl i S p (by simpa[c]using j) e N B,XX]
 ·rw[<-h.def'];cases o.dst<;>rfl
 ·rw[qR];exact h.sz
 ·have u:o.dst≠some t:=λhd=>M k (by rw[f];simp) (by rw[r];exact hd)
  rw[nW a v u];exact h.rest t λi j=>M i (by rw[f,j,XX])
 ·rw[f]at j;by_cases c:i=k
  ·subst c;rw[r]at hd;rw[hd];show(a.tmps.setIfInBounds d v)[d]? = some (if i=i then v else V i);rw[yCk (rfl:i=i)];rw[WL,yCk rfl,yCk (by rw[h.sz];exact(n d hd).1)]
  ·have l:o.dst≠some d:=λA=>c ((n d A).2 i hd)
   rw[nW a v l];show _=some (if i=k then v else V i);rw[yCl c];have g:¬k=i:=λe=>c e.symm
   exact I i d (by simpa[g]using j) hd
 ·rw[f]at j;by_cases c:i=k
  ·subst c;show F.R i (if i=i then v else V i) w';rw[yCk rfl];exact hR
  ·show F.R i (if i=k then v else V i) w';rw[yCl c];have g:¬k=i:=λe=>c e.symm
   have l:on L i=true:=by simpa[g]using j
   have u:∀x∈F.kill i,on L x=false:=λx hx=>by
    have:=q x hx;rw[f,yAG]at this;exact this.1
   have K:(F.kill i).contains k=false:=by
    cases A:(F.kill i).contains k with
    | false=>rfl
    | true =>
     have:=q k (by simpa using A);rw[f]at this;simp at this
   have O:depOn ops i k=false:=by
    cases A:depOn ops i k with
    | false=>rfl
    | true=>rw[y i (by rw[A,Bool.or_true])]at l;cases l
   exact R.stab k i s (D i l) (YL c) K O _ _ _ hE (E i l u)
 ·have u:∀x∈F.killB b,on L x=false:=λx hx=>by
   have:=B x hx;rw[f,yAG]at this;exact this.1
  have K:(F.killB b).contains k=false:=by
   cases A:(F.killB b).contains k with
   | false=>rfl
   | true =>
    have:=B k (by simpa using A);rw[f]at this;simp at this
  exact R.stabB k b s K _ _ hE (h.base b u)
theorem BM{k:Nat}{o:Vk}{a:Act}(R:RegF P Q F ops a0 m)(z:k<m)(I:∀i,on L i=true->i<m)(ho:ops[k]? = some o)(C:on L k=false)(r:∀e∈o.after,VM .any e=true->on L e.on=true)(h:InvF F ops a0 L a w):
 wpOp P ops Q k (InvF F ops a0 (L.setIfInBounds k true)) a w:=by
 obtain⟨N,U⟩:=R.of ho;have T:=(UY.1 ho).1;have Z:k<L.size:=by rw[h.size];exact T
 have Y:=eY ho;have n:=λx hx=>h.nt C x hx
 obtain⟨V,O,M⟩:=h.all;have s:∀j d,dB o j=true->okK ops k (F.kill j)=true->aX ops j=some d->a.tmps[d]? = some (V j)/\F.R j (V j) w:=λj d G q hd=>by
  obtain⟨e,f,y⟩:=Xs.1 G;simp only[UN,beq_iff_eq]at y;have c:on L j=true:=by rw[<-y.2];exact r e f y.1
  exact⟨O j d c hd,M j c λx hx=>n x (Va.1 q x hx)⟩
 have l:∀j d,dB o j=true->okK ops k (F.kill j)=true->aX ops j=some d->F.R j (a.eval (.tmp d)) w:=λj d G q hd=>by
  rw[A8 (s j d G q hd).1];exact(s j d G q hd).2
 have p:∀t,oY ops k t=true->a.eval (.tmp t)=a0.eval (.tmp t):=λt hf=>by
  have A:=h.rest t λi f hd=>by
   have c:i<ops.size:=by rw[<-h.size];exact zV f
   have g:=Va.1 hf i (VS.2 c);rw[hd]at g;have u:(i == k || depOn ops i k)=true:=by simpa using g
   rw[n i u]at f;cases f
  show a.tmps.getD t WJ=a0.tmps.getD t WJ;rw[UJ,UJ,A]
 have g:∀b,okK ops k (F.killB b)=true->F.B b w:=λb y=>h.base b λx hx=>n x (Va.1 y x hx)
 have f:=λv w' hE hR=>h.nx (v:=v) (w':=w') R z I ho C r hE hR
 have D:=R.cert k o z ho;unfold As at D;unfold wpOp;rw[ho];dsimp only;cases E:o.guard with
 | none =>
  rw[E]at D;rw[BD E,yCk rfl];left;exact D a w _ l p g f
 | some jw =>
  obtain⟨j,c⟩:=jw;rw[E]at D;obtain⟨J,S,K,u⟩:=D;obtain⟨d,hd⟩:=Vu.1 S;obtain⟨X,B⟩:=s j d J K hd;have W:∀b,V j=.bool b->V5 o (yielded ops a.tmps)=(b == c):=λb y=>by
   have H:yielded ops a.tmps j=some b:=by
    unfold aX at hd;unfold yielded;cases A:ops[j]? with
    | none=>rw[A]at hd;cases hd
    | some oj =>
     rw[A]at hd;show(match oj.dst.bind (a.tmps[·]?) with|some (.bool b)=>some b|_=>none)=_;rw[show oj.dst=some d from hd];show(match a.tmps[d]? with|some (.bool b)=>some b|_=>none)=_;rw[X,y]
   unfold V5;rw[E];show(yielded ops a.tmps j == some c)=_;rw[H];cases b<;>cases c<;>rfl
  rcases u with⟨H,hc⟩|⟨H,A⟩
  ·rw[W _ (H _ _ B),show(c == c)=true by cases c<;>rfl,yCk rfl];left;exact hc a w _ l p g f
  ·rw[W _ (H _ _ B),show((!c) == c)=false by cases c<;>rfl];exact f WJ w (A w).1 (A w).2
def bU(V:Nat->Uv):List Vk->Nat->Act->Act
 | [],_,a=>a
 | o :: r,i,a=>bU V r (i+1) (a.put o.dst (V i))
theorem nE(V:Nat->Uv):∀(l:List Vk) (i:Nat) (a:Act),(bU V l i a).defers=a.defers
 | [],_,_=>rfl
 | o :: r,i,a=>by
  rw[bU,nE V r];cases o.dst<;>rfl
theorem lY(V:Nat->Uv):∀(l:List Vk) (i:Nat) (a:Act) (t:WF),(∀o∈l,o.dst≠some t)->(bU V l i a).tmps[t]? = a.tmps[t]?
 | [],_,_,_,_=>rfl
 | o :: r,i,a,t,h=>by
  rw[bU,lY V r _ _ t (λx hx=>h x (Vd _ hx)),nW a _ (h o Vo)]
theorem rW(V:Nat->Uv):∀(l:List Vk) (i:Nat) (a:Act) (j:Nat) (o:Vk) (d:WF),l[j]? = some o->o.dst=some d->(∀k b,l[k]? = some b->b.dst=some d->k=j)->d<a.tmps.size->(bU V l i a).tmps[d]? = some (V (i+j))
 | [],_,_,_,_,_,h,_,_,_=>by simp at h
 | x :: r,i,a,0,o,d,h,hd,hu,hs=>by
  obtain rfl:x=o:=by simpa using h
  rw[bU,lY V r _ _ d (λy f e=>by
   obtain⟨k,c⟩:=WS f;have:=hu (k+1) y (by simpa using c) e;omega),hd]
  show(a.tmps.setIfInBounds d _)[d]? = _;rw[WL,yCk rfl,yCk hs];rfl
 | x :: r,i,a,j+1,o,d,h,hd,hu,hs=>by
  rw[bU,rW V r (i+1) _ j o d (by simpa using h) hd (λk b e c=>by
   have:=hu (k+1) b (by simpa using e) c;omega) (by rw[qR];exact hs)]
  congr 2
  omega
theorem InvF.done{a:Act}(R:RegF P Q F ops a0 m)(h:InvF F ops a0 L a w)(k:∀i,i<ops.size->on L i=true)
 (l:∀(V:Nat->Uv),(∀i,i<ops.size->F.kill i=[]->F.R i (V i) w)->(∀b,F.killB b=[]->F.B b w)->Q .normal (bU V ops.toList 0 a0) w):Q .normal a w:=by
 obtain⟨V,j,f⟩:=h.all;have e:a=bU V ops.toList 0 a0:=by
  refine Act.ext' ?_ (by rw[nE];exact h.def');apply yAQ;intro t;by_cases d:∃(i:Nat) (o:Vk),ops[i]? = some o/\o.dst=some t
  ·obtain⟨i,o,ho,hd⟩:=d;rw[j i t (k i (UY.1 ho).1) (by rw[eY ho];exact hd)];rw[rW V ops.toList 0 a0 i o t (by rw[Vt];exact ho) hd (λn p c g=>((R.of ho).2 t hd).2 n (by rw[Vt]at c;rw[eY c];exact g)) ((R.of ho).2 t hd).1,UF]
  ·rw[h.rest t (λi c hd=>?_),lY V ops.toList 0 a0 t (λo g hd=>?_)]
   ·obtain⟨i,c⟩:=WS g;rw[Vt]at c;exact d ⟨i,o,c,hd⟩
   ·unfold aX at hd;cases hx:ops[i]? with
    | none=>rw[hx]at hd;cases hd
    | some x=>rw[hx]at hd;exact d ⟨i,x,hx,hd⟩
 rw[e];exact l V (λi c d=>f i (k i c) (by rw[d];simp)) (λb g=>h.base b (by rw[g];simp))
theorem InvF.full{a:Act}(R:RegF P Q F ops a0 m)(h:InvF F ops a0 L a w)(d:U7 .any ops L=[]):∀i,i<ops.size->on L i=true:=by
 intro i;induction i using Nat.strongRecOn with
 | ind i ih =>
  intro c;have ho:ops[i]? = some ops[i]:=UZ _;cases k:on L i with
  | true=>rfl
  | false =>
   have:i∈U7 .any ops L:=mem_ready.2 ⟨?_,_,ho,λe g f=>?_⟩
   ·rw[d]at this;cases this
   ·unfold on at k;rw[UJ,UZ (by rw[h.size];exact c)]at k⊢;exact k
   ·have b:=(R.of ho).1 e g f;exact ih e.on b (Nat.lt_trans b c)
theorem qF(F:Flow)(s:P.follows .mixedOrders=true)(R:RegF P Q F ops a0 ops.size)(r:∀b,F.B b w.drew)
 (m:∀(V:Nat->Uv) (w':Ut),(∀i,i<ops.size->F.kill i=[]->F.R i (V i) w')->(∀b,F.killB b=[]->F.B b w')->Q .normal (bU V ops.toList 0 a0) w'):(V3 id ops true).wp P Q a0 w:=by
 have key:∀(k:Nat) (L:Array Bool) (a:Act) (w:Ut),unl L=k->InvF F ops a0 L a w->wpAny P .any ops Q k L a w:=by
  intro k;induction k with
  | zero =>
   intro L a w n f;have c:∀i,i<ops.size->on L i=true:=λi g=>gU n i (by rw[f.size];exact g)
   refine⟨?_,f.done R c (λV=>m V w)⟩;apply YE.2;intro i g;obtain⟨e,o,ho,-⟩:=mem_ready.1 g;have j:=c i (UY.1 ho).1;unfold on at j;rw[UJ]at e j;cases hh:L[i]? with
   | none=>rw[hh]at e;cases e
   | some b=>rw[hh]at e j;rw[show b=false from e]at j;cases j
  | succ k ih =>
   intro L a w n f;refine⟨λq=>f.done R (f.full R q) (λV=>m V w),λi g=>?_⟩;obtain⟨e,o,ho,j⟩:=mem_ready.1 g;have c:on L i=false:=by
    unfold on;rw[UJ]at e⊢;cases hh:L[i]? with
    | none=>rfl
    | some b=>rw[hh]at e;exact e
   exact X8 (λp w' l=>ih _ p w' (by have:=iO e;omega) l) (BM R (UY.1 ho).1 (λi g=>by rw[<-f.size];exact zV g) ho c j f)
 have c:∀i,on (UM ops.size false) i=false:=λi=>by
  unfold on;rw[UJ,Xu];by_cases h:i<ops.size
  ·rw[yCk h];rfl
  ·rw[yCl h];rfl
 refine Z5 s (key _ _ a0 _ ?_ ⟨UO,(λi o _ h=>by rw[c]at h;cases h),rfl,rfl,λ_ _=>rfl,⟨λ_=>WJ,λi d h=>(by rw[c]at h;cases h),λi h=>(by rw[c]at h;cases h)⟩,λb _=>r b⟩);unfold unl;rw[XT,Zk];simp
structure PreF(F:Flow)(ops:Array Vk)(a0:Act)(k:Nat)(o:Vk)(a:Act)(w:Ut):Prop where
 n:∀j d,dB o j=true->okK ops k (F.kill j)=true->aX ops j=some d->F.R j (a.eval (.tmp d)) w
 o:∀t,oY ops k t=true->a.eval (.tmp t)=a0.eval (.tmp t)
 b:∀b,okK ops k (F.killB b)=true->F.B b w
def iM(P:VD)(Q:X9->Act->Ut->Prop)(F:Flow)(b:Array Vk)(a0:Act):Nat->List Vk->Prop
 | _,[]=>True
 | k,o :: r=>As P Q F b a0 k o/\iM P Q F b a0 (k+1) r
theorem yJ:∀(l:List Vk) (i:Nat),iM P Q F ops a0 i l->∀k o,l[k]? = some o->As P Q F ops a0 (i+k) o
 | [],_,_,k,o,h=>by simp at h
 | x :: r,i,hc,0,o,h=>by
  obtain rfl:x=o:=by simpa using h
  exact hc.1
 | x :: r,i,hc,k+1,o,h=>by
  have:=yJ r (i+1) hc.2 k o (by simpa using h);rwa[show i+1+k=i+(k+1) by omega]at this
theorem CG(h:iM P Q F ops a0 0 ops.toList):∀k o,k<ops.size->ops[k]? = some o->As P Q F ops a0 k o:=λk o _ ho=>by
 have:=yJ ops.toList 0 h k o (by rw[Vt];exact ho);rwa[UF]at this
def evo(ev:WF->Uv):XM->Uv
 | .tmp t=>ev t
 | .const v=>v
 | .global g=>jZ g
 | .func f=>.func (.func f) #[] #[]
def dA(T:List WF)(o:Vk):Bool:=
 (match o.op with | .select _ _=>false|_=>true) && o.op.operands.all (λx=>match x with | .tmp t=>T.contains t|_=>true)
theorem iY{a:Act}{o:Vk}(ev:WF->Uv)(T:List WF)(h:dA T o=true)(k:∀t∈T,a.eval (.tmp t)=ev t):U9 a.eval o=U9 (evo ev) o:=by
 simp only[dA,UN]at h;refine execOp_congr o (λcs b k=>?_) (λx hx=>?_)
 ·rw[k]at h;exact absurd h.1 (by simp)
 ·have c:=WR.1 h.2 x hx;cases x with
  | tmp t=>exact k t (by simpa using c)
  | const v=>rfl
  | global g=>rfl
  | func f=>rfl
theorem mG{k:Nat}{o:Vk}(h:∀(a:Act) (w:Ut),PreF F ops a0 k o a w->∃v w',(U9 a.eval o).run P w=.ok (.value v) w'/\F.E k w w'/\F.R k v w'):bF P Q F ops a0 k o:=by
 intro a w K e f d b;obtain⟨v,w',c,hE,hR⟩:=h a w ⟨e,f,d⟩;unfold VT;rw[c];exact b v w' hE hR
theorem mH{k:Nat}{o:Vk}(t:WF)(h:∀(a:Act) (w:Ut),PreF F ops a0 k o a w->∃v w',(dA [t] o=true)/\(U9 (evo λ_=>a.eval (.tmp t)) o).run P w=.ok (.value v) w'/\F.E k w w'/\F.R k v w'):bF P Q F ops a0 k o:=by
 refine mG λa w c=>?_
 obtain⟨v,w',b,d,hE⟩:=h a w c;refine⟨v,w',?_,hE⟩;rw[iY (λ_=>a.eval (.tmp t)) [t] b (λx hx=>by rw[show x=t by simpa using hx])];exact d
theorem FH{k:Nat}{o:Vk}(t:WF)(h:∀(a:Act) (w:Ut),PreF F ops a0 k o a w->∃f args,(dA [t] o=true)/\(U9 (evo λ_=>a.eval (.tmp t)) o).run P w=.ok (.enter f args) w/\UK P f args w (Ret λe w'=>F.E k w w'/\F.R k e w')):bF P Q F ops a0 k o:=by
 intro a w K g j d c;obtain⟨f,args,b,i,l⟩:=h a w ⟨g,j,d⟩;unfold VT;rw[iY (λ_=>a.eval (.tmp t)) [t] b (λx hx=>by rw[show x=t by simpa using hx]),i,WU];refine l.mono ?_;rintro e w' ⟨v,rfl,hE,hR⟩;exact c _ _ hE hR
theorem Bh{k:Nat}{o:Vk}(T:Vb)(t:WF)(ho:o.op=.load T (.tmp t))(b:(P.underlying T).map (·.isRow)=some true)
 (h:∀(a:Act) (w:Ut),PreF F ops a0 k o a w->∃g off cs,a.eval (.tmp t)=oZ g off/\w.rangeAt g off cs/\(P.info? T).map (·.size)=some cs.length/\F.E k w w/\F.R k (.agg cs.toArray) w):bF P Q F ops a0 k o:=by
 intro a w K f l e c;obtain⟨g,off,cs,j,i,m,hE,hR⟩:=h a w ⟨f,l,e⟩;obtain⟨d,b,hd⟩:=UA.1 b;exact wp_load_mid T (.tmp t) ho g off j cs d i b hd m (c _ _ hE hR)
theorem JW{k:Nat}{o:Vk}(s u:WF)(t:Vb)(ho:o.op=.call { callee:=.builtin .append,args:=#[.tmp s,.tmp u],argTypes:=#[t,t] })
 (h:∀(a:Act) (w:Ut),PreF F ops a0 k o a w->∃v w',(Vx #[t,t] o.type #[a.eval (.tmp s),a.eval (.tmp u)]).run P w=.ok v w'/\F.E k w w'/\F.R k v w'):bF P Q F ops a0 k o:=by
 intro a w K d f c b;obtain⟨v,w',e,hE,hR⟩:=h a w ⟨d,f,c⟩;unfold VT U9;simp only[ho,resolve,invoke,builtin,UW,WA,Vr,yA9,X4,yBI,e];exact b _ _ hE hR
theorem sW(h:iM P Q F ops a0 0 (ops.toList.take m)):∀k o,k<m->ops[k]? = some o->As P Q F ops a0 k o:=λk o b ho=>by
 have:=yJ (ops.toList.take m) 0 h k o (by rw[WI,yCk b,Vt];exact ho);rwa[UF]at this
theorem InvF.act{a:Act}(R:RegF P Q F ops a0 m)(h:InvF F ops a0 L a w)(n:m<=ops.size)(c:∀i,on L i=true↔i<m){V:Nat->Uv}(g:∀i d,on L i=true->aX ops i=some d->a.tmps[d]? = some (V i)):a=bU V (ops.toList.take m) 0 a0:=by
 refine Act.ext' ?_ (by rw[nE];exact h.def');apply yAQ;intro t;by_cases e:∃(i:Nat) (o:Vk),i<m/\ops[i]? = some o/\o.dst=some t
 ·obtain⟨i,o,b,ho,hd⟩:=e;rw[g i t ((c i).2 b) (by rw[eY ho];exact hd)];rw[rW V (ops.toList.take m) 0 a0 i o t (by rw[WI,yCk b,Vt];exact ho) hd (λj l k f=>((R.of ho).2 t hd).2 j (by
   rw[WI]at k;split at k
   ·rw[Vt]at k;rw[eY k];exact f
   ·cases k)) ((R.of ho).2 t hd).1,UF]
 ·rw[h.rest t (λi k hd=>?_),lY V (ops.toList.take m) 0 a0 t (λo f hd=>?_)]
  ·obtain⟨i,k⟩:=WS f;rw[WI]at k;split at k
   ·rename_i b
    rw[Vt]at k;exact e ⟨i,o,b,k,hd⟩
   ·cases k
  ·unfold aX at hd;cases hx:ops[i]? with
   | none=>rw[hx]at hd;cases hd
   | some x=>rw[hx]at hd;exact e ⟨i,x,(c i).1 k,hx,hd⟩
theorem GO(F:Flow)(n:Nat)(Y:ops.size=n+1)(hd:(VB n).all (λj=>depOn ops n j || (VB n).any (λi=>depOn ops n i && depOn ops i j))=true)(W:P.follows .mixedOrders=true)(R:RegF P Q F ops a0 n)(S:∀b,F.B b w.drew)
 (N:∀(V:Nat->Uv) (w':Ut),(∀i,i<n->F.kill i=[]->F.R i (V i) w')->(∀b,F.killB b=[]->F.B b w')->wpList P ops Q (ops.toList.drop n) (bU V (ops.toList.take n) 0 a0) w'):(V3 id ops true).wp P Q a0 w:=by
 have key:∀(c:Nat) (L:Array Bool) (a:Act) (w:Ut),unl L=c->on L n=false->InvF F ops a0 L a w->wpAny P .any ops Q c L a w:=by
  intro c;induction c with
  | zero =>
   intro L a w M k p;have:=gU M n (by rw[p.size];omega);rw[k]at this;cases this
  | succ c ih =>
   intro L a w M k p;refine⟨λC=>?_,λi X=>?_⟩
   ·have:=p.full R C n oM;rw[k]at this;cases this
   ·obtain⟨r,o,ho,t⟩:=mem_ready.1 X;have D:=(UY.1 ho).1;have H:on L i=false:=by
     unfold on;rw[UJ]at r⊢;cases hh:L[i]? with
     | none=>rfl
     | some b=>rw[hh]at r;exact r
    by_cases z:i=n
    ·subst z;have q:∀j,on L j=true↔j<i:=λj=>by
      constructor
      ·intro m;have g:j<ops.size:=by rw[<-p.size];exact zV m
       rcases VV j i with h|h
       ·exact h
       ·obtain rfl:j=i:=oM;rw[k]at m;cases m
      ·intro m;have s:∀j,depOn ops i j=true->on L j=true:=λj g=>by
        unfold depOn at g;rw[ho]at g;obtain⟨e,u,A⟩:=Xs.1 g;simp only[UN,beq_iff_eq]at A;have:=t e u A.1;rw[A.2]at this;exact this
       have g:=Va.1 hd j (VS.2 m);rw[WV]at g;rcases g with g|g
       ·exact s j g
       ·obtain⟨x,hx,v⟩:=List.any_eq_true.1 g;rw[UN]at v;have E:=s x v.1;have y:x<ops.size:=by have:=VS.1 hx;omega
        have u:=UZ y;have B:=v.2;unfold depOn at B;rw[u]at B;exact Bc (ho:=u) p B E
     obtain⟨V,G,E⟩:=p.all;have T:=p.act R oM q G;have v:∀l:List Nat,l=[]->∀x∈l,on L x=false:=λl U x hx=>by rw[U]at hx;cases hx
     have s:=N V w (λj m O=>E j ((q j).2 m) (v _ O)) (λb A=>p.base b (v _ A));have u:ops.toList.drop i=[o]:=by
      have y:ops.toList.length=i+1:=by rw[UL];exact Y
      rw[yAe oM,List.drop_of_length_le oM];have:ops.toList[i]? = some o:=by rw[Vt];exact ho
      rw[UI oM]at this;rw[UP.inj this]
     rw[u,<-T]at s;have J:wpOp P ops Q i (λB w'=>Q .normal B w') a w:=by
      unfold wpOp;rw[ho];exact s
     refine X8 (λB w' K=>?_) J;have y:∀j,j<ops.size->on (L.setIfInBounds i true) j=true:=λj m=>by
      rw[dD (by rw[p.size];omega)];by_cases h:j<i
      ·rw[(q j).2 h,XX]
      ·rw[show j=i by omega];simp
     have C:U7 .any ops (L.setIfInBounds i true)=[]:=by
      apply YE.2;intro j m;obtain⟨r,Z,I,-⟩:=mem_ready.1 m;have g:=y j (UY.1 I).1;unfold on at g;rw[UJ]at r g;cases hh:(L.setIfInBounds i true)[j]? with
      | none=>rw[hh]at r;cases r
      | some b=>rw[hh]at r g;rw[show b=false from r]at g;cases g
     cases c with
     | zero=>exact⟨C,K⟩
     | succ f=>exact⟨λ_=>K,λj m=>by rw[C]at m;cases m⟩
    ·refine X8 (λB w' q=>ih _ B w' (by have:=iO r;omega) ?_ q) (BM R oM (λj m=>?_) ho H t p)
     ·rw[dD (by rw[p.size];exact D),k];simpa using z
     ·have g:j<ops.size:=by rw[<-p.size];exact zV m
      rcases VV j n with h|h
      ·exact h
      ·obtain rfl:j=n:=oM;rw[k]at m;cases m
 have k:∀i,on (UM ops.size false) i=false:=λi=>by
  unfold on;rw[UJ,Xu];by_cases h:i<ops.size
  ·rw[yCk h];rfl
  ·rw[yCl h];rfl
 refine Z5 W (key _ _ a0 _ ?_ (k n) ⟨UO,(λi o _ h=>by rw[k]at h;cases h),rfl,rfl,λ_ _=>rfl,⟨λ_=>WJ,λi d h=>(by rw[k]at h;cases h),λi h=>(by rw[k]at h;cases h)⟩,λb _=>S b⟩);unfold unl;rw[XT,Zk];simp
end RG
namespace RG
open Go Go.RowKit
variable {P:VD}{ops:Array Vk}{Q:X9->Act->Ut->Prop}{w:Ut}{a0:Act}
def AllE(a:Act):List (WF × Uv)->Prop
 | []=>True
 | x :: r=>a.eval (.tmp x.1)=x.2/\AllE a r
def evl(k:List (WF × Uv))(t:WF):Uv:=match k.find? (λx=>x.1 == t) with|some x=>x.2|none=>WJ
theorem AllE.mem{a:Act}:∀ {k:List (WF × Uv)},AllE a k->∀x∈k,a.eval (.tmp x.1)=x.2
 | [],_,x,hx=>by cases hx
 | y :: r,h,x,hx=>by
  rcases V0.1 hx with rfl|hx
  ·exact h.1
  ·exact AllE.mem h.2 x hx
theorem AllE.ev{a:Act}{k:List (WF × Uv)}(h:AllE a k):∀t∈k.map (·.1),a.eval (.tmp t)=evl k t:=λt d=>by
 obtain⟨x,hx,rfl⟩:=Vn.1 d;unfold evl;cases hf:k.find? (λy=>y.1 == x.1) with
 | none =>
  have:=List.find?_eq_none.1 hf x hx;simp at this
 | some y =>
  have b:=List.mem_of_find?_eq_some hf;have c:y.1=x.1:=by simpa using List.find?_some hf
  have:=h.mem y b;rw[c]at this;exact this
structure Gw where
 R:Nat->Uv->Ut->Prop
 B:Ut->Prop
 sR:∀i v w w',kZ w w'->R i v w->R i v w'
 sB:∀w w',kZ w w'->B w->B w'
def Gw.flow(G:Gw):Flow:=⟨G.R,λ_=>G.B,λ_ w w'=>kZ w w',λ_=>[],λ_=>[]⟩
structure PreG(G:Gw)(ops:Array Vk)(a0:Act)(k:Nat)(o:Vk)(a:Act)(w:Ut):Prop where
 n:∀j d,dB o j=true->aX ops j=some d->G.R j (a.eval (.tmp d)) w
 o:∀t,oY ops k t=true->a.eval (.tmp t)=a0.eval (.tmp t)
 b:G.B w
variable {G:Gw}
theorem rX{k:Nat}{o:Vk}{a:Act}(h:PreF G.flow ops a0 k o a w):PreG G ops a0 k o a w:=⟨λj d b hd=>h.n j d b rfl hd,h.o,h.b 0 rfl⟩
theorem bN{k:Nat}{o:Vk}(h:∀(a:Act) (w:Ut),PreG G ops a0 k o a w->∃(b:List (WF × Uv)) (v:Uv) (w':Ut),AllE a b/\(dA (b.map (·.1)) o,(U9 (evo (evl b)) o).run P w)=(true,.ok (.value v) w')/\kZ w w'/\G.R k v w'):bF P Q G.flow ops a0 k o:=
 mG λa w d=>by
  obtain⟨b,v,w',e,c,hE⟩:=h a w (rX d);simp only[We.injEq]at c;refine⟨v,w',?_,hE⟩;rw[iY (evl b) (b.map (·.1)) c.1 e.ev];exact c.2
theorem gK{k:Nat}{o:Vk}(h:∀(a:Act) (w:Ut),PreG G ops a0 k o a w->∃(b:List (WF × Uv)) (f:Xl) (args:Array Uv),AllE a b/\(dA (b.map (·.1)) o,(U9 (evo (evl b)) o).run P w)=(true,.ok (.enter f args) w)/\UK P f args w (rZ w λe w'=>G.R k e w')):bF P Q G.flow ops a0 k o:=by
 intro a w K i l g d;obtain⟨b,f,args,j,c,m⟩:=h a w (rX ⟨i,l,g⟩);simp only[We.injEq]at c;unfold VT;rw[iY (evl b) (b.map (·.1)) c.1 j.ev,c.2,WU];refine m.mono ?_;rintro e w' ⟨v,rfl,hE,hR⟩;exact d _ _ hE hR
theorem iW{k:Nat}{o:Vk}(T:Vb)(t:WF)(ho:o.op=.load T (.tmp t))(f:(P.underlying T).map (·.isRow)=some true)
 (h:∀(a:Act) (w:Ut),PreG G ops a0 k o a w->∃g off cs,a.eval (.tmp t)=oZ g off/\w.rangeAt g off cs/\(P.info? T).map (·.size)=some cs.length/\G.R k (.agg cs.toArray) w):bF P Q G.flow ops a0 k o:=
 Bh T t ho f λa w b=>by
  obtain⟨g,off,cs,d,i,e,c⟩:=h a w (rX b);exact⟨g,off,cs,d,i,e,UT _ _,c⟩
theorem Jq{k:Nat}{o:Vk}(op:BinOp)(T d:Vb)(t1 t2:WF)(ho:o.op=.binOp op T (.tmp t1) (.tmp t2) d)
 (h:∀(a:Act) (w:Ut),PreG G ops a0 k o a w->∃v1 v2 v,a.eval (.tmp t1)=v1/\a.eval (.tmp t2)=v2/\(eqGuard op T (.tmp t1) (.tmp t2) v1 v2).run P w=.ok () w/\(binOp op T v1 v2).run P w=.ok v w/\G.R k v w):bF P Q G.flow ops a0 k o:=
 mG λa w e=>by
  obtain⟨v1,v2,v,c,f,b,g,hR⟩:=h a w (rX e);refine⟨v,w,?_,UT _ _,hR⟩;unfold U9;rw[ho];dsimp only;rw[c,f,UW,UW,b];dsimp only[Result.andThen];rw[g];rfl
theorem Gw.reg{m:Nat}(k:Bf ops a0.tmps.size=true)(h:iM P Q G.flow ops a0 0 (ops.toList.take m)):RegF P Q G.flow ops a0 m:=
 ⟨k,sW h,λi j _ _ _ _ _ v w w' hE hR=>G.sR j v w w' hE hR,λi b _ _ w w' hE c=>G.sB w w' hE c⟩
theorem Gw.draws(G:Gw)(c:P.follows .mixedOrders=true)(k:Bf ops a0.tmps.size=true)(h:iM P Q G.flow ops a0 0 (ops.toList.take ops.size))(e:G.B w.drew)
 (b:∀(V:Nat->Uv) (w':Ut),(∀i,i<ops.size->G.R i (V i) w')->G.B w'->Q .normal (bU V ops.toList 0 a0) w'):(V3 id ops true).wp P Q a0 w:=
 qF G.flow c (Gw.reg k h) (λ_=>e) λV w' f g=>b V w' (λi d=>f i d rfl) (g 0 rfl)
theorem Gw.last(G:Gw)(n:Nat)(k:((ops.size == n+1) && (VB n).all (λj=>depOn ops n j || (VB n).any (λi=>depOn ops n i && depOn ops i j)))=true)(d:P.follows .mixedOrders=true)(b:Bf ops a0.tmps.size=true)(h:iM P Q G.flow ops a0 0 (ops.toList.take n))(f:G.B w.drew)
 (c:∀(V:Nat->Uv) (w':Ut),(∀i,i<n->G.R i (V i) w')->G.B w'->wpList P ops Q (ops.toList.drop n) (bU V (ops.toList.take n) 0 a0) w'):(V3 id ops true).wp P Q a0 w:=by
 rw[UN,beq_iff_eq]at k;exact GO G.flow n k.1 k.2 d (Gw.reg b h) (λ_=>f) λV w' g l=>c V w' (λi e=>g i e rfl) (l 0 rfl)
end RG
section
open Go.RowKit Go.Sort Go.Deep
variable {P:Nat}[NeZero P]{N:Nat}
theorem BP{w:Ut}{g o:Nat}{v:Uv}{cur:Array Uv}{e:Vb}{z:Nat × Nat}(h:w.heap[g]? = some (.cells cur e z)):∃k:Array Uv,(w.setCell ⟨g,o,none⟩ v).heap[g]? = some (.cells k e z)/\k.size=cur.size:=by
 have b:=(UY.1 h).1;refine⟨cur.setIfInBounds o v,?_,Vz ..⟩;have c:w.heap[g]=.cells cur e z:=by rw[UZ b]at h;exact UP.inj h
 simp[World.setCell,Array.getElem_modify,b,c]
theorem qM{g:Nat}{e:Vb}{z:Nat × Nat}:∀(vs:List Uv) (o:Nat) (w:Ut) (cur:Array Uv),w.heap[g]? = some (.cells cur e z)->∃k:Array Uv,(w.setCells g o vs).heap[g]? = some (.cells k e z)/\k.size=cur.size
 | [],_,_,cur,h=>⟨cur,h,rfl⟩
 | v :: r,o,w,cur,h=>by
  obtain⟨c1,d,f⟩:=BP (o:=o) (v:=v) h;obtain⟨c2,c,b⟩:=qM r (o+1) _ c1 d;exact⟨c2,c,b.trans f⟩
theorem IR{W:Ut}{k n s g o cap:Nat}{e:Vb}(h:W.ownsRow k e s (sZ g n cap) n xs)(z:o+vs.length<=n*s):(W.setCells g o vs).ownsRow k e s (sZ g n cap) n (rep xs o vs):=by
 have hx:o+vs.length<=xs.length:=by rw[h.1];exact z
 refine⟨by rw[cU hx];exact h.1,?_⟩;rcases h.2 with⟨d,-⟩|⟨a,q,cur,d,y,l,m,x,p,u⟩
 ·cases d
 ·injection d with e1 e2 e3
  injection e1 with e1
  injection e1 with e1
  subst e1;subst e3;obtain⟨c2,t,v⟩:=qM vs o W cur l;refine U2 ⟨g,cap,c2,rfl,y,t,m,x,by rw[v];exact p,?_⟩;have w:n*s<=cur.size:=by rw[p];exact WX s m
  apply Zb;intro i;rw[RG.rep_at hx,WI,<-u];have c1:∀i,W.cell? ⟨g,i,none⟩=cur[i]?:=λi=>cell_of_row W g i cur e (0,0) l
  have r:(W.setCells g o vs).cell? ⟨g,i,none⟩=c2[i]?:=cell_of_row _ g i c2 e (0,0) t;by_cases c:i<n*s
  ·rw[yCk c];by_cases b:o<=i/\i<o+vs.length
   ·rw[yCk b];have f:i-o<vs.length:=oM;have:=World.cell?_setCells_in g vs o W (λj f=>by rw[c1 (o+j),UZ oM];rfl) (i-o) f;rw[show o+(i-o)=i by omega,r]at this;rw[Vt,this,UI f]
   ·rw[yCl b,WI,yCk c,Vt,Vt,<-r,<-c1 i];exact World.cell?_setCells_out g vs o W ⟨g,i,none⟩ (λ_ _=>by show i<o\/o+vs.length<=i;omega)
  ·rw[yCl c,yCl oM,WI,yCl c]
theorem LW{o:Nat}:rep (xs++ys) (xs.length+o) vs=xs++rep ys o vs:=by
 unfold rep;rw[List.take_length_add_append,Nat.add_assoc,List.drop_length_add_append,List.append_assoc]
theorem gJ{n:Nat}{p:Bs}(k:p.size=33):(wn n++aA p).length=37:=by rw[UB,aB k];rfl
theorem fH(x:Nat × Bs)(r:List (Nat × Bs)):aU (x :: r)=(wn x.1++aA x.2)++aU r:=by unfold aU;rw[ZI]
theorem yM(s:Nat):∀(l:List (Nat × Bs)) (j:Nat) (k:j<l.length),(∀x∈l.map (·.2),x.size=33)->aU (l.set j (s,(l[j]).2))=rep (aU l) (37*j) (wn s)
 | [],j,k,_=>by cases k
 | x :: r,0,_,_=>by
  show aU ((s,x.2) :: r)=_;rw[fH,fH];rfl
 | x :: r,j+1,k,hs=>by
  have hx:=gJ (n:=x.1) (hs x.2 (by simp));show aU (x :: r.set j (s,(r[j]'(by simpa using k)).2))=_;rw[fH,fH,yM s r j (by simpa using k) (λy b=>hs y (Vd _ b)),show 37*(j+1)=(wn x.1++aA x.2).length+37*j by rw[hx];omega,LW]
theorem at?_some{p:Bs}:∀ {l:List (Nat × Bs)}{i j:Nat},at? p (l.map (·.2)) i=some j->i<=j/\∃h:j-i<l.length,(l[j-i]).2=p/\∀n,fB N l n p=l.set (j-i) (sPl N (l[j-i]).1 n,p)
 | [],i,j,h=>by cases h
 | (s,q) :: r,i,j,h=>by
  rw[X4]at h;unfold at? at h;by_cases k:p=q
  ·rw[yCk k]at h;obtain rfl:=UP.inj h;refine⟨Uy _,by simp,?_,λn=>?_⟩
   ·simp[k]
   ·unfold fB;rw[yCk k];simp[k]
  ·rw[yCl k]at h;obtain⟨d,f,c,b⟩:=at?_some h;have e:j-i=(j-(i+1))+1:=oM;refine⟨oM,by simp;omega,?_,λn=>?_⟩
   ·simp only[e,yAy];exact c
   ·unfold fB;rw[yCl k,b n];simp only[e,yAy,Uw]
theorem Ko{n:Nat}{p:Bs}{l:List (Nat × Bs)}{j:Nat}(h:at? p (l.map (·.2)) 0=some j):(fB N l n p).map (·.2)=l.map (·.2)/\(fB N l n p).length=l.length:=by
 obtain⟨-,b,d,c⟩:=at?_some (N:=N) h;rw[c n];refine⟨?_,List.length_set ..⟩;rw[List.map_set];apply Zb;intro i;rw[List.getElem?_set];by_cases k:j-0=i
 ·subst k;rw[yCk rfl,yCk (by rw[US];exact b),Vy,UI b];exact congrArg some d.symm
 ·rw[yCl k]
theorem Mx.again{w W:Ut}{m g cap:Nat}{l:List (Nat × Bs)}{p:Bs}{j:Nat}(h:Mx w W m l (sZ g l.length cap))(e:∀x∈l.map (·.2),x.size=33)(d:at? p (l.map (·.2)) 0=some j)(i:j<l.length)(n:Nat):
 Mx w (W.setCells g (37*j) (wn (sPl N (l[j]).1 n))) m (fB N l n p) (sZ g l.length cap):=by
 have k:=h.own_ne (g:=g) rfl;obtain⟨o,b⟩:=Ko (N:=N) (n:=n) d;refine⟨RG.below_setCells k.2.1 _ _ _ h.bl,?_,h.lm,?_⟩
 ·rw[aH _ _ _ _ _ (YL k.1),o,b];exact h.mp
 ·obtain⟨-,q,c,f⟩:=at?_some (N:=N) d;have e3:fB N l n p=l.set j (sPl N (l[j]).1 n,(l[j]).2):=by rw[f n];simp only[Y8]at c⊢;rw[c]
  rw[b,e3,yM _ l j i e];exact IR h.ow (by show 37*j+4<=_;omega)
theorem DK(O:Ord N)(ns:Nat->Nat)(c:Nat->Bs){k:Nat}(d:∀j,j<k->ns j<N):∀i,i<=k->∀x∈mrg N ns c i,x.1<N
 | 0,_=>λx hx=>by cases hx
 | i+1,hi=>by
  have g:=DK O ns c d i oM;have h:∀(l:List (Nat × Bs)) n p,n<N->(∀x∈l,x.1<N)->∀x∈fB N l n p,x.1<N:=by
   intro l n p f;induction l with
   | nil=>intro _ x hx;simp[fB]at hx;rw[hx];exact f
   | cons y r ihr =>
    intro b x hx;unfold fB at hx;split at hx
    ·rcases V0.1 hx with rfl|hx
     ·exact V6 _ O.pos
     ·exact b x (Vd _ hx)
    ·rcases V0.1 hx with rfl|hx
     ·exact b _ Vo
     ·exact ihr (λz e=>b z (Vd _ e)) x hx
  exact h _ _ _ (d i oM) g
end
section
open Go.RowKit Go.Sort Go.Deep
variable {N:Nat}
section
variable (w:Ut) (m g4 cap k6 j s n z:Nat) (l:List (Nat × Bs)) (p:Bs)
def Ra:Nat->Uv->Ut->Prop
 | 0,v,_=>v=sZ g4 l.length cap
 | 1,v,_=>v=iZ j
 | 2,v,_=>v=sZ g4 l.length cap
 | 3,v,_=>v=iZ j
 | 4,v,_=>v=.pointer (some ⟨g4,0+37*j,none⟩)
 | 5,v,_=>v=.pointer (some ⟨g4,0+37*j,none⟩)
 | 6,v,_=>v=nv s
 | 7,v,_=>v=jZ k6
 | 8,v,_=>v=nv n
 | 9,v,_=>v=nv z
 | 10,v,_=>v=.pointer (some ⟨g4,0+37*j,none⟩)
 | 11,v,_=>v=.pointer (some ⟨g4,0+37*j,none⟩)
 | _,_,_=>True
theorem Qo{i:Nat}{v:Uv}{W W':Ut}(h:Ra g4 cap k6 j s n z l i v W):Ra g4 cap k6 j s n z l i v W':=by
 match i,h with
 | 0,h=>exact h
 | 1,h=>exact h
 | 2,h=>exact h
 | 3,h=>exact h
 | 4,h=>exact h
 | 5,h=>exact h
 | 6,h=>exact h
 | 7,h=>exact h
 | 8,h=>exact h
 | 9,h=>exact h
 | 10,h=>exact h
 | 11,h=>exact h
 | _+12,_=>trivial
def Ga:Gw:=⟨Ra g4 cap k6 j s n z l,λW=>Mx w W m l (sZ g4 l.length cap)/\Row W k6 (wn n++aA p),λ_ _ _ _ _ h=>Qo g4 cap k6 j s n z l h,λ_ _ k h=>⟨h.1.kept k,h.2.below k⟩⟩
end
theorem range_front'{W:Ut}{k o:Nat}(h:W.rangeAt k o (xs++ys)):W.rangeAt k o xs:=λj v b=>h j v (by rw[UX (UG.1 b).1];exact b)
theorem Mx.drew{w W:Ut}{m:Nat}{l:List (Nat × Bs)}{v:Uv}(h:Mx w W m l v):Mx w W.drew m l v:=⟨h.bl.drew,h.mp,h.lm,h.ow⟩
theorem Jb(O:Ord N)(R:Uv->Ut->Prop)(g k c:Nat)(hk:k<=1000)(ns:Nat->Nat)(o:Nat->Bs)(ha:∀j,j<k->(o j).size=33)(hn:∀j,j<k->ns j<N)(w:Ut)(hg:g<w.heap.size)(hr:∀j,j<k->w.rangeAt g (37*j) (wn (ns j)++aA (o j)))
 (h9:∀W v,Mx w W w.heap.size (mrg N ns o k) v->UK prog 204 #[v,.func (.func 205) #[] #[]] W (Ret R)) :
 UK prog 140 #[sZ g k c] w (Ret R):=by
 have h7:=Hid.mk' h9;have hz:(Instr.makeMap 278 none).run prog w=.ok (.map (some w.heap.size)) (w.alloc (.map #[] 0)):=kR;obtain⟨w1,h8⟩:=hE (w.alloc (.map #[] 0));rw[h8.out]at hz;have M1:Hid (Mx w w1 w.heap.size (mrg N ns o 0) (.slice none 0 0)):=by
  rw[<-h8.out];exact⟨aC w _,by show(w.heap.push (.map #[] 0))[w.heap.size]? = _;rw[Array.getElem?_push_size];rfl,Uy _,rfl,U6 ⟨rfl,rfl⟩⟩
 have J:=mk5 O ha hn hg hr;obtain⟨d,k9,hy⟩:=UA.1 uCP;obtain⟨d',hm,kc⟩:=UA.1 uT;have K:Hid ((prog.underlying 103=some d/\d.isRow=true)/\prog.underlying 226=some d'/\d'.isRow=true):=⟨⟨k9,hy⟩,hm,kc⟩
 go_enter func140,ntmps140;go_wp2;go_loopg [4,12] k (λq s4 s12 W=>∃i:Nat,i+q=k/\s12=iZ i/\Hid (Mx w W w.heap.size (mrg N ns o i) s4))
 case atStart=>exact⟨0,oM,rfl,M1⟩
 case round =>
  obtain⟨i,kg,rfl,KM⟩:=hrel;by_cases hi:i<k
  ·have k5:(i:Int)<(k:Int):=oM;obtain⟨n,E⟩:=hE (ns i);obtain⟨p,H⟩:=hE (o i);obtain⟨l,hl⟩:=hE (mrg N ns o i);rw[hl.out]at KM;have r:Hid (p.size=33):=by have:=J.2.1 i hi;rw[H.out]at this;exact this
   have k0:Hid (l.length<=i):=by have:=AX (N:=N) ns o i;rw[hl.out]at this;exact this
   obtain⟨q,cap,rfl⟩:=GB KM.ow;obtain⟨Q,Y⟩:=hE (wr.alloc (.cells zT.toArray 226));obtain⟨D,h0⟩:=hE (Q.setCells wr.heap.size 0 (wn n++aA p));have m:(wn n++aA p).length=37:=by rw[UB,aB r.out];rfl
   have F1:Hid (Row Q wr.heap.size zT/\kZ wr Q/\Q.heap.size=wr.heap.size+1):=by rw[<-Y.out];exact⟨aE wr _ _,aC wr _,UD _ _⟩
   have F2:Hid (Row D wr.heap.size (wn n++aA p)/\kZ wr D/\D.heap.size=wr.heap.size+1):=by rw[<-h0.out];exact⟨F1.1.put (by rw[m];rfl),RG.below_setCells (Uy _) _ _ _ F1.2.1,by rw[setCells_size];exact F1.2.2⟩
   have T:=mk1 (KM.kept F2.2.1);have C:∀x∈l.map (·.2),x.size=33:=by have:=xE (N:=N) ns o J.2.1 i oM;rw[hl.out]at this;exact this
   cases F:at? p (l.map (·.2)) 0 with
   | none =>
    have b:=mk1 (F);have X:=Hid.mk' (Cm r.out (l.map (·.2)) C w.heap.size l.length D T.mp);rw[b.out]at X;have B2:Hid ((Zf 278 (.map (some w.heap.size)) (.agg (aA p).toArray) (iZ (l.length:Int))).run prog D=.ok () (D.putObj w.heap.size (.map (ents (l.map (·.2)++[p]) 0).toArray (l.length+1)))):=by
     have h:=Lg r.out (l.map (·.2)) C w.heap.size D (by rw[US];exact T.mp) b.out;rw[US]at h;exact h
    obtain⟨v',W5,f,K5,kf,-⟩:=T.push r.out (by have:=k0.out;omega) n;obtain⟨S,B⟩:=hE (D.putObj w.heap.size (.map (ents (l.map (·.2)++[p]) 0).toArray (l.length+1)));have F3:Hid (Row S wr.heap.size (wn n++aA p)/\S.heap.size=wr.heap.size+1):=by rw[<-B.out];exact⟨F2.1.putObj T.mp rfl _,by simp[yAq];exact F2.2.2⟩
    have P:=Hid.mk' (SJ r.out n S);obtain⟨W4,L⟩:=hE (S.alloc (.cells (wn n++aA p).toArray 226));rw[B.out]at B2 f;rw[L.out]at P f;rw[F3.2]at P;rw[F2.2.2]at f;have k3:Hid (Mx w W5 w.heap.size (mrg N ns o (i+1)) v'):=by
     have e:mrg N ns o (i+1)=l++[(n,p)]:=by
      show fB N (mrg N ns o i) (ns i) (o i)=_;rw[hl.out,E.out,H.out];exact CU b.out
     rw[e];exact K5
    have B0:Hid (wr.rangeAt g (37*i) (wn n++aA p)):=by
     have h:=RG.range_below (J.2.2.2.2 i hi) KM.bl J.2.2.2.1;rw[E.out,H.out]at h;exact h
    have M:Hid ((prog.info? 226).map (·.size)=some (wn n++aA p).length):=by show _=_;rw[m];exact iT
    have I:Hid ((prog.info? 226).map (·.size)=some (wn n++aA p).toArray.size/\Q.there wr.heap.size 0 (wn n++aA p).toArray.size):=by
     have e:(wn n++aA p).toArray.size=37:=by rw[VE];exact m
     rw[e];exact⟨iT,F1.1.2.2⟩
    have U:Hid ((prog.info? 103).map (·.size)=some (aA p).length):=by show _=_;rw[aB r.out];exact cV
    have HB:=mk1 (lT (xs:=wn n) F2.1.2.1);have Z:Hid ((wn n++aA p).toArray.all (·.oneCell')=true):=by
     show _=_;rw[WR];intro u hu;exact cells_one n p u (XL.1 hu)
    have kb:=atT g 0 k c i hi;have V:=Hid.mk' f;obtain⟨vt,A⟩:=hE (U5 (wn n++aA p).toArray);obtain⟨vp,G⟩:=hE (U5 (aA p).toArray);rw[G.out]at X B2;rw[A.out]at P;go_wp2_with (first|(refine U8 rfl 226 _ rfl g (37*i) ?_ (wn n++aA p) d' ?_ ?_ ?_ ?_ ?_;rfl;exact B0.out;exact K.2.1;exact K.2.2;exact M.out;rw[A.out])|(refine bG (v:=jZ wr.heap.size) (w':=Q) rfl (.alloc 226) rfl ?_ ?_;(rw[<-Y.out];kernel_rfl))|(refine U3 rfl 226 _ _ rfl wr.heap.size 0 (wn n++aA p).toArray ?_ ?_ ?_ ?_ ?_ ?_;rfl;exact A.symm;exact I.2;exact I.1;exact Z.out;rw[show(wn n++aA p).toArray.toList=wn n++aA p from rfl,h0.out])|(refine U8 rfl 103 _ rfl wr.heap.size 4 ?_ (aA p) d ?_ ?_ ?_ ?_ ?_;rfl;exact HB.out;exact K.1.1;exact K.1.2;exact U.out;rw[G.out])|(refine zA (x:=.map (some w.heap.size)) (y:=vp) (w':=D) rfl 278 _ _ true rfl ?_ ?_ X.out ?_;rfl;rfl)|(refine Gj (x:=.map (some w.heap.size)) (y:=vp) (z:=iZ (l.length:Int)) (w':=S) rfl 278 _ _ _ rfl ?_ ?_ ?_ B2.out ?_;rfl;rfl;rfl)|(refine U8 rfl 226 _ rfl wr.heap.size 0 ?_ (wn n++aA p) d' ?_ ?_ ?_ ?_ ?_;rfl;exact F3.1.2.1;exact K.2.1;exact K.2.2;exact M.out;rw[A.out])|(refine jE (v:=.slice (some ⟨wr.heap.size+1,0,none⟩) 1 1) (w':=W4) rfl 131 1 _ rfl #[(0,vt)] ?_ P.out ?_;kernel_rfl)|(refine lM (x:=.slice q l.length cap) (y:=.slice (some ⟨wr.heap.size+1,0,none⟩) 1 1) (v:=v') (w':=W5) rfl _ _ 131 rfl ?_ ?_ ?_ ?_;rfl;rfl;exact V.out))
    go_roundg (gk-1)
    case measure=>omega
    case rel=>exact⟨i+1,oM,rfl,k3⟩
   | some j =>
    obtain⟨-,B,h3,-⟩:=at?_some (N:=N) F;rw[Y8]at B;simp only[Y8]at h3;have X:=Hid.mk' (Cm r.out (l.map (·.2)) C w.heap.size l.length D T.mp);rw[F]at X;obtain⟨f,ke,k8,-,k4,ka⟩:=sF T.ow C oM;injection k8 with q1 q2 q3
    subst q1;obtain⟨s,h6⟩:∃s,Hid ((l[j]'B).1=s):=⟨(l[j]'B).1,(rfl:(l[j]'B).1=(l[j]'B).1)⟩
    have k6:Hid (s<N):=by
     have:=DK J.1 ns o J.2.2.1 i oM;rw[hl.out]at this;rw[<-h6.out];exact this _ (VI B)
    have k2:Hid (n<N):=by rw[<-E.out];exact J.2.2.1 i hi
    have B0:Hid (wr.rangeAt g (37*i) (wn n++aA p)):=by
     have h:=RG.range_below (J.2.2.2.2 i hi) KM.bl J.2.2.2.1;rw[E.out,H.out]at h;exact h
    have M:Hid ((prog.info? 226).map (·.size)=some (wn n++aA p).length):=by show _=_;rw[m];exact iT
    have I:Hid ((prog.info? 226).map (·.size)=some (wn n++aA p).toArray.size/\Q.there wr.heap.size 0 (wn n++aA p).toArray.size):=by
     have e:(wn n++aA p).toArray.size=37:=by rw[VE];exact m
     rw[e];exact⟨iT,F1.1.2.2⟩
    have U:Hid ((prog.info? 103).map (·.size)=some (aA p).length):=by show _=_;rw[aB r.out];exact cV
    have HB:=mk1 (lT (xs:=wn n) F2.1.2.1);have Z:Hid ((wn n++aA p).toArray.all (·.oneCell')=true):=by
     show _=_;rw[WR];intro u hu;exact cells_one n p u (XL.1 hu)
    have kb:=atT g 0 k c i hi;obtain⟨vt,A⟩:=hE (U5 (wn n++aA p).toArray);obtain⟨vp,G⟩:=hE (U5 (aA p).toArray);rw[G.out]at X;have P:=mk1 (B);have HS:Hid (∀h:j<l.length,(l[j]'h).1=s):=λ_=>h6.out
    have HJ:=mk2 F C;have HK:=mk2 T.out F2.1;have KN:Hid (mrg N ns o (i+1)=fB N l n p):=by
     show fB N (mrg N ns o i) (ns i) (o i)=_;rw[hl.out,E.out,H.out]
    clear m C T KM h3 q2 q3 ka k4;clear F;go_wp2_with (first|(refine U8 rfl 226 _ rfl g (37*i) ?_ (wn n++aA p) d' ?_ ?_ ?_ ?_ ?_;rfl;exact B0.out;exact K.2.1;exact K.2.2;exact M.out;rw[A.out])|(refine bG (v:=jZ wr.heap.size) (w':=Q) rfl (.alloc 226) rfl ?_ ?_;(rw[<-Y.out];kernel_rfl))|(refine U3 rfl 226 _ _ rfl wr.heap.size 0 (wn n++aA p).toArray ?_ ?_ ?_ ?_ ?_ ?_;rfl;exact A.symm;exact I.2;exact I.1;exact Z.out;rw[show(wn n++aA p).toArray.toList=wn n++aA p from rfl,h0.out])|(refine U8 rfl 103 _ rfl wr.heap.size 4 ?_ (aA p) d ?_ ?_ ?_ ?_ ?_;rfl;exact HB.out;exact K.1.1;exact K.1.2;exact U.out;rw[G.out])|(refine zA (x:=.map (some w.heap.size)) (y:=vp) (w':=D) rfl 278 _ _ true rfl ?_ ?_ X.out ?_;rfl;rfl)|fail)
    refine(Ga w w.heap.size f cap wr.heap.size j s n (sPl N s n) l p).last 12 kR kR kR ⟨
     bN λa W b=>⟨[(4,sZ f l.length cap)],sZ f l.length cap,W,⟨b.o 4 kR,yCm⟩,kR,UT _ _,rfl⟩,
     bN λa W b=>⟨[(7,iZ j)],iZ j,W,⟨b.o 7 kR,yCm⟩,kR,UT _ _,rfl⟩,
     bN λa W b=>⟨[(4,sZ f l.length cap)],sZ f l.length cap,W,⟨b.o 4 kR,yCm⟩,kR,UT _ _,rfl⟩,
     bN λa W b=>⟨[(7,iZ j)],iZ j,W,⟨b.o 7 kR,yCm⟩,kR,UT _ _,rfl⟩,
     bN λa W b=>⟨[(36,sZ f l.length cap),(37,iZ j)],.pointer (some ⟨f,0+37*j,none⟩),W,⟨b.n 2 36 kR kR,b.n 3 37 kR kR,yCm⟩,by
      rw[We.injEq];refine⟨kR,?_⟩;show((Vj 131 (sZ f l.length cap) (iZ j)) >>= λv=>pure (Xq v)).run prog W=_;rw[UW,atT f 0 l.length cap j P.out];rfl,UT _ _,rfl⟩,
     bN λa W b=>⟨[(38,.pointer (some ⟨f,0+37*j,none⟩))],.pointer (some ⟨f,0+37*j,none⟩),W,⟨b.n 4 38 kR kR,yCm⟩,kR,UT _ _,rfl⟩,
     iW 49 39 rfl Go.Proofs.YtdoammpgchejcaaGreat.u40 λa W b=>⟨f,0+37*j,wn s,b.n 5 39 kR kR,by
      obtain⟨g5,kd,k7,-,-,V⟩:=sF b.b.1.ow HJ.2 (by have:=P.out;omega);injection k7 with q1 q2 q3
      injection q1 with q1
      injection q1 with q1
      subst q1;have:=V j P.out;rw[HS P.out]at this;rw[UF];exact range_front' this,i40,rfl⟩,
     bN λa W b=>⟨[(6,jZ wr.heap.size)],jZ wr.heap.size,W,⟨b.o 6 kR,yCm⟩,kR,UT _ _,rfl⟩,
     iW 49 41 rfl Go.Proofs.YtdoammpgchejcaaGreat.u40 λa W b=>⟨wr.heap.size,0,wn n,b.n 7 41 kR kR,kC b.b.2.2.1,i40,rfl⟩,
     gK λa W b=>⟨[(40,nv s),(42,nv n)],80,#[nv s,nv n],⟨b.n 6 40 kR kR,b.n 8 42 kR kR,yCm⟩,kR,(mX J.1 s n k6.out k2.out W).mono (by
      rintro e W' ⟨u,rfl,V,rfl⟩;exact⟨_,rfl,V,rfl⟩)⟩,
     bN λa W b=>⟨[(34,sZ f l.length cap),(35,iZ j)],.pointer (some ⟨f,0+37*j,none⟩),W,⟨b.n 0 34 kR kR,b.n 1 35 kR kR,yCm⟩,by
      rw[We.injEq];refine⟨kR,?_⟩;show((Vj 131 (sZ f l.length cap) (iZ j)) >>= λv=>pure (Xq v)).run prog W=_;rw[UW,atT f 0 l.length cap j P.out];rfl,UT _ _,rfl⟩,
     bN λa W b=>⟨[(44,.pointer (some ⟨f,0+37*j,none⟩))],.pointer (some ⟨f,0+37*j,none⟩),W,⟨b.n 10 44 kR kR,yCm⟩,kR,UT _ _,rfl⟩,yCm⟩ ⟨HK.1.drew,HK.2⟩ ?_
    intro V S h4 b;have hw:=h4 9 dC;have h2:=h4 11 dC;obtain⟨W4,L⟩:=hE (S.setCells f (37*j) (wn (sPl N s n)));have K4:Hid (Mx w W4 w.heap.size (mrg N ns o (i+1)) (sZ f l.length cap)):=by
     rw[<-L.out,KN.out,<-(HS P.out)];exact b.1.again HJ.2 HJ.1 P.out n
    have hq:Hid (S.there f (37*j) 4):=by
     intro t ht;have hj:=P.out;rcases b.1.ow.2 with⟨h,-⟩|⟨g2,h5,cur,he,-,hc,hn,-,hs,-⟩
     ·cases h
     ·injection he with he1 he2 he3
      injection he1 with he1
      injection he1 with he1
      subst he1;have k1:37*j+t<cur.size:=by
       rw[hs];have:(j+1)*37<=h5*37:=WX 37 oM;omega
      refine⟨?_,?_⟩
      ·simp[V1,hc,k1]
      ·simp[Xe,hc]
    dsimp only[bU,VO,Xn,Xo];simp only[UR,Uu,Uw,Ux];obtain⟨vz,h1⟩:=hE (nv (sPl N s n));rw[hw,h2,h1.out,UF];go_wp2_with (first|(refine U3 rfl 49 _ _ rfl f (37*j) (wn (sPl N s n)).toArray ?_ ?_ ?_ ?_ ?_ ?_;rfl;exact h1.symm;exact hq.out;exact i40;exact aM (sPl N s n);rw[show(wn (sPl N s n)).toArray.toList=wn (sPl N s n) from rfl,L.out])|fail)
    go_roundg (gk-1)
    case measure=>omega
    case rel=>exact⟨i+1,oM,rfl,K4⟩
  ·have k5:¬(i:Int)<(k:Int):=oM;obtain rfl:i=k:=oM;go_wp2_with fail
   refine(h7 wr _ KM.out).mono ?_;rintro e r ⟨m,rfl,b⟩;have f:=Hid.mk' b;go_wp2;go_ret;exact⟨_,rfl,f.out⟩
end
section
open Go.RowKit Go.Sort Go.Deep
variable {P:Nat}[NeZero P]{N:Nat}
def LF(l:List (Nat × Bs)):List (Nat × Bs):=l.filter λx=>x.1 != 0
theorem oO{l:List (Nat × Bs)}{j:Nat}(k:j<l.length):LF (l.take (j+1))=LF (l.take j)++(if (l[j]).1=0 then [] else [l[j]]):=by
 unfold LF;rw[yAY,UI k,List.filter_append]
 congr 1
 by_cases h:(l[j]).1=0
 ·simp[h]
 ·simp[h]
theorem Oh(l:List (Nat × Bs))(j:Nat):(LF (l.take j)).length<=j:=
 UE (yAA _ _) (by rw[WN];exact Nat.min_le_left _ _)
theorem Bt{l:List (Nat × Bs)}{x:Nat × Bs}(h:x∈LF l):x∈l:=(Zg.1 h).1
theorem uC{ns:Nat->Nat}:∀(m i:Nat),(∃j,i<=j/\j<i+m/\ns j=0)->∃k,kN ns i m=((k:Nat):Int)/\i<=k/\k<i+m/\ns k=0/\∀j,i<=j->j<k->ns j≠0
 | 0,i,h=>by obtain⟨j,f,g,-⟩:=h;omega
 | m+1,i,h=>by
  unfold kN;by_cases b:ns i=0
  ·rw[yCk b];exact⟨i,rfl,Uy _,oM,b,λj f g=>oM⟩
  ·rw[yCl b];obtain⟨j,f,g,e⟩:=h;obtain⟨k,o,q,e3,p,l⟩:=uC m (i+1) ⟨j,by
    rcases VV i j with h|h
    ·omega
    ·obtain rfl:j=i:=oM;exact absurd e b,oM,e⟩
   refine⟨k,o,oM,oM,p,λc n d=>?_⟩;rcases VV i c with h|h
   ·exact l c h d
   ·obtain rfl:c=i:=oM;exact b
def Rw(W:Ut)(g j:Nat)(x:Nat × Bs):Prop:=W.rangeAt g (37*j) (wn x.1++aA x.2)
theorem Rw.below{W W':Ut}{g j:Nat}{x:Nat × Bs}(h:Rw W g j x)(b:kZ W W')(k:g<W.heap.size):Rw W' g j x:=RG.range_below h b k
structure Dz(base:Nat)(w W:Ut)(g:Nat)(l:List (Nat × Bs))(j:Nat):Prop where
 bl:Below base w W
 hb:base<=W.heap.size
 lt:g<W.heap.size
 th:W.there g 0 (37*l.length)
 lo:∀a (ha:a<(LF (l.take j)).length),Rw W g a ((LF (l.take j))[a])
 hi:∀b (hb:b<l.length),j<=b->Rw W g b (l[b])
theorem Dz.grow{k:Nat}{w W W':Ut}{g:Nat}{l:List (Nat × Bs)}{j:Nat}(h:Dz k w W g l j)(c:kZ W W'):Dz k w W' g l j:=
 ⟨h.bl.trans (c.mono h.hb),UE h.hb c.size,Uz h.lt c.size,dM h.th c h.lt,λa e=>(h.lo a e).below c h.lt,λb d f=>(h.hi b d f).below c h.lt⟩
theorem Dz.skip{k:Nat}{w W:Ut}{g:Nat}{l:List (Nat × Bs)}{j:Nat}(h:Dz k w W g l j)(c:j<l.length)(m:(l[j]).1=0):Dz k w W g l (j+1):=by
 have e:LF (l.take (j+1))=LF (l.take j):=by rw[oO c,yCk m,XC]
 exact⟨h.bl,h.hb,h.lt,h.th,λa i=>by
  have d:=h.lo a (by rw[<-e];exact i);simp only[e];exact d,λb f c=>h.hi b f oM⟩
theorem Dz.put{k:Nat}{w W:Ut}{g:Nat}{l:List (Nat × Bs)}{j:Nat}(h:Dz k w W g l j)(p:k<=g)(o:∀x∈l.map (·.2),x.size=33)(m:j<l.length)(q:(l[j]).1≠0):
 Dz k w (W.setCells g (37*(LF (l.take j)).length) (wn (l[j]).1++aA (l[j]).2)) g l (j+1):=by
 have e:LF (l.take (j+1))=LF (l.take j)++[l[j]]:=by rw[oO m,yCl q]
 have s:=Oh l j;have f:∀x∈l,(wn x.1++aA x.2).length=37:=λx hx=>gJ (o x.2 (Vn.2 ⟨x,hx,rfl⟩))
 have c:=f (l[j]) (VI m);refine⟨RG.below_setCells p _ _ _ h.bl,by rw[setCells_size];exact h.hb,by rw[setCells_size];exact h.lt,V7 h.th _ _ _,λa n=>?_,λb v u=>?_⟩
 ·simp only[e]at n⊢;by_cases d:a<(LF (l.take j)).length
  ·rw[List.getElem_append_left d];have i:=h.lo a d;have r:=yAB (Bt (VI d));exact Vq i g _ _ (U2 (U6 (by rw[f _ r];omega)))
  ·have i:a=(LF (l.take j)).length:=by rw[UB,List.length_singleton]at n;omega
   subst i;rw[List.getElem_append_right (Uy _)];simp only[YH,List.getElem_singleton];refine VZ W g _ _ λt r=>?_
   rw[c]at r;have:=h.th (37*(LF (l.take j)).length+t) oM;rwa[UF]at this
 ·exact Vq (h.hi b v oM) g _ _ (U2 (U2 (by rw[c];omega)))
theorem Hk(n:Nat):∀v∈(WC (U5 zT.toArray).cells n).toList,v.oneCell'=true:=by
 intro v hv;have c:=Oo;have b:(U5 zT.toArray).cells.size=37:=kR;unfold WC at hv;rw[Array.toList_map]at hv;obtain⟨i,-,rfl⟩:=Vn.1 hv;have k:i%(U5 zT.toArray).cells.size<(U5 zT.toArray).cells.size:=V6 _ (by rw[b];decide);rw[getElem!_pos (U5 zT.toArray).cells _ k];exact c _ (by
  have e:(U5 zT.toArray).cells.toList=zT:=kR;have d:=Array.getElem_mem_toList k;rwa[e]at d)
theorem MW(g i n c:Nat)(w:Ut)(p:0<n)(h:w.there g 0 (37*(i+n))):∃Z:List Uv,∀e,(yAV #[131] e #[.slice (some ⟨g,37*i,none⟩) n c]).run prog w=.ok (.tuple #[]) (w.setCells g (37*i) Z):=by
 have d:=Om w;have f:=Yn C6 w;have ho:=Hk n;have k:(WC (U5 zT.toArray).cells n).toList.length=n*37:=by
  have:(U5 zT.toArray).cells.size=37:=kR;rw[UL,size_zeroCells,this]
 generalize (U5 zT.toArray)=m at d ho k;generalize l:(WC m.cells n).toList=Z at ho k;have o:(storeCells ⟨g,37*i,none⟩ Z).run prog w=.ok () (w.setCells g (37*i) Z):=
  run_storeCells_cells (P:=prog) g (37*i) Z 0 w (λj b=>by rw[k]at b;have:=(h (37*i+j) oM).1;simpa using this) (λj b=>by rw[k]at b;have:=(h (37*i+j) oM).2;simpa using this) ho
 refine⟨Z,λe=>?_⟩;obtain⟨b,rfl⟩:∃b,n=b+1:=⟨n-1,oM⟩
 unfold yAV;simp[UW,f,d,l,o]
theorem Tr(g n c i:Nat)(k:i<=n)(e:n<=c)(w:Ut):(Xw 131 (sZ g n c) none (some (iZ i)) none).run prog w=.ok (sZ g i c) w:=by
 have b:¬(i:Int)<0:=oM;have d:(i:Int)<=(c:Int):=oM;go_simp
theorem Tq(g n c i:Nat)(k:i<n)(e:n<=c)(w:Ut):(Xw 131 (sZ g n c) (some (iZ i)) none none).run prog w=.ok (.slice (some ⟨g,37*i,none⟩) (n-i) (c-i)) w:=by
 have b:¬(i:Int)<0:=oM;have d:(i:Int)<=(n:Int):=oM;go_simp;rw[yCl oM,Vv]
def TmL(W:Ut)(q:Option Wv)(l:List (Nat × Bs)):Prop:=0<l.length->∃g,q=some (aZ g)/\g<W.heap.size/\∀j (k:j<l.length),W.rangeAt g (37*j) (wn (l[j]).1++aA (l[j]).2)
def Up(k:Nat)(l:List (Nat × Bs))(w:Ut)(e:Uv)(w':Ut):Prop:=Below k w w'/\∃q cap,e=.slice q (LF l).length cap/\TmL w' q (LF l)
theorem Ge{l:List (Nat × Bs)}(h:∀x∈l,x.1≠0):LF l=l:=List.filter_eq_self.2 λx hx=>by simpa using h x hx
theorem Og{l:List (Nat × Bs)}{k:Nat}(d:k<l.length)(c:(l[k]).1=0):∀j,k<j->j<=l.length->(LF (l.take j)).length<j
 | 0,h,_=>oM
 | j+1,h,hj=>by
  rw[oO oM,UB];rcases VV k j with b|b
  ·have:=Og d c j b oM;split<;>simp<;>omega
  ·obtain rfl:j=k:=oM;rw[yCk c];have:=Oh l j;simp;omega
theorem JO(l:List (Nat × Bs))(hi:0<l.length)(hq:l.length<=1000)(hs:∀x∈l.map (·.2),x.size=33)(hn:∀x∈l,x.1<top)(d:Nat)(v:Uv)(w:Ut)(hb:d<=w.heap.size)(ho:w.ownsRow d 226 37 v l.length (aU l)):
 UK prog 204 #[v,.func (.func 205) #[] #[]] w (Ret (Up d l w)):=by
 obtain⟨g,c,rfl,V,A,U⟩:=sF ho hs hi;have E:∀(j:Nat) (k:j<l.length),(l[j]).2.size=33:=λj k=>hs _ (Vn.2 ⟨_,VI k,rfl⟩)
 have D:l.length<=c/\w.there g 0 (37*l.length):=by
  rcases ho.2 with⟨h,-⟩|⟨z,r,cur,s,-,q,f,-,o,-⟩
  ·cases h
  ·injection s with he1 he2 he3
   injection he1 with he1
   injection he1 with he1
   subst he1;subst he3;refine⟨f,λt ht=>?_⟩;have y:0+t<cur.size:=by
    rw[o];have:l.length*37<=c*37:=WX 37 f;omega
   exact⟨by simp only[V1,q];simp;omega,by simp[Xe,q]⟩
 by_cases y:∀x∈l,x.1≠0
 ·have K:=Ge y;refine(Cz g l.length c oM (λj=>((l[j]?).getD (0,#[])).1) (λj=>((l[j]?).getD (0,#[])).2) (λj k=>by rw[UI k];exact hn _ (VI k)) (λj k=>by rw[UI k];exact y _ (VI k)) (λj k=>by rw[UI k];exact E j k) w A (λj k=>by rw[UI k];exact U j k)).mono ?_;rintro e o ⟨vv,rfl,f,rfl⟩;refine⟨_,rfl,f.mono hb,some (aZ g),c,by rw[K],?_⟩;rw[K];exact λ_=>⟨g,rfl,Uz A f.size,λj k=>RG.range_below (U j k) f A⟩
 ·have hI:=E9 g l.length c oM (λj=>((l[j]?).getD (0,#[])).1) (λj=>((l[j]?).getD (0,#[])).2) (λj k=>by rw[UI k];exact hn _ (VI k)) (λj k=>by rw[UI k];exact E j k) w A (λj k=>by rw[UI k];exact U j k);obtain⟨q,e1,-,e3,S,e5⟩:=uC (ns:=λj=>((l[j]?).getD (0,#[])).1) l.length 0 (by
   have:∃x,x∈l/\x.1=0:=WB λh=>y λx hx L=>h ⟨x,hx,L⟩
   obtain⟨x,hx,f⟩:=this;obtain⟨j,k⟩:=WS hx;exact⟨j,Wz _,by have:=(UG.1 k).1;omega,by show((l[j]?).getD (0,#[])).1=0;rw[k];exact f⟩)
  rw[e1]at hI;have G:q<l.length:=oM;have F:(l[q]).1=0:=by
   have:((l[q]?).getD (0,#[])).1=0:=S;rw[UI G]at this;exact this
  have C:LF (l.take q)=l.take q:=Ge λx hx=>by
   obtain⟨j,k⟩:=WS hx;rw[WI]at k;split at k
   ·rename_i hji
    have:=e5 j (Wz _) hji;have f:((l[j]?).getD (0,#[])).1≠0:=this;rw[k]at f;exact f
   ·cases k
  have B:(LF (l.take q)).length=q:=by rw[C,WN];omega
  have D0:Dz d w w g l q:=⟨UT _ _,hb,A,D.2,λa M=>by
   simp only[C]at M⊢;rw[List.getElem_take];exact U a _,λb f _=>U b f⟩
  have D1:Dz d w w g l (q+1):=D0.skip G F;have e6:(LF (l.take (q+1))).length=q:=by rw[oO G,yCk F,XC];exact B
  have HI:=Hid.mk' hI;have HZ:Hid (∀j,q<j->j<=l.length->(LF (l.take j)).length<j):=Og G F;have h5:=Hid.mk' D1;have I:Hid (d<=g/\l.length<=c/\(∀x∈l.map (·.2),x.size=33)/\(∀x∈l,x.1<top)/\∀(j:Nat) (k:j<l.length),(l[j]).2.size=33):=⟨V,D.1,hs,hn,E⟩
  obtain⟨d',Y,h9⟩:=UA.1 uT;have T:Hid (prog.underlying 226=some d'/\d'.isRow=true):=⟨Y,h9⟩
  have hw:¬((q:Int) = -1):=oM;clear Y h9 hI D0 D1 hs hn ho U E D y e1 S e5 C B F V A;go_enter func204,ntmps204;go_wp2_with fail
  refine HI.mono ?_;rintro e w1 ⟨vv,rfl,hg,rfl⟩;have K1:Hid (Dz d w w1 g l (q+1)):=h5.grow hg;clear hg HI h5;go_wp2_with fail
  go_loopg [5,6] (l.length-(q+1)) (λm s5 s6 W=>∃j:Nat,q<j/\j+m=l.length/\s6=iZ j/\s5=iZ ((LF (l.take j)).length:Int)/\Hid (Dz d w W g l j))
  case atStart=>exact⟨q+1,oM,oM,rfl,by rw[e6],K1⟩
  case round =>
   clear K1;obtain⟨j,h4,hz,rfl,rfl,J⟩:=hrel;by_cases k:j<l.length
   ·have hm:(j:Int)<(l.length:Int):=oM;obtain⟨n,r⟩:∃n,Hid ((l[j]'k).1=n):=⟨(l[j]'k).1,(rfl:(l[j]'k).1=(l[j]'k).1)⟩
    obtain⟨p,P⟩:∃p,Hid ((l[j]'k).2=p):=⟨(l[j]'k).2,(rfl:(l[j]'k).2=(l[j]'k).2)⟩
    obtain⟨i,o⟩:∃i,Hid ((LF (l.take j)).length=i):=⟨_,rfl⟩
    have z:i<l.length:=by have:=HZ.out j h4 oM;rw[o.out]at this;omega
    rw[o.out];have Z:Hid (p.size=33):=by rw[<-P.out];exact I.2.2.2.2 j k
    have hl:Hid (n<top):=by rw[<-r.out];exact I.2.2.2.1 _ (VI k)
    have B0:Hid (wr.rangeAt g (37*j) (wn n++aA p)):=by
     have h:=J.hi j k (Uy _);unfold Rw at h;rw[r.out,P.out]at h;exact h
    obtain⟨H,h3⟩:∃H,Hid (wr.alloc (.cells zT.toArray 226)=H):=⟨_,rfl⟩
    obtain⟨R,h8⟩:∃R,Hid (H.setCells wr.heap.size 0 (wn n++aA p)=R):=⟨_,rfl⟩
    have s:(wn n++aA p).length=37:=gJ Z.out;have F1:Hid (Row H wr.heap.size zT/\kZ wr H/\H.heap.size=wr.heap.size+1):=by rw[<-h3.out];exact⟨aE wr _ _,aC wr _,UD _ _⟩
    have F2:Hid (Row R wr.heap.size (wn n++aA p)/\kZ wr R):=by rw[<-h8.out];exact⟨F1.1.put (by rw[s];rfl),RG.below_setCells (Uy _) _ _ _ F1.2.1⟩
    have O:Hid ((prog.info? 226).map (·.size)=some (wn n++aA p).length):=by show _=_;rw[s];exact iT
    have Q:Hid ((prog.info? 226).map (·.size)=some (wn n++aA p).toArray.size/\H.there wr.heap.size 0 (wn n++aA p).toArray.size):=by
     have e:(wn n++aA p).toArray.size=37:=by rw[VE];exact s
     rw[e];exact⟨iT,F1.1.2.2⟩
    have h7:Hid ((wn n++aA p).toArray.all (·.oneCell')=true):=by
     show _=_;rw[WR];intro u f;exact cells_one n p u (XL.1 f)
    have hy:=atT g 0 l.length c j k;obtain⟨vt,h1⟩:∃v,Hid (tvl n p=v):=⟨_,rfl⟩
    have f:Hid (U5 (wn n++aA p).toArray=vt):=h1;have K2:Hid (Dz d w R g l j):=J.grow F2.2;have HN:=Hid.mk' (I4 hl.out Z.out R);rw[h1.out]at HN;clear J;go_wp2_with (first|(refine U8 rfl 226 _ rfl g (37*j) ?_ (wn n++aA p) d' ?_ ?_ ?_ ?_ ?_;rfl;exact B0.out;exact T.1;exact T.2;exact O.out;rw[f.out])|(refine bG (v:=jZ wr.heap.size) (w':=H) rfl (.alloc 226) rfl ?_ ?_;(rw[<-h3.out];kernel_rfl))|(refine U3 rfl 226 _ _ rfl wr.heap.size 0 (wn n++aA p).toArray ?_ ?_ ?_ ?_ ?_ ?_;rfl;exact f.symm;exact Q.2;exact Q.1;exact h7.out;rw[show(wn n++aA p).toArray.toList=wn n++aA p from rfl,h8.out])|(refine U8 rfl 226 _ rfl wr.heap.size 0 ?_ (wn n++aA p) d' ?_ ?_ ?_ ?_ ?_;rfl;exact F2.1.2.1;exact T.1;exact T.2;exact O.out;rw[f.out])|fail)
    refine HN.mono ?_;rintro e X ⟨vv,rfl,N,rfl⟩;have K3:Hid (Dz d w X g l j/\Row X wr.heap.size (wn n++aA p)):=⟨K2.grow N,F2.1.below N⟩
    clear N K2 HN F2 F1;by_cases L:n=0
    ·rw[show decide (n=0)=true by simp[L]];have K4:Hid (Dz d w X g l (j+1)):=K3.1.skip k (by rw[r.out];exact L);have S:Hid ((LF (l.take (j+1))).length=i):=by
      show _=_;rw[oO k,yCk (by rw[r.out];exact L),XC];exact o.out
     go_wp2;go_roundg (gk-1)
     case measure=>omega
     case rel=>exact⟨j+1,oM,oM,rfl,by rw[S.out],K4⟩
    ·rw[show decide (n=0)=false by simp[L]];obtain⟨W4,h2⟩:∃W4,Hid (X.setCells g (37*i) (wn n++aA p)=W4):=⟨_,rfl⟩
     have K4:Hid (Dz d w W4 g l (j+1)):=by
      have h:=K3.1.put I.1 I.2.2.1 k (by rw[r.out];exact L);rw[o.out,r.out,P.out,h2.out]at h;exact h
     have S:Hid ((LF (l.take (j+1))).length=i+1):=by
      show _=_;rw[oO k,yCl (by rw[r.out];exact L),UB,o.out];rfl
     have hk:Hid (X.there g (37*i) (wn n++aA p).toArray.size):=by
      have e:(wn n++aA p).toArray.size=37:=by rw[VE];exact s
      rw[e];intro t ht;have:=K3.1.th (37*i+t) oM;rwa[UF]at this
     have hp:=atT g 0 l.length c i z;go_wp2_with (first|(refine U8 rfl 226 _ rfl wr.heap.size 0 ?_ (wn n++aA p) d' ?_ ?_ ?_ ?_ ?_;rfl;exact K3.2.2.1;exact T.1;exact T.2;exact O.out;rw[f.out])|(refine U3 rfl 226 _ _ rfl g (37*i) (wn n++aA p).toArray ?_ ?_ ?_ ?_ ?_ ?_;rfl;exact f.symm;exact hk.out;exact Q.1;exact h7.out;rw[show(wn n++aA p).toArray.toList=wn n++aA p from rfl,h2.out])|fail)
     go_roundg (gk-1)
     case measure=>omega
     case rel=>exact⟨j+1,oM,oM,rfl,by rw[S.out];rfl,K4⟩
   ·have hm:¬(j:Int)<(l.length:Int):=oM;obtain rfl:j=l.length:=oM;have K:LF (l.take l.length)=LF l:=by rw[ZO]
    rw[K];have z:(LF l).length<l.length:=by have:=HZ.out l.length h4 (Uy _);rw[K]at this;exact this
    have s:∀a (M:a<(LF l).length),Rw wr g a ((LF l)[a]):=λa M=>by
     have:=J.lo a (by rw[K];exact M);simp only[K]at this;exact this
    have f:∀x∈LF l,(wn x.1++aA x.2).length=37:=λx hx=>gJ (I.2.2.1 _ (Vn.2 ⟨x,Bt hx,rfl⟩))
    obtain⟨Z,O⟩:=MW g (LF l).length (l.length-(LF l).length) (c-(LF l).length) wr oM (by rw[show(LF l).length+(l.length-(LF l).length)=l.length by omega];exact J.th);obtain⟨H,r⟩:∃H,Hid (wr.setCells g (37*(LF l).length) Z=H):=⟨_,rfl⟩
    rw[r.out]at O;have P:Hid (Below d w H/\TmL H (some (aZ g)) (LF l)):=by
     rw[<-r.out];refine⟨RG.below_setCells I.1 _ _ _ J.bl,λ_=>⟨g,rfl,by rw[setCells_size];exact J.lt,λa M=>?_⟩⟩;exact Vq (s a M) g _ _ (U2 (U6 (by rw[f _ (VI M)];omega)))
    have N:=Tq g l.length c (LF l).length z I.2.1;have L:=Tr g l.length c (LF l).length oM I.2.1;clear J s f K r;obtain⟨i,o⟩:∃i,Hid ((LF l).length=i):=⟨_,rfl⟩
    rw[o.out]at N L O z⊢;go_wp2;go_ret;exact⟨_,rfl,P.1,some (aZ g),c,by rw[o.out];rfl,P.2⟩
theorem QF{p:Option Wv}{n c:Nat}{x:UInt8}:encB x≠.slice p n c:=λh=>by cases h
def El(n:Nat)(W:Ut)(x:Uv)(b:Bs):Prop:=∃k c,x=sZ k n c/\n<=c/\b.size=n/\k<W.heap.size/\Holds encB W k 0 b
def isL(n:Nat)(W:Ut)(g:Nat):Prop:=∃p c,W.cell? ⟨g,0,none⟩=some (.slice p n c)
structure Gr(n:Nat)(v:Uv)(W W':Ut):Prop where
 gr:W.grownBy W' v.ownBlock
 is:∀g,v.ownBlock=some g->isL n W g
theorem Gr.of{W W':Ut}{n:Nat}(h:kZ W W'):Gr n (.slice none 0 0) W W':=
 ⟨⟨h.os,h.tape,h.output,h.size,λk c _=>h.block k c⟩,λg b=>by cases b⟩
theorem Gr.below{n:Nat}{v:Uv}{w W W':Ut}(h:Gr n v W W')(c:Below B w W)(d:B<=W.heap.size)(hv:∀g,v.ownBlock=some g->B<=g):Below B w W':=
 c.grown h.gr d (λk b=>hv k b)
theorem Gr.block{n k:Nat}{v:Uv}{W W':Ut}(h:Gr n v W W')(f:k<W.heap.size)(b:∀p c,W.cell? ⟨k,0,none⟩≠some (.slice p n c)):W'.heap[k]? = W.heap[k]? :=
 h.gr.block k f λe=>by
  obtain⟨p,c,d⟩:=h.is k e.symm;exact b p c d
theorem Holds.kept{W W':Ut}{k:Nat}(h:Holds encB W k 0 b)(e:W'.heap[k]? = W.heap[k]?):Holds encB W' k 0 b:=λj c=>by
 rw[U0 (a:=⟨k,0+j,none⟩) e,VR (a:=⟨k,0+j,none⟩) e];exact h j c
theorem El.kept{m n:Nat}{v x:Uv}{W W':Ut}(h:El m W x b)(o:0<m)(d:Gr n v W W'):El m W' x b:=by
 obtain⟨k,c,rfl,g,i,e,f⟩:=h;refine⟨k,c,rfl,g,i,Uz e d.gr.size,Holds.kept f (d.block e λp l j=>?_)⟩;have:=(f 0 oM).1;rw[UF,j]at this;exact QF (UP.inj this).symm
theorem Row.kept{n k:Nat}{v:Uv}{W W':Ut}(h:Row W k vs)(g:Gr n v W W')(d:∀p c,vs[0]?≠some (.slice p n c))(f:0<vs.length):Row W' k vs:=by
 have e:=g.block h.1 λp c i=>by
  have b:=h.2.1 0 vs[0] (UI f);rw[UF,i]at b;exact d p c (by rw[UI f,b])
 refine⟨Uz h.1 g.gr.size,λj u b=>?_,λj b=>?_⟩
 ·rw[U0 (a:=⟨k,0+j,none⟩) e];exact h.2.1 j u b
 ·rw[U0 (a:=⟨k,0+j,none⟩) e,VR (a:=⟨k,0+j,none⟩) e];exact h.2.2 j b
structure Lo(n base:Nat)(W:Ut)(v:Uv)(bs:List Bs):Prop where
 ex:∃xs:List Uv,xs.length=bs.length/\W.ownsRow base 23 1 v bs.length xs/\∀(j:Nat) (x:Uv) (b:Bs),xs[j]? = some x->bs[j]? = some b->El n W x b
 nil:bs=[]->v=.slice none 0 0
theorem Lo.begin(n k:Nat)(W:Ut):Lo n k W (.slice none 0 0) []:=⟨⟨[],rfl,ZD _ _ _ _,λj x b h=>by cases h⟩,λ_=>rfl⟩
theorem add0(g j:Nat):(⟨g,0,none⟩:Wv).add j=⟨g,j,none⟩:=by unfold Zr;split<;>simp_all
theorem Lo.isL{n:Nat}{W:Ut}{v:Uv}{i:List Bs}(h:Lo n d W v i){g:Nat}(f:v.ownBlock=some g):isL n W g:=by
 obtain⟨xs,m,o,l⟩:=h.ex;have j:i≠[]:=λe=>by rw[h.nil e]at f;cases f
 cases i with
 | nil=>exact absurd rfl j
 | cons b r =>
  cases xs with
  | nil=>cases m
  | cons x xr =>
   obtain⟨k,c,rfl,-⟩:=l 0 x b rfl rfl;have:=o.cells f 0 _ rfl;rw[add0]at this;exact⟨_,_,this⟩
theorem Lo.lt{n k:Nat}{W:Ut}{v:Uv}{b:List Bs}(h:Lo n k W v b):∀g,v.ownBlock=some g->k<=g/\g<W.heap.size:=by
 obtain⟨xs,e,c,d⟩:=h.ex;exact c.lt
theorem Lo.kept{m n:Nat}{W W':Ut}{v o:Uv}{l:List Bs}(h:Lo m d W v l)(y:0<m)(f:Gr n o W W')(i:m≠n):Lo m d W' v l:=by
 have s:=λ{g}=>h.isL (g:=g)
 obtain⟨xs,r,t,q⟩:=h.ex;refine⟨⟨xs,r,t.kept f.gr ?_,λj x b hx w=>(q j x b hx w).kept y f⟩,h.nil⟩;cases hv:v.ownBlock with
 | none=>exact U6 rfl
 | some g =>
  refine U2 λe=>i ?_
  obtain⟨p,c,u⟩:=s hv;obtain⟨a,z,k⟩:=f.is g e.symm;rw[u]at k;injection k with k
  injection k with _ h5 _
theorem RR:(prog.info? 23).map (λi=>(i.size,i.bytes,i.zero.map λz=>z.cells.size))=some (1,24,some 1):=kR
theorem Tf:prog.underlying 24=some (.slice 23):=kR
theorem Lo.app{n f g:Nat}{W:Ut}{v x:Uv}{o:List Bs}(h:Lo n f W v o)(a:0<n)(hx:El n W x b)(I:W.cell? ⟨g,0,none⟩=some x)(O:o.length<=1000000)(K:f<=W.heap.size):
 ∃q W',(Vx #[24,24] 24 #[v,sZ g 1 1]).run prog W=.ok q W'/\Lo n f W' q (o++[b])/\Gr n v W W':=by
 obtain⟨i,M,t⟩:=UA.1 RR;simp only[We.injEq]at t;obtain⟨E,H,D⟩:=t;obtain⟨z,C,r⟩:=UA.1 D;obtain⟨xs,w,N,L⟩:=h.ex;obtain⟨q,W',J,A,F,Q⟩:=Yv (P:=prog) W f 24 24 23 i z 1 24 Tf M C E H r dC v o.length xs N (aZ g) 1 1 [x] rfl
  (λj u s=>by
   cases j with
   | zero =>
    obtain rfl:x=u:=by simpa using s
    rw[add0];exact I
   | succ j=>simp at s) (λu l=>by
   obtain rfl:u=x:=by simpa using l
   obtain⟨k,c,rfl,-⟩:=hx;rfl) (by unfold maxLen;omega) oM K
 have G:Gr n v W W':=⟨F,λg B=>h.isL B⟩
 refine⟨q,W',J,⟨⟨xs++[x],by simp[w],by rw[UB];exact A,λj y c m l=>?_⟩,λe=>by simp at e⟩,G⟩;by_cases s:j<o.length
 ·rw[UX oM]at m l;exact(L j y c m l).kept a G
 ·rw[U4 oM]at m l;rw[w]at m;cases p:j-o.length with
  | zero =>
   rw[p]at m l;obtain rfl:x=y:=by simpa using m
   obtain rfl:b=c:=by simpa using l
   exact hx.kept a G
  | succ d=>rw[p]at m;simp at m
theorem Gv{a:Bs}(g:a.size=33)(w:Ut):UK prog 142 #[pvl a] w (rZ w λe w'=>El 33 w' e a):=by
 have f:=Hid.mk' (rL g w);obtain⟨c,b⟩:=hE (w.alloc (.cells (aA a).toArray 103));rw[b.out]at f;have K:Hid (Row c w.heap.size (aA a)/\kZ w c):=by rw[<-b.out];exact⟨aE w _ _,aC w _⟩
 obtain⟨va,k⟩:=hE (pvl a);have d:Hid ((Vh 103 va).run prog w=.ok (jZ w.heap.size) c):=by rw[<-k.out];exact f
 rw[k.out];have i:=QO w.heap.size;go_enter func142,ntmps142;go_wp2_with (first|(refine aF (u:=va) (v:=jZ w.heap.size) (w':=c) rfl 103 (.tmp 0) rfl ?_ ?_ ?_;rfl;exact d.out))
 go_ret;exact⟨_,rfl,K.2,w.heap.size,33,rfl,oM,g,K.1.1,row_holds K.1⟩
def Bo(n c:Nat)(W:Ut)(v:Uv)(b:Bs):Prop:=∃k x,v=sZ k 1 1/\c<=k/\k<W.heap.size/\W.cell? ⟨k,0,none⟩=some x/\El n W x b
theorem Bo.kept{m n:Nat}{W W':Ut}{v u:Uv}(h:Bo n d W v b)(p:0<n)(c:Gr m u W W')(o:∀g,u.ownBlock=some g->g<d):Bo n d W' v b:=by
 obtain⟨k,x,rfl,j,f,i,l⟩:=h;refine⟨k,x,rfl,j,Uz f c.gr.size,?_,l.kept p c⟩;rw[U0 (a:=⟨k,0,none⟩) (c.gr.block k f λe=>by have:=o k e.symm;omega)];exact i
def Tm(W:Ut)(q:Option Wv)(k:Nat)(ns:Nat->Nat)(b:Nat->Bs):Prop:=0<k->∃g,q=some (aZ g)/\g<W.heap.size/\∀j,j<k->W.rangeAt g (37*j) (wn (ns j)++aA (b j))
theorem Tm.kept{m k:Nat}{W W':Ut}{u:Uv}{q:Option Wv}{ns:Nat->Nat}{b:Nat->Bs}(h:Tm W q k ns b)(d:Gr m u W W'):Tm W' q k ns b:=λn=>by
 obtain⟨g,r,o,f⟩:=h n;refine⟨g,r,Uz o d.gr.size,λj s i v hv=>?_⟩;have e:=d.block o λp c t=>by
  have l:=f 0 n 0 _ (show(wn (ns 0)++aA (b 0))[0]? = some _ from rfl);rw[show 37*0+0=0 from rfl,t]at l;cases l
 rw[U0 (a:=⟨g,37*j+i,none⟩) e];exact f j s i v hv
section
variable (w0:Ut) (v3 v4:Uv) (k6 n B0 base:Nat) (p:Bs) (bs cs:List Bs) (q:Option Wv) (k:Nat) (ns:Nat->Nat) (az:Nat->Bs)
def PR:Nat->Uv->Ut->Prop
 | 0,v,_=>v=v3
 | 1,v,_=>v=jZ k6
 | 2,v,_=>v=nv n
 | 3,v,w=>El 32 w v (bx n)
 | 4,v,w=>Bo 32 B0 w v (bx n)
 | 5,v,w=>Lo 32 base w v (bs++[bx n])
 | 6,v,_=>v=v4
 | 7,v,_=>v=oZ k6 4
 | 8,v,_=>v=pvl p
 | 9,v,w=>El 33 w v p
 | 10,v,w=>Bo 33 B0 w v p
 | 11,v,w=>Lo 33 base w v (cs++[p])
 | 12,v,w=>Lo 32 base w v (bs++[bx n])
 | 13,v,w=>Lo 33 base w v (cs++[p])
 | _,_,_=>True
def PBs:Nat->Ut->Prop
 | 0,w=>Row w k6 (wn n++aA p)
 | 1,w=>Lo 32 base w v3 bs
 | 2,w=>Lo 33 base w v4 cs
 | 3,w=>Below base w0 w/\base<=w.heap.size/\B0<=w.heap.size
 | 4,w=>Tm w q k ns az
 | 5,w=>Row w base z33
 | _,_=>True
def PE:Nat->Ut->Ut->Prop
 | 5=>Gr 32 v3
 | 11=>Gr 33 v4
 | _=>Gr 0 (.slice none 0 0)
def Pk1:Nat->List Nat
 | 4=>[5]
 | 10=>[11]
 | _=>[]
def Pk2:Nat->List Nat
 | 1=>[5]
 | 2=>[11]
 | _=>[]
def FP:Flow:=⟨PR v3 v4 k6 n B0 base p bs cs,PBs w0 v3 v4 k6 n B0 base p bs cs q k ns az,PE v3 v4,Pk1,Pk2⟩
theorem Kx{i:Nat}{w w':Ut}(h:PE v3 v4 i w w'):∃m u,Gr m u w w'/\((i=5/\m=32/\u=v3)\/(i=11/\m=33/\u=v4)\/(i≠5/\i≠11/\m=0/\u=.slice none 0 0)):=by
 unfold PE at h;split at h
 ·exact⟨_,_,h,U6 ⟨rfl,rfl,rfl⟩⟩
 ·exact⟨_,_,h,U2 (U6 ⟨rfl,rfl,rfl⟩)⟩
 ·rename_i h1 h2
  exact⟨_,_,h,U2 (U2 ⟨h1,h2,rfl,rfl⟩)⟩
variable (hv3:∀g,v3.ownBlock=some g->base<=g/\g<B0) (hv4:∀g,v4.ownBlock=some g->base<=g/\g<B0)
include hv3 hv4
theorem Kw{i m:Nat}{u:Uv}(h:(i=5/\m=32/\u=v3)\/(i=11/\m=33/\u=v4)\/(i≠5/\i≠11/\m=0/\u=.slice none 0 0)):∀g,u.ownBlock=some g->base<=g/\g<B0:=by
 rcases h with⟨-,-,rfl⟩|⟨-,-,rfl⟩|⟨-,-,-,rfl⟩
 ·exact hv3
 ·exact hv4
 ·intro g k;cases k
theorem Qp(i j:Nat)(r:j<14)(c:i≠j)(t:(Pk1 j).contains i=false)(o:¬(j=12/\i=5))(f:¬(j=13/\i=11))(v:Uv)(w w':Ut)(hE:PE v3 v4 i w w')(hR:PR v3 v4 k6 n B0 base p bs cs j v w):PR v3 v4 k6 n B0 base p bs cs j v w':=by
 obtain⟨m,u,k,q⟩:=Kx v3 v4 hE;have s:=Kw v3 v4 B0 base hv3 hv4 q;have d:m=32->i=5:=λh=>by rcases q with⟨o,-⟩|⟨-,f,-⟩|⟨-,-,f,-⟩<;>omega
 have l:m=33->i=11:=λh=>by rcases q with⟨-,f,-⟩|⟨o,-⟩|⟨-,-,f,-⟩<;>omega
 match j,r,hR with
 | 0,_,h=>exact h
 | 1,_,h=>exact h
 | 2,_,h=>exact h
 | 3,_,h=>exact El.kept h dC k
 | 4,_,h=>exact Bo.kept h dC k λg b=>(s g b).2
 | 5,_,h=>exact Lo.kept h dC k λe=>c (d e.symm)
 | 6,_,h=>exact h
 | 7,_,h=>exact h
 | 8,_,h=>exact h
 | 9,_,h=>exact El.kept h dC k
 | 10,_,h=>exact Bo.kept h dC k λg b=>(s g b).2
 | 11,_,h=>exact Lo.kept h dC k λe=>c (l e.symm)
 | 12,_,h=>exact Lo.kept h dC k λe=>o ⟨rfl,d e.symm⟩
 | 13,_,h=>exact Lo.kept h dC k λe=>f ⟨rfl,l e.symm⟩
 | _+14,r,_=>omega
theorem Nq(i b:Nat)(f:(Pk2 b).contains i=false)(w w':Ut)(hE:PE v3 v4 i w w')(hR:PBs w0 v3 v4 k6 n B0 base p bs cs q k ns az b w):PBs w0 v3 v4 k6 n B0 base p bs cs q k ns az b w':=by
 obtain⟨m,u,d,r⟩:=Kx v3 v4 hE;have v:=Kw v3 v4 B0 base hv3 hv4 r;have l:m=32->i=5:=λh=>by rcases r with⟨t,-⟩|⟨-,o,-⟩|⟨-,-,o,-⟩<;>omega
 have s:m=33->i=11:=λh=>by rcases r with⟨-,o,-⟩|⟨t,-⟩|⟨-,-,o,-⟩<;>omega
 match b,f,hR with
 | 0,_,h=>exact Row.kept h d (λp c e=>by cases e) (by rw[UB];exact Uz dC (Zh 4 _))
 | 1,f,h=>exact Lo.kept h dC d λe=>by rw[l e.symm]at f;cases f
 | 2,f,h=>exact Lo.kept h dC d λe=>by rw[s e.symm]at f;cases f
 | 3,_,h=>exact⟨d.below h.1 h.2.1 λg j=>(v g j).1,UE h.2.1 d.gr.size,UE h.2.2 d.gr.size⟩
 | 4,_,h=>exact Tm.kept h d
 | 5,_,h=>exact Row.kept h d (λp c e=>by cases e) dC
 | _+6,_,_=>trivial
end
theorem Lo.drew{n k:Nat}{W:Ut}{v:Uv}{b:List Bs}(h:Lo n k W v b):Lo n k W.drew v b:=⟨h.ex,h.nil⟩
theorem SumR.all(C:Fld P)(O:Ord N){w w':Ut}{k:Nat}(y:k<=512){ns:Nat->Nat}{X:Nat->EC.Pt P}(o:∀j,j<k->ns j<N)(u:∀j,j<k->On (X j)){L M:Nat->Bs}(v:∀j,j<k->L j=bx (ns j))(x:∀j,j<k->M j=wr (X j)){e:Uv}(h:SumR P N w k k L M e w'):
 He w (wr (tot X k (λj=>(ns j:Int)))) e w':=by
 have q:∀j,j<k->rq N (L j)=some (ns j):=λj b=>by
  rw[v j b];have c:=Bn (Uz (o j b) O.le);unfold rq;rw[yCk ⟨eE _,by rw[c];exact o j b⟩,c]
 have r:∀j,j<k->∃p,rd P (M j)=some p/\pt p=X j:=λj b=>by rw[x j b];exact zM C (u j b)
 rcases h with⟨h,-⟩|⟨-,h,-⟩|⟨-,-,⟨⟨j,b,c⟩,-⟩|⟨f,n,⟨⟨j,b,c⟩,-⟩|⟨xs,ys,m,h⟩⟩⟩
 ·exact absurd rfl h
 ·omega
 ·rw[q j b]at c;cases c
 ·obtain⟨p,d,-⟩:=r j b;rw[d]at c;cases c
 ·have s:∀j,j<k->f j=ns j:=λj b=>by
   have:=n j b;rw[q j b]at this;exact(UP.inj this).symm
  have d:∀j,j<k->Pair (xs j) (ys j) (X j)/\On (X j):=λj b=>by
   obtain⟨p,d,hpt⟩:=r j b;have l:=m j b;rw[d]at l;have t:=UP.inj l;have g:=QY C d;rw[hpt]at g;rw[t]at g;exact g
  have l:=BG C (ns:=f) (xs:=xs) (ys:=ys) (p:=X) (N:=k) (λi g=>by rw[s i g];exact Uz (o i g) O.le) (λi g=>(d i g).1) (λi g=>(d i g).2);have t:tot X k (λj=>(f j:Int))=tot X k (λj=>(ns j:Int)):=eJ k λj b=>by rw[s j b]
  rw[t]at l;rw[<-vK C (l.pair C) l.2];exact h
structure Pz(w W:Ut)(q:Option Wv)(k i:Nat)(ns:Nat->Nat)(az:Nat->Bs)(s3 s4:Uv):Prop where
 bl:kZ w W
 l3:Lo 32 w.heap.size W s3 ((VB i).map λj=>bx (ns j))
 l4:Lo 33 w.heap.size W s4 ((VB i).map az)
 tm:Tm W q k ns az
 r2:Row W w.heap.size z33
theorem El.of_made{w w':Ut}{k n:Nat}(h:Made w k (cb b) w')(c:b.size=n):El n w' (sZ k n n) b:=⟨k,n,rfl,Uy _,c,h.lt,cb_holds h.range h.there⟩
theorem Bo.of{n k:Nat}{w:Ut}{x:Uv}(h:El n w x b)(d:0<n)(c:k<=w.heap.size)(T:Vb):Bo n k (w.alloc (.cells #[x] T)) (sZ w.heap.size 1 1) b:=
 ⟨w.heap.size,x,rfl,c,by rw[UD];omega,by rw[World.cell?_alloc_new];rfl,h.kept d (Gr.of (n:=0) (aC w _))⟩
theorem Lo.args{n k:Nat}{W:Ut}{v:Uv}{c:List Bs}(h:Lo n k W v c):∃q cap,v=.slice q c.length cap/\(0<c.length->∃g,q=some (aZ g)/\g<W.heap.size/\∀(j:Nat) (b:Bs),c[j]? = some b->∃x,W.cell? ⟨g,j,none⟩=some x/\El n W x b):=by
 obtain⟨xs,l,e,i⟩:=h.ex;have o:=λ{g:Nat}=>e.cells (g:=g)
 rcases e.2 with⟨rfl,m⟩|⟨g,cap,cur,rfl,-,p,-⟩
 ·exact⟨none,0,by rw[m],λh=>oM⟩
 ·refine⟨_,_,rfl,λ_=>⟨g,rfl,(UY.1 p).1,λj b f=>?_⟩⟩;have d:j<xs.length:=by rw[l];exact(UG.1 f).1
  have:=o (g:=g) rfl j xs[j] (UI d);rw[add0]at this;exact⟨_,this,i j _ b (UI d) f⟩
theorem El.arg{W:Ut}{x:Uv}(h:El 32 W x b):Arg W x b:=by
 obtain⟨k,c,rfl,f,g,e,d⟩:=h;exact⟨_,_,_,rfl,g,λ_=>⟨k,0,rfl,f,e,d⟩⟩
theorem El.arg33{W:Ut}{x:Uv}(h:El 33 W x b):Arg33 W x b:=by
 obtain⟨k,c,rfl,f,g,e,d⟩:=h;exact⟨_,_,_,rfl,g,λ_=>⟨k,0,rfl,f,e,d⟩⟩
theorem Df(C:Fld P)(O:Ord N)(v:Uv)(w:Ut)(k:Nat)(hk:k<=512)(ns:Nat->Nat)(X:Nat->EC.Pt P)(hn:∀j,j<k->ns j<N)(hX:∀j,j<k->On (X j))
 (E:∀W,kZ w W->UK prog 140 #[v] W (rZ W λe w'=>∃q cap,e=.slice q k cap/\Tm w' q k ns (λj=>wr (X j)))) :
 UK prog 67 #[v] w (rZ w λe w'=>e=pvl (wr (tot X k (λj=>(ns j:Int))))):=by
 have HM:=Hid.mk' E;have z:Hid (Fld P/\Ord N/\(∀j,j<k->ns j<N)/\∀j,j<k->On (X j)):=⟨C,O,hn,hX⟩
 obtain⟨s,H⟩:∃s:Nat->Bs,Hid ((λj=>wr (X j))=s):=⟨_,rfl⟩
 have F:Hid (∀j,s j=wr (X j)):=λj=>by rw[<-H.out]
 rw[H.out]at HM;obtain⟨U,S⟩:∃U,Hid (w.alloc (.cells z33.toArray 103)=U):=⟨_,rfl⟩
 have K1:Hid (Row U w.heap.size z33/\kZ w U):=by rw[<-S.out];exact⟨aE w _ _,aC w _⟩
 obtain⟨d,ha,h5⟩:=UA.1 uCP;obtain⟨d',Z,hc⟩:=UA.1 uT;have HD:Hid ((prog.underlying 103=some d/\d.isRow=true)/\prog.underlying 226=some d'/\d'.isRow=true):=⟨⟨ha,h5⟩,Z,hc⟩
 clear ha h5 Z hc E hn hX H C O;go_enter func67,ntmps67;go_wp2_with (refine bG (v:=jZ w.heap.size) (w':=U) rfl (.alloc 103) rfl ?_ ?_;(rw[<-S.out];kernel_rfl))
 clear S;refine(HM U K1.2).mono ?_;rintro e w2 ⟨vv,rfl,Q,q,cap,rfl,Y⟩;have K2:Hid (Pz w w2 q k 0 ns s (.slice none 0 0) (.slice none 0 0)):=⟨K1.2.trans (Q.mono K1.2.size),Lo.begin _ _ _,Lo.begin _ _ _,Y,K1.1.below Q⟩
 clear Q Y K1 HM;go_wp2_with fail
 go_loopg [3,4,12] k (λm s3 s4 s12 W=>∃i:Nat,i+m=k/\s12=iZ i/\Hid (Pz w W q k i ns s s3 s4))
 case atStart=>exact⟨0,oM,rfl,K2⟩
 case round =>
  clear K2;obtain⟨i,k1,rfl,l⟩:=hrel;by_cases hi:i<k
  ·have hz:(i:Int)<(k:Int):=oM;obtain⟨g,hq,D,hr⟩:=l.tm oM;subst hq;obtain⟨n,L⟩:∃n,Hid (ns i=n):=⟨_,rfl⟩
   obtain⟨p,R⟩:∃p,Hid (s i=p):=⟨_,rfl⟩
   have B0:Hid (wr.rangeAt g (37*i) (wn n++aA p)):=by
    have h:=hr i hi;rw[L.out,R.out]at h;exact h
   have K:Hid (p.size=33):=by rw[<-R.out,F.out i];exact aT _
   have hw:Hid (n<N):=by rw[<-L.out];exact z.2.2.1 i hi
   obtain⟨A,h8⟩:∃A,Hid (wr.alloc (.cells zT.toArray 226)=A):=⟨_,rfl⟩
   obtain⟨r,h9⟩:∃r,Hid (A.setCells wr.heap.size 0 (wn n++aA p)=r):=⟨_,rfl⟩
   have f:(wn n++aA p).length=37:=by rw[UB,aB K.out];rfl
   have F1:Hid (Row A wr.heap.size zT/\kZ wr A/\A.heap.size=wr.heap.size+1):=by rw[<-h8.out];exact⟨aE wr _ _,aC wr _,UD _ _⟩
   have B:Hid (Row r wr.heap.size (wn n++aA p)/\kZ wr r):=by rw[<-h9.out];exact⟨F1.1.put (by rw[f];rfl),RG.below_setCells (Uy _) _ _ _ F1.2.1⟩
   have hs:Hid ((prog.info? 226).map (·.size)=some (wn n++aA p).length):=by show _=_;rw[f];exact iT
   have hl:Hid ((prog.info? 226).map (·.size)=some (wn n++aA p).toArray.size/\A.there wr.heap.size 0 (wn n++aA p).toArray.size):=by
    have e:(wn n++aA p).toArray.size=37:=by rw[VE];exact f
    rw[e];exact⟨iT,F1.1.2.2⟩
   have hy:Hid ((wn n++aA p).toArray.all (·.oneCell')=true):=by
    show _=_;rw[WR];intro u c;exact cells_one n p u (XL.1 c)
   have k3:=atT g 0 k cap i hi;obtain⟨vt,t⟩:∃v,Hid (U5 (wn n++aA p).toArray=v):=⟨_,rfl⟩
   have G2:Gr 0 (.slice none 0 0) wr r:=Gr.of B.2;have HB:Hid (∀b,PBs w u3 u4 wr.heap.size n r.heap.size w.heap.size p ((VB i).map λj=>bx (ns j)) ((VB i).map s) (some (aZ g)) k ns s b r.drew):=λb=>by
    match b with
    | 0=>exact B.1
    | 1=>exact(l.l3.kept dC G2 dC).drew
    | 2=>exact(l.l4.kept dC G2 dC).drew
    | 3=>exact⟨(l.bl.trans (B.2.mono l.bl.size)).drew,UE l.bl.size B.2.size,Uy _⟩
    | 4=>exact l.tm.kept (W':=r) G2
    | 5=>exact l.r2.below (W':=r) B.2
    | _+6=>trivial
   have H3:Hid (∀g,u3.ownBlock=some g->w.heap.size<=g/\g<r.heap.size):=λg D=>⟨(l.l3.lt g D).1,Uz (l.l3.lt g D).2 B.2.size⟩
   have H4:Hid (∀g,u4.ownBlock=some g->w.heap.size<=g/\g<r.heap.size):=λg D=>⟨(l.l4.lt g D).1,Uz (l.l4.lt g D).2 B.2.size⟩
   have HG:=Hid.mk' D;clear f hr G2 l B D;go_wp2_with (first|(refine U8 rfl 226 _ rfl g (37*i) ?_ (wn n++aA p) d' ?_ ?_ ?_ ?_ ?_;rfl;exact B0.out;exact HD.2.1;exact HD.2.2;exact hs.out;rw[t.out])|(refine bG (v:=jZ wr.heap.size) (w':=A) rfl (.alloc 226) rfl ?_ ?_;(rw[<-h8.out];kernel_rfl))|(refine U3 rfl 226 _ _ rfl wr.heap.size 0 (wn n++aA p).toArray ?_ ?_ ?_ ?_ ?_ ?_;rfl;exact t.symm;exact hl.2;exact hl.1;exact hy.out;rw[show(wn n++aA p).toArray.toList=wn n++aA p from rfl,h9.out])|fail)
   refine qF (FP w u3 u4 wr.heap.size n r.heap.size w.heap.size p ((VB i).map λj=>bx (ns j)) ((VB i).map s) (some (aZ g)) k ns s) kR ⟨kR,CG ?_,λi' j k2 hj ht G y=>Qp u3 u4 wr.heap.size n r.heap.size w.heap.size p _ _ H3.out H4.out i' j hj ht G (λh=>by rw[h.1,h.2]at y;exact absurd (show false=true from y.symm.trans kR) dC) (λh=>by rw[h.1,h.2]at y;exact absurd (show false=true from y.symm.trans kR) dC),λi' b _ G=>Nq w u3 u4 wr.heap.size n r.heap.size w.heap.size p _ _ _ k ns s H3.out H4.out i' b G⟩ HB.out ?_
   ·have o:∀W:Ut,Gr 0 (.slice none 0 0) W W:=λW=>Gr.of (UT _ _)
    refine⟨mH 3 λa W c=>⟨a.eval (.tmp 3),W,kR,kR,o W,c.o 3 kR⟩,
     mH 6 λa W c=>⟨jZ wr.heap.size,W,kR,by rw[show a.eval (.tmp 6)=jZ wr.heap.size from c.o 6 kR];kernel_rfl,o W,rfl⟩,
     Bh 49 17 rfl u40 λa W c=>⟨wr.heap.size,0,wn n,c.n 1 17 kR kR kR,kC (show Row W wr.heap.size (wn n++aA p) from c.b 0 kR).2.1,i40,o W,rfl⟩,
     FH 18 λa W c=>⟨141,#[nv n],kR,by rw[show a.eval (.tmp 18)=nv n from c.n 2 18 kR kR kR];kernel_rfl,(qN z.2.1 hw.out W).mono (by
      rintro e W' ⟨u,rfl,V,I,rfl⟩;exact⟨_,rfl,Gr.of I.bel,El.of_made I (eE n)⟩)⟩,
     mH 19 λa W c=>⟨sZ W.heap.size 1 1,W.alloc (.cells #[a.eval (.tmp 19)] 23),kR,by
      obtain⟨V,I,J,-⟩:=show El 32 W (a.eval (.tmp 19)) (bx n) from c.n 3 19 kR kR kR
      rw[J];kernel_rfl,Gr.of (aC W _),Bo.of (show El 32 W (a.eval (.tmp 19)) (bx n) from c.n 3 19 kR kR kR) dC (c.b 3 kR).2.2 _⟩,
     JW 16 20 24 rfl λa W c=>?_,
     mH 4 λa W c=>⟨a.eval (.tmp 4),W,kR,kR,o W,c.o 4 kR⟩,
     mH 6 λa W c=>⟨oZ wr.heap.size 4,W,kR,by rw[show a.eval (.tmp 6)=jZ wr.heap.size from c.o 6 kR];kernel_rfl,o W,rfl⟩,
     Bh 103 23 rfl uCP λa W c=>⟨wr.heap.size,4,aA p,c.n 7 23 kR kR kR,lT (xs:=wn n) (show Row W wr.heap.size (wn n++aA p) from c.b 0 kR).2.1,by rw[aB K.out];exact cV,o W,rfl⟩,
     FH 24 λa W c=>⟨142,#[pvl p],kR,by rw[show a.eval (.tmp 24)=pvl p from c.n 8 24 kR kR kR];kernel_rfl,(Gv K.out W).mono (by
      rintro e W' ⟨u,rfl,M,hE⟩;exact⟨_,rfl,Gr.of M,hE⟩)⟩,
     mH 25 λa W c=>⟨sZ W.heap.size 1 1,W.alloc (.cells #[a.eval (.tmp 25)] 23),kR,by
      obtain⟨V,I,J,-⟩:=show El 33 W (a.eval (.tmp 25)) p from c.n 9 25 kR kR kR
      rw[J];kernel_rfl,Gr.of (aC W _),Bo.of (show El 33 W (a.eval (.tmp 25)) p from c.n 9 25 kR kR kR) dC (c.b 3 kR).2.2 _⟩,
     JW 22 26 24 rfl λa W c=>?_,
     mH 21 λa W c=>⟨a.eval (.tmp 21),W,kR,kR,o W,c.n 5 21 kR kR kR⟩,
     mH 27 λa W c=>⟨a.eval (.tmp 27),W,kR,kR,o W,c.n 11 27 kR kR kR⟩,yCm⟩
    ·obtain⟨V,x,J,h1,h2,I,M⟩:=show Bo 32 r.heap.size W (a.eval (.tmp 20)) (bx n) from c.n 4 20 kR kR kR
     obtain⟨v',W',r1,r2,r3⟩:=Lo.app (show Lo 32 w.heap.size W u3 _ from c.b 1 kR) dC M I (by rw[US,X5];omega) (c.b 3 kR).2.1;refine⟨v',W',?_,r3,r2⟩;rw[J,show a.eval (.tmp 16)=u3 from c.n 0 16 kR kR kR];exact r1
    ·obtain⟨V,x,J,h1,h2,I,M⟩:=show Bo 33 r.heap.size W (a.eval (.tmp 26)) p from c.n 10 26 kR kR kR
     obtain⟨v',W',r1,r2,r3⟩:=Lo.app (show Lo 33 w.heap.size W u4 _ from c.b 2 kR) dC M I (by rw[US,X5];omega) (c.b 3 kR).2.1;refine⟨v',W',?_,r3,r2⟩;rw[J,show a.eval (.tmp 22)=u4 from c.n 6 22 kR kR kR];exact r1
   ·intro V w5 o c;have J:Hid (Pz w w5 (some (aZ g)) k (i+1) ns s (V 12) (V 13)):=by
     have h1:=o 12 (Xt (VX kR)) rfl;have h2:=o 13 (Xt (VX kR)) rfl;refine⟨(c 3 rfl).1,?_,?_,c 4 rfl,c 5 rfl⟩
     ·rw[YJ,Wx];show Lo 32 w.heap.size w5 (V 12) (_++[bx (ns i)]);rw[L.out];exact h1
     ·rw[YJ,Wx];show Lo 33 w.heap.size w5 (V 13) (_++[s i]);rw[R.out];exact h2
    clear o c HB H3 H4;dsimp only[bU,VO];generalize V 12=s3 at J⊢;generalize V 13=s4 at J⊢;go_wp2;go_roundg (gk-1)
    case measure=>omega
    case rel=>exact⟨i+1,oM,rfl,J⟩
  ·have hz:¬(i:Int)<(k:Int):=oM;obtain rfl:i=k:=oM;obtain⟨q3,c3,rfl,I⟩:=l.l3.args;obtain⟨q4,c4,rfl,M⟩:=l.l4.args;rw[US,X5]at I M;have V:Hid (vQ wr q3 i (λj=>bx (ns j))):=λL=>by
    obtain⟨g,o,c,e3⟩:=I L;refine⟨g,o,c,λj hj=>?_⟩;obtain⟨x,r,y⟩:=e3 j (bx (ns j)) (by rw[Vy,Zy hj];rfl);exact⟨x,r,y.arg⟩
   have R:Hid (ArgsPts wr q4 i s):=λL=>by
    obtain⟨g,o,c,e3⟩:=M L;refine⟨g,o,c,λj hj=>?_⟩;obtain⟨x,r,y⟩:=e3 j (s j) (by rw[Vy,Zy hj];rfl);exact⟨x,r,y.arg33⟩
   rw[US,X5,US,X5];have B:Hid (kZ w wr/\Row wr w.heap.size z33):=⟨l.bl,l.r2⟩
   clear I M l;go_wp2_with fail
   refine(PM z.1 z.2.1.gap z.2.1.le q3 q4 i c3 i c4 (λj=>bx (ns j)) s wr V.out R.out).mono ?_;rintro e r ⟨vv,rfl,c,hS⟩;obtain⟨G,cs,rfl,-,-,h6,K⟩:=SumR.all z.1 z.2.1 oM z.2.2.1 z.2.2.2 (λ_ _=>rfl) (λj _=>F.out j) hS;obtain⟨T,Y⟩:∃T,Hid (Go.Proofs.YtdoammpgchejcaaGreat.wr (tot X i (λj=>(ns j:Int)))=T):=⟨_,rfl⟩
   have J:T.size=33:=by rw[<-Y.out];exact aT _
   rw[Y.out]at K;have y:Hid (Row r w.heap.size z33/\kZ w r/\Row r G (aA T)):=⟨B.2.below c,B.1.trans (c.mono B.1.size),pW K h6⟩
   clear c hS h6 K B V R;have k0:=FV G cs;obtain⟨A,o⟩:∃A,Hid (r.setCells w.heap.size 0 (aA T)=A):=⟨_,rfl⟩
   have f:(aA T).length=33:=aB J;have K7:Hid (Row A w.heap.size (aA T)/\kZ w A):=by rw[<-o.out];exact⟨y.1.put (by rw[f];rfl),RG.below_setCells (Uy _) _ _ _ y.2.1⟩
   obtain⟨vt,t⟩:∃vt,Hid (U5 (aA T).toArray=vt):=⟨_,rfl⟩
   have D:Hid ((prog.info? 103).map (·.size)=some (aA T).length/\r.there w.heap.size 0 (aA T).toArray.size/\(prog.info? 103).map (·.size)=some (aA T).toArray.size):=by
    have e:(aA T).toArray.size=33:=by rw[VE];exact f
    refine⟨by rw[f];exact cV,by rw[e];exact y.1.2.2,by rw[e];exact cV⟩
   clear f;go_wp2_with (first|(refine U8 rfl 103 _ rfl G 0 ?_ (aA T) d ?_ ?_ ?_ ?_ ?_;rfl;exact y.2.2.2.1;exact HD.1.1;exact HD.1.2;exact D.1;rw[t.out])|(refine U3 rfl 103 _ _ rfl w.heap.size 0 (aA T).toArray ?_ ?_ ?_ ?_ ?_ ?_;rfl;exact t.symm;exact D.2.1;exact D.2.2;exact bW T;rw[show(aA T).toArray.toList=aA T from rfl,o.out]))
   refine UH (aG 2 103 rfl K7.1 rfl uCP D.1) rfl ?_;exact⟨_,rfl,K7.2,by rw[Y.out];rfl⟩
end
namespace EC
variable {P:Nat}[NeZero P]
def pts(P:Nat)[NeZero P]:List (Pt P):=
 none :: (yBE P).flatMap λx=>((yBE P).filter λy=>decide (y^2=x^3+7)).map λy=>some (x,y)
theorem mD(a:Pt P):a∈pts P↔On a:=by
 unfold pts;rcases a with _|⟨x,y⟩
 ·exact⟨λ_=>trivial,λ_=>Vo⟩
 ·rw[V0,ZP];constructor
  ·rintro(h|⟨u,-,h⟩)
   ·cases h
   ·obtain⟨v,hv,e⟩:=Vn.1 h;cases e
    have k:=(Zg.1 hv).2;exact(decide_eq_true_iff (p:=y^2=x^3+7)).1 k
  ·intro h;have h:=h;exact U2 ⟨x,yA0 x,Vn.2 ⟨y,Zg.2 ⟨yA0 y,decide_eq_true h⟩,rfl⟩⟩
theorem zX:(pts P).Nodup:=by
 unfold pts;refine X1.2 ⟨λh=>?_,?_⟩
 ·obtain⟨u,-,h⟩:=ZP.1 h;obtain⟨v,-,e⟩:=Vn.1 h;cases e
 ·refine List.pairwise_flatMap.2 ⟨λx _=>yAZ.2 ?_,?_⟩
  ·refine yAa ?_ ((Zt P).sublist yAL);intro a b h e;exact h (by cases e;rfl)
  ·refine yAa ?_ (Zt P);intro a b h u k v hv e;obtain⟨c,-,rfl⟩:=Vn.1 k;obtain⟨d,-,rfl⟩:=Vn.1 hv;exact h (by cases e;rfl)
theorem Ly{u v c:Fin P}(k:u^2=c)(hv:v^2=c):(u-v)*(u+v)=0:=by grobner
theorem Mt{a b d:Fin P}(c:a+b=0)(k:a+d=0):b=d:=by grobner
theorem Gl(C:Cur P){c:Fin P}:∀l:List (Fin P),l.Nodup->(∀y,y∈l->y^2=c)->l.length<=2
 | [],_,_=>Wz _
 | [_],_,_=>Nat.le_succ _
 | [_,_],_,_=>Uy _
 | a :: b :: d :: l,k,h=>by
  exfalso;have g:=h a (by simp);have o:=h b (by simp);have hd:=h d (by simp);have m:a≠b:=λe=>(X1.1 k).1 (by rw[e];simp)
  have q:a≠d:=λe=>(X1.1 k).1 (by rw[e];simp)
  have j:b≠d:=λe=>(X1.1 (X1.1 k).2).1 (by rw[e];simp)
  have f:∀u v:Fin P,u^2=c->v^2=c->u≠v->u+v=0:=λu v p hv k=>by
   exact WB λi=>cI C.pr (pJ k) i (Ly p hv)
  have n:=f a b g o m;have i:=f a d g hd q;exact j (Mt n i)
theorem Cx{α β:Type}(f:α->List β)(k:Nat)(h:∀a,(f a).length<=k):∀l:List α,(l.flatMap f).length<=k*l.length
 | []=>Wz _
 | a :: l=>by
  rw[ZI,UB,Vg,Yk,yAS];exact Nat.add_le_add (Cx f k h l) (h a)
theorem MG(C:Cur P):(pts P).length<=2*P+1:=by
 unfold pts;rw[Vg];refine Nat.succ_le_succ (UE (Cx _ 2 (λx=>?_) _) (by rw[List.length_finRange];exact Uy _));rw[US];exact Gl C (c:=x^3+7) _ ((Zt P).sublist yAL) λy k=>of_decide_eq_true (Zg.1 k).2
theorem Mb:0<(pts P).length:=Nat.succ_pos _
def uN:List (Pt P)->Pt P
 | []=>none
 | a :: l=>add a (uN l)
theorem uX(C:Cur P):∀l:List (Pt P),(∀a,a∈l->On a)->On (uN l)
 | [],_=>iQ
 | a :: l,h=>C.on (h a Vo) (uX C l λb k=>h b (Vd _ k))
theorem GH(C:Cur P){l m:List (Pt P)}(p:l.Perm m):(∀a,a∈l->On a)->uN l=uN m:=by
 induction p with
 | nil=>intro _;rfl
 | cons x _ ih =>
  intro h;show add x _=add x _;rw[ih λb k=>h b (Vd _ k)]
 | swap x y l =>
  intro h;have c:=h y Vo;have hx:=h x (Vd _ Vo);have d:=uX C l λb k=>h b (Vd _ (Vd _ k))
  show add y (add x (uN l))=add x (add y (uN l));rw[<-C.assoc c hx d,C.comm c hx,C.assoc hx c d]
 | trans p _ ih1 ih2 =>
  intro h;rw[ih1 h,ih2 λa k=>h a (p.mem_iff.2 k)]
theorem xH(C:Cur P)(k:On r):∀l:List (Pt P),(∀a,a∈l->On a)->uN (l.map λa=>add a r)=add (uN l) (mul l.length r)
 | [],_=>rfl
 | a :: l,h=>by
  have e:=h a Vo;have c:∀b,b∈l->On b:=λb d=>h b (Vd _ d)
  show add (add a r) (uN (l.map _))=add (add a (uN l)) (add (mul l.length r) r);rw[xH C k l c,C.comm (cG C k _) k,C.swap e k (uX C l c) (cG C k _)]
theorem yS(C:Cur P){a b:Pt P}(d:On a)(c:On b)(k:On r)(e:add a r=add b r):a=b:=by
 have:add (add a r) (neg r)=add (add b r) (neg r):=by rw[e]
 rwa[C.assoc d k (cE k),C.assoc c k (cE k),add_neg,bK,bK]at this
theorem wJ(C:Cur P)(k:On r):((pts P).map λa=>add a r).Perm (pts P):=by
 refine(List.perm_ext_iff_of_nodup ?_ zX).2 λa=>?_
 ·refine yAZ.2 (List.Pairwise.imp_of_mem ?_ (zX (P:=P)));intro a b c d h e;exact h (yS C ((mD a).1 c) ((mD b).1 d) k e)
 ·rw[mD,Vn];constructor
  ·rintro⟨b,d,rfl⟩;exact C.on ((mD b).1 d) k
  ·intro c;refine⟨add a (neg r),(mD _).2 (C.on c (cE k)),?_⟩;rw[C.assoc c (cE k) k,C.neg_l k,bK]
theorem EW(C:Cur P)(k:On r):mul (pts P).length r=none:=by
 have f:∀a,a∈pts P->On a:=λa b=>(mD a).1 b
 have e:=xH C k (pts P) f;rw[GH C (wJ C k) λa b=>(mD a).1 ((wJ C k).mem_iff.1 b)]at e;have c:=uX C (pts P) f;have d:=cG C k (pts P).length;have g:add (mul (pts P).length r) (uN (pts P))=add none (uN (pts P)):=by
  rw[C.comm d c,<-e,jL]
 exact yS C d iQ c g
theorem mB(C:Cur P){a:Pt P}(k:On a)(m:Nat):∀n,mul (m*n) a=mul n (mul m a)
 | 0=>rfl
 | n+1=>by
  rw[Yk,mul_add C k,mB C k m n];rfl
theorem nF:∀n,mul n (none:Pt P)=none
 | 0=>rfl
 | n+1=>by
  show add (mul n none) none=none;rw[nF n];rfl
theorem C7(C:Cur P){a:Pt P}(k:On a)(e:add a a=none):a=none:=by
 rcases a with _|⟨x,y⟩
 ·rfl
 ·exfalso;have ho:=C.opp_ne k;rw[cD C.pr C.two k k ho (bR C.pr C.two k k ho)]at e;cases e
theorem IW(C:Cur P){n:Nat}(f:IsP n)(p:2*P+1<3*n){g:Pt P}(k:On g)(l:g≠none)(i:mul n g=none)(d:On r):mul n r=none:=by
 have hd:n ∣ (pts P).length:=WB λhd=>by
  have j:=f.fermat1 _ hd;have e:mul ((pts P).length^(n-1)) g=none:=by
   have:n-1=(n-2)+1:=by have:=f.1;omega
   rw[this,V8,Vv,mB C k,EW C k,nF]
  have b:=YT ((pts P).length^(n-1)) n;rw[j]at b;rw[<-b,mul_add C k,mB C k,i,nF,jL]at e;exact l e
 obtain⟨c,m⟩:=hd;have o:=MG C;have j:=Mb (P:=P);have b:=EW C d;rw[m]at o j b;have e:c<3:=Nat.lt_of_mul_lt_mul_left (a:=n) oM;match c,e with
 | 0,_=>omega
 | 1,_=>rwa[Nat.mul_one]at b
 | 2,_ =>
  rw[mB C d]at b;exact C7 C (cG C d n) b
end EC
section
open Go.RowKit Go.Sort Go.Deep
variable {P:Nat}[NeZero P]{N:Nat}
def fU(P:Nat)[NeZero P](b:Bs):EC.Pt P:=match rd P b with|some p=>pt p|none=>none
theorem lN(C:Fld P){X:EC.Pt P}(h:On X):fU P (wr X)=X:=by
 obtain⟨p,k,b⟩:=zM C h;unfold fU;rw[k];exact b
def fK(P:Nat)[NeZero P]:List (Nat × Bs)->EC.Pt P
 | []=>none
 | x :: r=>EC.add (mul x.1 (fU P x.2)) (fK P r)
def PtsL(P:Nat)[NeZero P](l:List (Nat × Bs)):Prop:=∀x∈l,∃X:EC.Pt P,On X/\x.2=wr X
theorem PtsL.on(C:Fld P){l:List (Nat × Bs)}(h:PtsL P l){x:Nat × Bs}(hx:x∈l):On (fU P x.2):=by
 obtain⟨X,k,b⟩:=h x hx;rw[b,lN C k];exact k
theorem nT(C:Fld P):∀ {l:List (Nat × Bs)},PtsL P l->On (fK P l)
 | [],_=>iQ
 | x :: r,h=>C.cur.on (cG C.cur (h.on C Vo) _) (nT C λy k=>h y (Vd _ k))
theorem zG(C:Fld P)(y:Nat × Bs)(b:On (fU P y.2)):∀ {l:List (Nat × Bs)},PtsL P l->fK P (l++[y])=EC.add (fK P l) (mul y.1 (fU P y.2))
 | [],_=>bK _
 | x :: r,h=>by
  have k:PtsL P r:=λz c=>h z (Vd _ c)
  show EC.add (mul x.1 (fU P x.2)) (fK P (r++[y]))=_;rw[zG C y b k];exact(C.cur.assoc (cG C.cur (h.on C Vo) _) (nT C k) (cG C.cur b _)).symm
theorem AH:∀l:List (Nat × Bs),fK P (LF l)=fK P l
 | []=>rfl
 | x :: r=>by
  unfold LF;rw[List.filter_cons];by_cases h:x.1=0
  ·rw[yCl (by simp[h])];show fK P (LF r)=EC.add (mul x.1 (fU P x.2)) (fK P r);rw[h,AH r];rfl
  ·rw[yCk (by simp[h])];show EC.add _ (fK P (LF r))=EC.add _ (fK P r);rw[AH r]
theorem mul_mod(C:Fld P)(k:∀r:EC.Pt P,On r->mul N r=none){X:EC.Pt P}(b:On X)(n:Nat):mul (n%N) X=mul n X:=by
 have h:=mul_add C.cur b (N*(n/N)) (n%N);rw[YT,mB C.cur b N (n/N),k X b,nF,jL]at h;exact h.symm
theorem zH(C:Fld P)(k:∀r:EC.Pt P,On r->mul N r=none)(n:Nat)(p:Bs)(b:On (fU P p)):∀ {l:List (Nat × Bs)},PtsL P l->fK P (fB N l n p)=EC.add (fK P l) (mul n (fU P p))
 | [],_=>bK _
 | (s,q) :: r,h=>by
  have g:PtsL P r:=λz i=>h z (Vd _ i)
  have j:=h.on C (x:=(s,q)) Vo;have f:=cG C.cur j s;have d:=nT C g;have c:=cG C.cur b n;unfold fB;by_cases e:p=q
  ·rw[yCk e];subst e;show EC.add (mul (sPl N s n) (fU P p)) (fK P r)=EC.add (EC.add (mul s (fU P p)) (fK P r)) (mul n (fU P p));unfold sPl;rw[mul_mod C k b,mul_add C.cur b,C.cur.assoc f c d,C.cur.assoc f d c,C.cur.comm c d]
  ·rw[yCl e];show EC.add (mul s (fU P q)) (fK P (fB N r n p))=EC.add (EC.add (mul s (fU P q)) (fK P r)) (mul n (fU P p));rw[zH C k n p b g,C.cur.assoc f d c]
theorem FY{n:Nat}{p:Bs}(k:∃X:EC.Pt P,On X/\p=wr X):∀ {l:List (Nat × Bs)},PtsL P l->PtsL P (fB N l n p)
 | [],_=>λx hx=>by
  have:x=(n,p):=by simpa[fB]using hx
  rw[this];exact k
 | (s,q) :: r,h=>by
  have b:PtsL P r:=λz c=>h z (Vd _ c)
  unfold fB;split
  ·intro x hx;rcases V0.1 hx with rfl|hx
   ·exact h (s,q) Vo
   ·exact b x hx
  ·intro x hx;rcases V0.1 hx with rfl|hx
   ·exact h (s,q) Vo
   ·exact FY k b x hx
theorem AV(ns:Nat->Nat)(X:Nat->EC.Pt P){k:Nat}(b:∀j,j<k->On (X j)):∀i,i<=k->PtsL P (mrg N ns (λj=>wr (X j)) i)
 | 0,_=>λx hx=>by cases hx
 | i+1,hi=>FY ⟨X i,b i oM,rfl⟩ (AV ns X b i oM)
theorem EX(C:Fld P)(b:∀r:EC.Pt P,On r->mul N r=none)(ns:Nat->Nat)(X:Nat->EC.Pt P){k:Nat}(d:∀j,j<k->On (X j)):∀i,i<=k->fK P (mrg N ns (λj=>wr (X j)) i)=tot X i (λj=>(ns j:Int))
 | 0,_=>rfl
 | i+1,hi=>by
  have c:=d i oM;show fK P (fB N (mrg N ns (λj=>wr (X j)) i) (ns i) (wr (X i)))=EC.add (tot X i (λj=>(ns j:Int))) (mul (ns i) (X i));rw[zH C b _ _ (by rw[lN C c];exact c) (AV ns X d i oM),EX C b ns X d i oM,lN C c]
theorem v9(C:Fld P)(l:List (Nat × Bs))(h:PtsL P l):∀i,i<=l.length->tot (λj=>fU P ((l[j]?).getD (0,#[])).2) i (λj=>(((l[j]?).getD (0,#[])).1:Int))=fK P (l.take i)
 | 0,_=>by rw[List.take_zero];rfl
 | i+1,hi=>by
  have k:i<l.length:=oM;show EC.add (tot _ i _) (mul ((l[i]?).getD (0,#[])).1 (fU P ((l[i]?).getD (0,#[])).2))=_;rw[v9 C l h i oM,yAY,UI k];exact(zG C (l[i]) (h.on C (VI k)) λx hx=>h x (yAB hx)).symm
theorem Dg(C:Fld P)(O:Ord N)(p:∀r:EC.Pt P,On r->mul N r=none)(g k c:Nat)(S:0<k)(T:k<=512)(ns:Nat->Nat)(X:Nat->EC.Pt P)(G:∀j,j<k->ns j<N)(D:∀j,j<k->On (X j))(w:Ut)(B:g<w.heap.size)(K:∀j,j<k->w.rangeAt g (37*j) (wn (ns j)++aA (wr (X j)))):
 UK prog 67 #[sZ g k c] w (rZ w λe w'=>e=pvl (wr (tot X k (λj=>(ns j:Int))))):=by
 have F:=AV (N:=N) ns X D k (Uy _);have m:=DK O ns (λj=>wr (X j)) G k (Uy _);have o:=xE (N:=N) ns (λj=>wr (X j)) (k:=k) (λj _=>aT _) k (Uy _);have y:=AX (N:=N) ns (λj=>wr (X j)) k;have l:=EX C p ns X D k (Uy _);have f:0<(mrg N ns (λj=>wr (X j)) k).length:=by
  obtain⟨b,rfl⟩:∃b,k=b+1:=⟨k-1,oM⟩
  show 0<(fB N _ _ _).length;cases mrg N ns (λj=>wr (X j)) b with
  | nil=>exact XZ 0
  | cons x r=>unfold fB;split<;>simp
 have i:=λW (s:kZ w W)=>Jb O (λe w'=>kZ W w'/\∃q cap,e=.slice q (LF (mrg N ns (λj=>wr (X j)) k)).length cap/\TmL w' q (LF (mrg N ns (λj=>wr (X j)) k))) g k c oM ns (λj=>wr (X j)) (λj _=>aT _) G W (Uz B s.size) (λj d=>RG.range_below (K j d) s B) (λW' v n=>by
  refine(JO _ f oM o (λx hx=>Uz (m x hx) O.le) W.heap.size v W' n.bl.size n.ow).mono ?_;rintro e w' ⟨u,rfl,b,t⟩;exact⟨_,rfl,n.bl.trans b,t⟩)
 generalize mrg N ns (λj=>wr (X j)) k=L at F m o y l f i;have a:PtsL P (LF L):=λx hx=>F x (Bt hx)
 have I:(LF L).length<=L.length:=yAA _ _;refine(Df C O _ w (LF L).length oM (λj=>(((LF L)[j]?).getD (0,#[])).1) (λj=>fU P (((LF L)[j]?).getD (0,#[])).2) (λj d=>by rw[UI d];exact m _ (Bt (VI d))) (λj d=>by rw[UI d];exact a.on C (VI d)) λW s=>?_).mono ?_
 ·refine(i W s).mono ?_;rintro e w' ⟨u,rfl,b,q,cap,rfl,t⟩;refine⟨_,rfl,b,q,cap,rfl,λJ=>?_⟩;obtain⟨z,R,H,e3⟩:=t J;refine⟨z,R,H,λj d=>?_⟩;have Q:=e3 j d;obtain⟨Y,M,E⟩:=a _ (VI d);show w'.rangeAt z (37*j) (wn (((LF L)[j]?).getD (0,#[])).1++aA (wr (fU P (((LF L)[j]?).getD (0,#[])).2)));rw[UI d];show w'.rangeAt z (37*j) (wn ((LF L)[j]).1++aA (wr (fU P ((LF L)[j]).2)));rw[E,lN C M,<-E];exact Q
 ·rintro e w' ⟨u,rfl,b,rfl⟩;refine⟨_,rfl,b,?_⟩;rw[v9 C (LF L) a _ (Uy _),ZO,AH,l]
theorem Qz:prog.underlying 23=some (.slice 5):=kR
theorem QB:prog.underlying 3=some (.int .i64):=kR
theorem NM:(prog.info? 5).map (λi=>(i.size,i.bytes,i.zero.map λz=>z.cells.size))=some (1,1,some 1):=kR
theorem atB(k o n c i:Nat)(b:i<n)(w:Ut):(Vj 24 (.slice (some ⟨k,o,none⟩) n c) (iZ i)).run prog w=.ok (.pointer (some ⟨k,o+1*i,none⟩)) w:=by
 go_simp
theorem PL(n:Nat)(a:n<=10000000)(w:Ut):UK prog 216 #[.slice none 0 0,iZ n] w (rZ w λe w'=>w'.ownsRow w.heap.size 5 1 e 0 []):=by
 by_cases u:n=0
 ·subst u;go_enter func216,ntmps216;go_wp2;go_ret;exact⟨_,rfl,UT _ _,ZD _ _ _ _⟩
 ·obtain⟨i,r,p⟩:=UA.1 NM;simp only[We.injEq]at p;obtain⟨t,q,o⟩:=p;obtain⟨z,m,f⟩:=UA.1 o;have g:=yAt (P:=prog) w 23 3 23 5 i z .i64 .i64 Qz QB r m n oM oM oM (by rw[q];omega);have d:=grownCap_ge w n 0 5;have k:=grownCap_le_maxLen w n 0 5 (by unfold maxLen;omega);have b:(WC z.cells n++WC z.cells (grownCap w n 0 5-n)).size=grownCap w n 0 5*1:=by rw[VP,size_zeroCells,size_zeroCells,f];omega
  generalize grownCap w n 0 5=l at g d k b;generalize WC z.cells n++WC z.cells (l-n)=cur at g b;obtain⟨j,c⟩:∃j,Hid (w.drew.alloc (.cells cur 5)=j):=⟨_,rfl⟩
  rw[c.out]at g;have v:=Hid.mk' g;have K:Hid (kZ w j/\j.ownsRow w.heap.size 5 1 (sZ w.heap.size 0 l) 0 []):=by
   rw[<-c.out];exact⟨(UT _ _).drew.alloc (Uy _) _,yAM w.drew cur l (Uy _) k b⟩
  clear g c b r m f t q o;have x:(0:Int)<(n:Int):=oM;have s:¬((n:Int)<0):=oM;have y:VY.wrap (n:Int)=n:=by rw[Yp];omega
  go_enter func216,ntmps216;go_wp2_with (at_builtin;refine WG _ rfl _ _ _ _ rfl _ _ rfl rfl _ _ v.out ?_)
  go_ret;exact⟨_,rfl,K.1,K.2⟩
def iK(L:Nat->Bs)(k:Nat):List UInt8:=(VB k).flatMap λj=>(L j).toList
theorem oK(L:Nat->Bs)(i:Nat):iK L (i+1)=iK L i++(L i).toList:=by
 unfold iK;rw[YJ,YM];simp
theorem FI(L:Nat->Bs){k m:Nat}(b:∀j,j<k->(L j).size<=m):∀i,i<=k->(iK L i).length<=m*i
 | 0,_=>Uy _
 | i+1,hi=>by
  have c:=FI L b i oM;have d:=b i oM;have e:(L i).toList.length=(L i).size:=rfl;rw[oK,UB,e,Yk];omega
theorem El.below{n:Nat}{W W':Ut}{x:Uv}(h:El n W x b)(d:Below B W W')(j:W.heap.size<=B):El n W' x b:=by
 obtain⟨k,c,rfl,g,i,f,e⟩:=h;exact⟨k,c,rfl,g,i,Uz f d.size,Holds.kept e (d.block k oM)⟩
theorem Mq{n m:Nat}{W:Ut}{v x:Uv}(e:W.ownsRow d 5 1 v n xs)(hx:El m W x b)(G:n+m<=100000000)(B:d<=W.heap.size):
 ∃f W',(Vx #[23,23] 23 #[v,x]).run prog W=.ok f W'/\W'.ownsRow d 5 1 f (n+m) (xs++cb b)/\W.grownBy W' v.ownBlock:=by
 obtain⟨i,D,l⟩:=UA.1 NM;simp only[We.injEq]at l;obtain⟨s,a,r⟩:=l;obtain⟨z,q,g⟩:=UA.1 r;obtain⟨k,c,rfl,F,p,e3,C⟩:=hx;obtain⟨f,W',A,o,t,-⟩:=Yv (P:=prog) W d 23 23 5 i z 1 1 Qz D q s a g dC v n xs e (aZ k) m c (cb b) (by rw[oJ,p];omega)
  (λj u w=>by
   have:=(rK C).1 j u w;rw[UF]at this;rw[add0];exact this) (λu E=>by
   obtain⟨y,-,rfl⟩:=Vn.1 E;rfl) (by unfold maxLen;omega) oM B
 exact⟨f,W',A,o,t⟩
theorem P7(L:Nat->Bs)(i:Nat):(iK L (i+1)).map encB=(iK L i).map encB++cb (L i):=by rw[oK,Wx];rfl
theorem JQ(g k c:Nat)(L:Nat->Bs)(H:k<=1000)(C:∀j,j<k->(L j).size<=10000)(w:Ut)(D:g<w.heap.size)(N:∀j,j<k->∃x,w.cell? ⟨g,j,none⟩=some x/\El (L j).size w x (L j)):
 UK prog 156 #[sZ g k c] w (rZ w λe w'=>w'.ownsRow w.heap.size 5 1 e (iK L k).length ((iK L k).map encB)):=by
 have F:=Hid.mk' N;have t:Hid (∀i,i<=k->(iK L i).length<=10000*i):=FI L C;have T:=Hid.mk' D;clear N C D;go_enter func156,ntmps156;go_wp2_with fail
 go_loopg [3,11] k (λm s3 s11 W=>∃i:Nat,i+m=k/\s11=iZ i/\s3=iZ ((iK L i).length:Int)/\w=W)
 case atStart=>exact⟨0,oM,rfl,rfl,rfl⟩
 case round =>
  obtain⟨i,S,rfl,rfl,rfl⟩:=hrel;by_cases R:i<k
  ·have z:(i:Int)<(k:Int):=oM;obtain⟨x,P,hE⟩:=F.out i R;obtain⟨M,G,rfl,r,-⟩:=hE;have n:=atB g 0 k c i R;rw[show 0+1*i=i by omega]at n;have d:(iK L (i+1)).length=(iK L i).length+(L i).size:=by rw[oK,UB];rfl
   have l:=t.out i oM;have o:=t.out (i+1) oM;obtain⟨a,f⟩:∃a,Hid ((iK L i).length=a):=⟨_,rfl⟩
   obtain⟨b,q⟩:∃b,Hid ((L i).size=b):=⟨_,rfl⟩
   rw[f.out]at d l;rw[q.out]at d r;rw[f.out];have u:VY.wrap ((a:Int)+(b:Int))=((a+b:Nat):Int):=by rw[Yp];omega
   have s:¬(((a+b:Nat):Int)<0):=oM;rw[q.out]at P;go_wp2;go_roundg (gk-1)
   case measure=>omega
   case rel=>exact⟨i+1,oM,rfl,by rw[d,Z4],rfl⟩
  ·have z:¬(i:Int)<(k:Int):=oM;obtain rfl:i=k:=oM;go_wp2_with fail
   refine(PL (iK L i).length (by have:=t.out i (Uy _);omega) w).mono ?_;rintro e O ⟨v,rfl,l,r⟩;have J:Hid (kZ w O/\O.ownsRow w.heap.size 5 1 v (iK L 0).length ((iK L 0).map encB)):=⟨l,r⟩
   clear l r;go_wp2_with fail
   go_loopg [6,27] i (λm s6 s27 W=>∃j:Nat,j+m=i/\s27=iZ j/\Hid (kZ w W/\W.ownsRow w.heap.size 5 1 s6 (iK L j).length ((iK L j).map encB)))
   case atStart=>exact⟨0,oM,rfl,J⟩
   case round =>
    clear J;obtain⟨j,U,rfl,f⟩:=hrel;by_cases K:j<i
    ·have B:(j:Int)<(i:Int):=oM;obtain⟨x,s,q⟩:=F.out j K;have P:wr.cell? ⟨g,j,none⟩=some x:=by rw[f.1.cell (p:=⟨g,j,none⟩) T.out];exact s
     have hE:=q.below f.1 (Uy _);have o:=t.out (j+1) oM;have d:(iK L (j+1)).length=(iK L j).length+(L j).size:=by rw[oK,UB];rfl
     obtain⟨E,W',Q,u,I⟩:=Mq f.2 hE oM f.1.size;rw[<-d,<-P7]at u;have V:Hid (kZ w W'/\W'.ownsRow w.heap.size 5 1 E (iK L (j+1)).length ((iK L (j+1)).map encB)):=⟨f.1.grown I f.1.size (λk H=>(f.2.lt k H).1),u⟩
     have A:=Hid.mk' Q;obtain⟨M,G,rfl,-⟩:=hE;have n:=atB g 0 i c j K;rw[show 0+1*j=j by omega]at n;clear Q u I d o f q s;go_wp2_with (first|(refine lM (x:=u6) (y:=sZ M (L j).size G) (v:=E) (w':=W') rfl _ _ 23 rfl ?_ ?_ ?_ ?_;rfl;rfl;exact A.out)|fail)
     go_roundg (gk-1)
     case measure=>omega
     case rel=>exact⟨j+1,oM,rfl,V⟩
    ·have B:¬(j:Int)<(i:Int):=oM;obtain rfl:j=i:=oM;go_wp2;go_ret;exact⟨_,rfl,f.1,f.2⟩
end
section
open Go.RowKit Go.Sort Go.Deep Go.Shelf
attribute [local go_sem] yAc
variable {P:Nat}[NeZero P]
theorem A5{w w':Ut}(h:kZ w w')(row:Option Nat):w.grownBy w' row:=⟨h.os,h.tape,h.output,h.size,λk b _=>h.block k b⟩
theorem Jk{w:Ut}{g o:Nat}{k:Bs}(h:Holds encB w g o k)(b:0<k.size):g<w.heap.size:=by
 obtain⟨c,ho,-⟩:=cells_of_cell (h 0 b).1;exact(UY.1 ho).1
noncomputable def cand (P:Nat) [NeZero P] (k:ByteArray) (b:List UInt8) (i:Nat):Option (Fin P × Fin P):=
 if beV (oR ((⟨#[112,111,105,110,116,32]⟩:ByteArray)++k).data.toList [b,[UQ i]]).toList<P then
  (rt (Xr P (beV (oR ((⟨#[112,111,105,110,116,32]⟩:ByteArray)++k).data.toList [b,[UQ i]]).toList)*Xr P (beV (oR ((⟨#[112,111,105,110,116,32]⟩:ByteArray)++k).data.toList [b,[UQ i]]).toList)*Xr P (beV (oR ((⟨#[112,111,105,110,116,32]⟩:ByteArray)++k).data.toList [b,[UQ i]]).toList)+7)).map λy=>(Xr P (beV (oR ((⟨#[112,111,105,110,116,32]⟩:ByteArray)++k).data.toList [b,[UQ i]]).toList),y)
 else none
noncomputable def cands (P:Nat) [NeZero P] (k:ByteArray) (b:List UInt8) (i:Nat):List (Fin P × Fin P):=(VB i).filterMap (cand P k b)
theorem jQ(k:ByteArray)(b:List UInt8)(i:Nat):cands P k b (i+1)=cands P k b i++(cand P k b i).toList:=by
 unfold cands;rw[YJ,List.filterMap_append];cases h:cand P k b i<;>simp[h]
theorem G5(k:ByteArray)(b:List UInt8){i j:Nat}(h:i<=j):cands P k b i <+: cands P k b j:=by
 induction j with
 | zero=>rw[Nat.le_zero.1 h];exact yBi
 | succ j ih =>
  rcases VV i (j+1)with c|c
  ·rw[jQ];exact(ih oM).trans (List.prefix_append _ _)
  ·rw[show i=j+1 by omega];exact yBi
theorem G6(k:ByteArray)(b:List UInt8)(i:Nat):(cands P k b i).length<=i:=by
 unfold cands;exact UE (List.length_filterMap_le _ _) (by rw[X5];exact Uy _)
end
section
open Go.RowKit Go.Sort Go.Deep Go.Shelf
attribute [local go_sem] yAc
section
variable {F:Fence}{n:Nat}{P:VD}{ops:Array Vk}{rest:List Vk}{op:Vk}{a:Act}{w:Ut}{Q:X9->Act->Ut->Prop}
theorem oP(g:V5 op (yielded ops a.tmps)=true)(k:Vb)(x:XM)(ho:op.op=.load k x)(b o:Nat)(hx:a.eval x=oZ b o)(cs:List Uv)(d:TypeDesc)(j:w.rangeAt b o cs)
 (m:P.underlying k=some d) (hd:d.isRow=true) (l:(P.info? k).map (·.size)=some cs.length) (h:wpListIn F n P ops Q rest (a.put op.dst (.agg cs.toArray)) w):wpListIn F n P ops Q (op :: rest) a w:=
 wpListIn_step λK i=>by
  rw[g,yCk rfl];refine⟨λf hf=>(by unfold Oper.about at hf;rw[ho]at hf;cases hf),?_⟩;rw[Oper.semAt_eq _ _ _ (λc=>by rw[ho];intro e;cases e)];unfold U9;simp only[ho,hx,Instr.loadAt,Yy,UW,WA,Vr,Y2 w b o k cs d j m hd l];exact i _ _ h
end
variable {P:Nat}[NeZero P]
theorem Hid.mk{p:Prop}(h:p):Hid p:=h
theorem Pu(C:Fld P)(c:ByteArray)(vb:Uv)(b:List UInt8)(k1 k2:Nat)(w:Ut)(kg:c.size<=1000000)(h1:w.cell? ⟨k1,0,none⟩=some (.string c))(h2:w.cell? ⟨k2,0,none⟩=some vb)(l1:k1<w.heap.size)(l2:k2<w.heap.size)(hb:PartOk w vb b)(n:Nat):
 SeqStopsK Fence.wide n prog 112 #[jZ k1,jZ k2] (λx:Fin P × Fin P=>#[pv x.1 x.2]) (Below w.heap.size) (λxs=>xs=cands P c b 256) (λk=>k <+: cands P c b 256) 256 w:=by
 have HP:=hb;obtain⟨a0,sb,so,cap,bs,rfl,-,-,-,-⟩:=hb;intro l J Jx W hW hJ kh hY h0;refine callsIn_of_wp func112 rfl trivial ?_ rfl;simp only[ntmps112,VE,Vg,List.length_nil,VO,Nat.reduceSub,Array.replicate_succ,Array.replicate_zero,List.push_toArray,List.append_toArray,List.nil_append,Xv]
 gi_wp2
 gi_loopw [10] (λp wr=>∃i:Nat,i<=256/\p=iZ i/\J (cands P c b i) wr/\kZ w wr/\W.heap.size<=wr.heap.size) (λp wr=>256-(intOf p).toNat)
 case atStart =>
  exact⟨0,dC,rfl,h0,hW,Uy _⟩
 case round =>
  obtain⟨i,hi,rfl,X,V,hg⟩:=hrel;have ka:=V;by_cases he:i=256
  ·subst he
   gi_wp2
   go_end0
   exact⟨⟨_,rfl⟩,.inl ⟨_,rfl,X⟩⟩
  ·have kb:(i:Int)<256:=oM;have c1:wr.cell? ⟨k1,0,none⟩=some (.string c):=(U0 (V.block k1 l1)).trans h1;have c2:wr.cell? ⟨k2,0,none⟩=some (.slice a0 bs.size cap):=(U0 (V.block k2 l2)).trans h2;have hl:=Made.alloc wr [.int .u8 i] 5;have hk:=Made.alloc (wr.alloc (.cells #[.int .u8 i] 5)) [.slice a0 bs.size cap,sZ wr.heap.size 1 1] 23;rw[UD]at hk;have kc:ub (UQ i)=(i:Int):=by
    show(((UQ i).toNat:Nat):Int)=_;rw[UInt8.toNat_ofNat',UU oM]
   obtain⟨W1,Q⟩:∃W1,W1=(wr.alloc (.cells #[.int .u8 i] 5)).alloc (.cells #[.slice a0 bs.size cap,sZ wr.heap.size 1 1] 23):=⟨_,rfl⟩
   have N:kZ wr W1:=by rw[Q];exact((UT _ wr).alloc (Uy _) _).alloc (by rw[UD];omega) _
   have hP:PartsOk W1 (some ⟨wr.heap.size+1,0,none⟩) [b,[UQ i]]:=by
    have k:W1.rangeAt (wr.heap.size+1) 0 [.slice a0 bs.size cap,sZ wr.heap.size 1 1]:=by rw[Q];exact hk.range
    refine U2 ⟨_,_,rfl,λj g=>?_⟩;have m:j=0\/j=1:=by simp at g;omega
    rcases m with rfl|rfl
    ·exact⟨_,k 0 _ rfl,(HP.below ka).below N⟩
    ·refine⟨_,k 1 _ rfl,some (aZ wr.heap.size),wr.heap.size,0,1,#[UQ i],rfl,rfl,Uy _,VX rfl,U2 ⟨rfl,?_⟩⟩;have f:=hl.range;have s:wr.heap.size<(wr.alloc (.cells #[.int .u8 i] 5)).heap.size:=by rw[UD];omega
     intro j g;have o:j=0:=by simp at g;omega
     subst o;have q:W1.heap[wr.heap.size]? = (wr.alloc (.cells #[.int .u8 i] 5)).heap[wr.heap.size]?:=by rw[Q];exact yA2 _ _ _ s
     refine⟨?_,?_⟩
     ·rw[U0 (a:=⟨wr.heap.size,0+0,none⟩) q];show _=some (Value.int .u8 (ub (UQ i)));rw[kc];exact f 0 _ rfl
     ·rw[VR (a:=⟨wr.heap.size,0+0,none⟩) q];exact(hl.there 0 (Uy _)).2
   have h5:=vN ((⟨#[112,111,105,110,116,32]⟩:ByteArray)++c) (some ⟨wr.heap.size+1,0,none⟩) 2 [b,[UQ i]] W1 (by rw[ByteArray.size_append];show 6+c.size<=_;omega) (VX rfl) hP
   gi_wp2_with fail
   rw[<-Q];refine⟨trivial,λh=>(by cases h),(callsIn_wide.2 h5).mono ?_⟩;rintro e w2 ⟨r,rfl,k9,hs,S⟩;clear h5 hP c1 c2 hl hk kb;obtain⟨T,U⟩:∃T,Hid (oR ((⟨#[112,111,105,110,116,32]⟩:ByteArray)++c).data.toList [b,[UQ i]]=T):=⟨_,rfl⟩
   rw[U.out]at S
   gi_wp2_with fail
   refine⟨trivial,λh=>(by cases h),(callsIn_wide.2 (bO _)).mono ?_⟩;rintro e w3 ⟨v,rfl,O,rfl⟩;have hm:r<w2.heap.size:=Jk S (by rw[<-U.out,fD];decide);have h9:T.size=32:=by rw[<-U.out];exact fD _ _
   have hr:Holds encB w3 r 0 T:=Holds.below S O hm;have K:r<w3.heap.size:=Uz hm O.size;have B:kZ wr w3:=(N.trans (hs.mono N.size)).trans (O.mono (UE N.size hs.size));by_cases hx:beV T.toList<P
   ·obtain⟨x,R⟩:∃x:Fin P,Hid (beV T.toList=x.val):=⟨Xr P (beV T.toList),(UU hx).symm⟩
    have Y:Hid (Xr P (beV T.toList)=x):=Yi (by show beV T.toList%P=_;rw[UU hx];exact R.out);have hx:Hid (beV T.toList<P):=hx
    gi_wp2_with fail
    refine⟨trivial,λh=>(by cases h),(callsIn_wide.2 (Ks C h9 (Uy _) R.out K hr)).mono ?_⟩;rintro e A ⟨v,rfl,I,rfl⟩;have t:=(Made.alloc A [uZ 0,uZ 0,uZ 0,uZ 0] 47).there;have g:=B.trans (I.mono B.size);have ht:=VZ _ _ 0 (ws x) t;obtain⟨d,k5,hu⟩:=UA.1 u85;clear t ht h9 hr hm K O I S k9 hs N;obtain⟨w5,ha⟩:∃w5,Hid ((A.alloc (.cells #[uZ 0,uZ 0,uZ 0,uZ 0] 47)).setCells A.heap.size 0 (ws x)=w5):=⟨_,rfl⟩
    have o:Hid (kZ wr w5):=by rw[<-ha.out];exact RG.below_setCells g.size _ _ _ (g.alloc g.size _)
    have h4:w5.rangeAt A.heap.size 0 (ws x):=by rw[<-ha.out];exact VZ _ _ 0 (ws x) (Made.alloc A [uZ 0,uZ 0,uZ 0,uZ 0] 47).there
    gi_wp2_with (first|(refine bL rfl 47 _ _ rfl A.heap.size 0 (ws x).toArray rfl rfl (Made.alloc A [uZ 0,uZ 0,uZ 0,uZ 0] 47).there i85 kR ?_;rw[show(ws x).toArray.toList=ws x from rfl,ha.out])|refine jU rfl 47 _ rfl A.heap.size 0 rfl (ws x) d h4 k5 hu i85 ?_)
    refine⟨trivial,λh=>(by cases h),?_⟩;clear h4 k5 hu;have ke:True:=trivial;obtain⟨d8,h7,h3⟩:=UA.1 gV;cases F:rt (x*x*x+7) with
    | none =>
     obtain⟨z,M⟩:∃z:Fin P,Hid (z=0):=⟨_,rfl⟩
     have k:=Aq C x F w5;rw[<-M.out]at k;obtain⟨vz,E⟩:∃vz,Hid (pv z z=vz):=⟨_,rfl⟩
     rw[E.out]at k;refine(callsIn_wide.2 k).mono ?_;clear k;rintro e s ⟨v,rfl,L,rfl⟩;have f:Hid (cand P c b i=none):=by
      show cand P c b i=none;unfold cand;rw[U.out,yCk hx.out,Y.out,F];rfl
     clear F;have q:Hid (kZ wr ((s.alloc (.cells #[uZ 0,uZ 0,uZ 0,uZ 0,uZ 0,uZ 0,uZ 0,uZ 0] 93)).setCells s.heap.size 0 (ws z++ws z))):=
      have Z:=o.trans (L.mono o.size)
      RG.below_setCells Z.size _ _ _ (Z.alloc Z.size _)
     clear L;have D:(ws z++ws z).toArray.size=8:=kR;have u:Hid <| (s.alloc (.cells #[uZ 0,uZ 0,uZ 0,uZ 0,uZ 0,uZ 0,uZ 0,uZ 0] 93)).there s.heap.size 0 (ws z++ws z).toArray.size:=by show yBL _ _ _ _;rw[D];exact(Made.alloc s [uZ 0,uZ 0,uZ 0,uZ 0,uZ 0,uZ 0,uZ 0,uZ 0] 93).there
     have H:Hid ((prog.info? 93).map (·.size)=some (ws z++ws z).toArray.size):=by show _=_;rw[D];exact i109
     clear D;obtain⟨G,m⟩:∃G,Hid ((s.alloc (.cells #[uZ 0,uZ 0,uZ 0,uZ 0,uZ 0,uZ 0,uZ 0,uZ 0] 93)).setCells s.heap.size 0 (ws z++ws z)=G):=⟨_,rfl⟩
     rw[m.out]at q
     gi_wp2_with (refine bL rfl 93 _ _ rfl s.heap.size 0 (ws z++ws z).toArray ?_ ?_ ?_ ?_ ?_ ?_;rfl;exact E.symm;exact u.out;exact H.out;kernel_rfl;rw[show(ws z++ws z).toArray.toList=ws z++ws z from rfl,m.out];refine Zq ?_)
     clear u H E M m o Y R hx U;show wpListIn _ _ _ _ _ _ _ _
     gi_wp2_with fail
     refine⟨λ_ h=>(by cases h),?_⟩
     gi_wp2_with fail
     refine⟨⟨i+1,oM,rfl,?_,V.trans (q.mono V.size),UE hg q.size⟩,?_⟩
     ·rw[jQ,f.out];exact hJ _ wr _ none (by simpa using X) (A5 q.out none) (λ_ e=>by cases e)
     ·simp[intOf];omega
    | some y =>
     have k:=Ap C x y F w5;obtain⟨vz,E⟩:∃vz,Hid (pv x y=vz):=⟨_,rfl⟩
     rw[E.out]at k;refine(callsIn_wide.2 k).mono ?_;clear k;rintro e s ⟨v,rfl,L,rfl⟩;have f:Hid (cand P c b i=some (x,y)):=by
      show cand P c b i=some (x,y);unfold cand;rw[U.out,yCk hx.out,Y.out,F];rfl
     clear F;obtain⟨G,m⟩:∃G,Hid ((s.alloc (.cells #[uZ 0,uZ 0,uZ 0,uZ 0,uZ 0,uZ 0,uZ 0,uZ 0] 93)).setCells s.heap.size 0 (ws x++ws y)=G):=⟨_,rfl⟩
     have M:Hid (kZ wr G):=by
      rw[<-m.out];have Z:=o.trans (L.mono o.size);exact RG.below_setCells Z.size _ _ _ (Z.alloc Z.size _)
     clear L;have h8:G.rangeAt s.heap.size 0 (ws x++ws y):=by rw[<-m.out];exact VZ _ _ 0 (ws x++ws y) (Made.alloc s [uZ 0,uZ 0,uZ 0,uZ 0,uZ 0,uZ 0,uZ 0,uZ 0] 93).there
     have kd:Hid (J (cands P c b i) G):=hJ _ wr _ none (by simpa using X) (A5 M.out none) (λ_ e=>by cases e);have D:(ws x++ws y).toArray.size=8:=kR;have u:Hid <| (s.alloc (.cells #[uZ 0,uZ 0,uZ 0,uZ 0,uZ 0,uZ 0,uZ 0,uZ 0] 93)).there s.heap.size 0 (ws x++ws y).toArray.size:=by show yBL _ _ _ _;rw[D];exact(Made.alloc s [uZ 0,uZ 0,uZ 0,uZ 0,uZ 0,uZ 0,uZ 0,uZ 0] 93).there
     have H:Hid ((prog.info? 93).map (·.size)=some (ws x++ws y).toArray.size):=by show _=_;rw[D];exact i109
     clear D;obtain⟨fn,tmps,k7,kf,hy,hR⟩:=hY (cands P c b i) (x,y) G kd.out (Nat.lt_of_le_of_lt (G6 c b i) oM);dsimp only at hy;obtain⟨va,hn⟩:∃va,Hid (U5 (ws x++ws y).toArray=va):=⟨_,rfl⟩
     rw[show pv x y=va from hn.out]at hy
     gi_wp2_with (refine bL rfl 93 _ _ rfl s.heap.size 0 (ws x++ws y).toArray ?_ ?_ ?_ ?_ ?_ ?_;rfl;exact E.symm;exact u.out;exact H.out;kernel_rfl;rw[show(ws x++ws y).toArray.toList=ws x++ws y from rfl,m.out];refine Zq ?_)
     clear u H m o Y R hx U;have k6:=Hid.mk hR;have Z:=Hid.mk h8;have k0:=Hid.mk h7;have hw:=Hid.mk h3;clear hR h8 h7 h3;show wpListIn _ _ _ _ _ _ _ _
     gi_wp2_with (refine oP rfl 93 _ rfl s.heap.size 0 ?_ (ws x++ws y) d8 ?_ ?_ ?_ ?_ ?_;rfl;exact Z.out;exact k0.out;exact hw.out;exact i109;rw[hn.out];refine Zq ?_)
     clear Z k0 hw hn E;show wpListIn _ _ _ _ _ _ _ _
     gi_wp2_with fail
     refine⟨λh=>(by cases h),k6.mono ?_⟩;clear k6 hy;rintro e W8 (⟨rfl,k8,k4⟩|⟨rfl,k3⟩)
     ·gi_wp2_with fail
      refine⟨⟨i+1,oM,rfl,?_,(V.trans (M.mono V.size)).trans k4,UE hg (UE M.size k4.size)⟩,?_⟩
      ·rw[jQ,f.out];exact k8
      ·simp[intOf];omega
     ·gi_wp2_with fail
      refine UH (results_none rfl _ _ _) rfl ?_;refine⟨⟨_,rfl⟩,.inr ⟨_,?_,k3⟩⟩;have hp:=G5 (P:=P) c b (i:=i+1) (j:=256) oM;rw[jQ,f.out]at hp;exact hp
   ·have f:cand P c b i=none:=by
     unfold cand;rw[U.out,yCl hx]
    gi_wp2_with fail
    refine⟨trivial,λh=>(by cases h),(callsIn_wide.2 (Kt C h9 (Uy _) hx K hr)).mono ?_⟩;rintro e A ⟨v,rfl,I,rfl⟩;have t:Hid ((A.alloc (.cells #[uZ 0,uZ 0,uZ 0,uZ 0] 47)).there A.heap.size 0 4):=(Made.alloc A [uZ 0,uZ 0,uZ 0,uZ 0] 47).there;have g:=B.trans (I.mono B.size);have q:Hid (kZ wr ((A.alloc (.cells #[uZ 0,uZ 0,uZ 0,uZ 0] 47)).setCells A.heap.size 0 (ws (0:Fin P)))):=RG.below_setCells g.size _ _ _ (g.alloc g.size _);have f:Hid (cand P c b i=none):=f;obtain⟨G,m⟩:∃G,Hid ((A.alloc (.cells #[uZ 0,uZ 0,uZ 0,uZ 0] 47)).setCells A.heap.size 0 (ws (0:Fin P))=G):=⟨_,rfl⟩
    rw[m.out]at q
    gi_wp2_with (refine bL rfl 47 _ _ rfl A.heap.size 0 (ws (0:Fin P)).toArray ?_ ?_ ?_ ?_ ?_ ?_;rfl;rfl;exact t.out;exact i85;kernel_rfl;rw[show(ws (0:Fin P)).toArray.toList=ws (0:Fin P) from rfl,m.out];refine Zq ?_)
    clear t g B I U m;show wpListIn _ _ _ _ _ _ _ _
    gi_wp2_with fail
    refine⟨⟨i+1,oM,rfl,?_,V.trans (q.mono V.size),UE hg q.size⟩,?_⟩
    ·rw[jQ,f.out];exact hJ _ wr _ none (by simpa using X) (A5 q.out none) (λ_ e=>by cases e)
    ·simp[intOf];omega
end
section
open Go.RowKit Go.Sort Go.Deep Go.Shelf
variable {P:Nat}[NeZero P]{N:Nat}
theorem wU(k:ByteArray)(a:Option Wv)(m c:Nat)(w:Ut):
 UK prog 50 #[.string k,.slice a m c] w (Ret λe w'=>e=.func (.func 112) #[] #[jZ w.heap.size,.pointer (some ⟨w.heap.size+1,0,none⟩)]/\w'=(w.alloc (.cells #[.string k] 9)).alloc (.cells #[.slice a m c] 23)):=by
 go_enter func50,ntmps50;go_wp2;go_ret;exact⟨_,rfl,rfl,rfl⟩
noncomputable def hpt (P:Nat) [NeZero P] (k:ByteArray) (b:List UInt8):Fin P × Fin P:=(cands P k b 256).headD (gX P,gY P)
theorem Nb{k:ByteArray}{b:List UInt8}{i:Nat}{x:Fin P × Fin P}(h:cand P k b i=some x):x.2*x.2=x.1*x.1*x.1+7:=by
 unfold cand at h;split at h
 ·obtain⟨y,c,rfl⟩:=UA.1 h;exact Nz c
 ·cases h
theorem J1{k:ByteArray}{b:List UInt8}{n:Nat}{x:Fin P × Fin P}(h:x∈cands P k b n):x.2*x.2=x.1*x.1*x.1+7:=by
 unfold cands at h;obtain⟨i,-,c⟩:=List.mem_filterMap.1 h;exact Nb c
theorem AZ(C:Fld P)(k:ByteArray)(b:List UInt8):On (.some (hpt P k b):EC.Pt P):=by
 unfold hpt;cases h:cands P k b 256 with
 | nil=>exact Cu C
 | cons x r=>exact IY (x:=x.1) (y:=x.2) (J1 (by rw[h];exact Vo))
theorem LA(C:Fld P)(q:Fin P × Fin P)(h:On (.some q:EC.Pt P)):tC q.1 q.2=wr (.some q:EC.Pt P):=vK C ⟨rfl,rfl⟩ h
theorem Px(C:Fld P)(k:ByteArray)(b:List UInt8):tC (hpt P k b).1 (hpt P k b).2=wr (.some (hpt P k b):EC.Pt P):=LA C _ (AZ C k b)
theorem Ae(C:Fld P)(k:ByteArray)(a:Option Wv)(m c:Nat)(b:List UInt8)(w:Ut)(f:k.size<=1000000)(p:PartOk w (.slice a m c) b):
 UK prog 49 #[.func (.func 112) #[] #[jZ w.heap.size,.pointer (some ⟨w.heap.size+1,0,none⟩)]] ((w.alloc (.cells #[.string k] 9)).alloc (.cells #[.slice a m c] 23)) (rZ w λe w'=>e=pv (hpt P k b).1 (hpt P k b).2):=by
 have j:=Made.alloc w [.string k] 9;have i:=Made.alloc (w.alloc (.cells #[.string k] 9)) [.slice a m c] 23;have d:kZ w ((w.alloc (.cells #[.string k] 9)).alloc (.cells #[.slice a m c] 23)):=((UT _ w).alloc (Uy _) _).alloc (by rw[UD];omega) _;have q:((w.alloc (.cells #[.string k] 9)).alloc (.cells #[.slice a m c] 23)).heap.size=w.heap.size+2:=by rw[UD,UD]
 have l:((w.alloc (.cells #[.string k] 9)).alloc (.cells #[.slice a m c] 23)).cell? ⟨w.heap.size,0,none⟩=some (.string k):=by
  rw[U0 (a:=⟨w.heap.size,0,none⟩) (yA2 _ _ _ (by rw[UD];exact XZ _))];exact j.range 0 _ rfl
 have o:((w.alloc (.cells #[.string k] 9)).alloc (.cells #[.slice a m c] 23)).cell? ⟨w.heap.size+1,0,none⟩=some (.slice a m c):=by
  have:=i.range 0 _ rfl;rwa[UD]at this
 refine(MQ C _ (cands P k b 256) 256 _ (λn=>Pu C k (.slice a m c) b w.heap.size (w.heap.size+1) _ f l o oM oM (p.below d) n)).mono ?_;rintro e w' ⟨v,rfl,g,rfl⟩;exact⟨_,rfl,d.trans (g.mono d.size),rfl⟩
theorem KI(C:Fld P)(k:ByteArray)(a:Option Wv)(m c:Nat)(b:List UInt8)(w:Ut)(j:k.size<=1000000)(x:PartOk w (.slice a m c) b):
 UK prog 202 #[.string k,.slice a m c] w (rZ w λe w'=>He w (wr (.some (hpt P k b):EC.Pt P)) e w'):=by
 have y:=Ae C k a m c b w j x;have l:∀w,UK prog 52 #[pv (hpt P k b).1 (hpt P k b).2] w (rZ w λe w'=>mK w (tC (hpt P k b).1 (hpt P k b).2) e w'):=vJ C _ _;rw[Px C]at l;go_enter func202,ntmps202;go_wp2_with fail
 refine(wU k a m c w).mono ?_;rintro e A ⟨v,rfl,rfl,rfl⟩;go_wp2_with fail
 refine y.mono ?_;rintro e z ⟨v,rfl,n,rfl⟩;have f:=mk1 (n);go_wp2_with fail
 refine(l _).mono ?_;rintro e u ⟨v,rfl,o,g,d,rfl,q,r,i,s⟩;have p:=mk1 (f.trans (o.mono f.size));have t:Hid (He w (wr (.some (hpt P k b):EC.Pt P)) (.tuple #[sZ g 33 d,iZ 0]) u):=⟨g,d,rfl,q,UE f.size r,i,s⟩
 go_wp2
 go_ret2
 exact⟨_,rfl,p.out,t.out⟩
end
section
open Go.RowKit Go.Sort Go.Deep
variable {P:Nat}[NeZero P]{N:Nat}
theorem FM(C:Fld P)(lb:ByteArray)(o:lb.size<=1000000)(p:Option Wv)(t x:Nat)(tx:List UInt8)(w:Ut)(E:PartOk w (.slice p t x) tx):
 UK prog 136 #[.string lb,.slice p t x] w (rZ w λe w'=>e=pvl (wr (.some (hpt P lb tx):EC.Pt P))):=by
 obtain⟨T,q⟩:=hE (wr (.some (hpt P lb tx):EC.Pt P));have s:T.size=33:=by rw[<-q.out];exact aT _
 rw[q.out];have J:=mk1 (C);have H:=Hid.mk' E;have F:=Hid.mk' o;obtain⟨m,i⟩:=hE (w.alloc (.cells z33.toArray 103));have j:Hid (Row m w.heap.size z33/\kZ w m):=by rw[<-i.out];exact⟨aE w _ _,aC w _⟩
 obtain⟨d,r,u⟩:=UA.1 uCP;have D:=mk2 r u;go_enter func136,ntmps136;go_wp2_with (refine bG (v:=jZ w.heap.size) (w':=m) rfl (.alloc 103) rfl ?_ ?_;(rw[<-i.out];kernel_rfl))
 refine(KI J.out lb p t x tx m F.out (H.below j.2)).mono ?_;rintro e a ⟨K,rfl,b,g,I,rfl,-,-,G,B⟩;rw[q.out]at B;have n:=mk3 (j.1.below b) (j.2.trans (b.mono j.2.size)) (pW B G);have y:=FV g I;obtain⟨A,c⟩:=hE (a.setCells w.heap.size 0 (aA T));have k:=aB s;have z:Hid (Row A w.heap.size (aA T)/\kZ w A):=by rw[<-c.out];exact⟨n.1.put (by rw[k];rfl),RG.below_setCells (Uy _) _ _ _ n.2.1⟩
 obtain⟨L,f⟩:=hE (U5 (aA T).toArray);have l:Hid ((prog.info? 103).map (·.size)=some (aA T).length/\a.there w.heap.size 0 (aA T).toArray.size/\(prog.info? 103).map (·.size)=some (aA T).toArray.size):=by
  have e:(aA T).toArray.size=33:=by rw[VE];exact k
  refine⟨by rw[k];exact cV,by rw[e];exact n.1.2.2,by rw[e];exact cV⟩
 go_wp2_with (first|(refine U8 rfl 103 _ rfl g 0 ?_ (aA T) d ?_ ?_ ?_ ?_ ?_;rfl;exact n.2.2.2.1;exact D.1;exact D.2;exact l.1;rw[f.out])|(refine U3 rfl 103 _ _ rfl w.heap.size 0 (aA T).toArray ?_ ?_ ?_ ?_ ?_ ?_;rfl;exact f.symm;exact l.2.1;exact l.2.2;exact bW T;rw[show(aA T).toArray.toList=aA T from rfl,c.out]))
 refine UH (aG 4 103 rfl z.1 rfl uCP l.1) rfl ?_;exact⟨_,rfl,z.2,rfl⟩
theorem I1:Gives 70 #[uZ 1] (nv 1):=by
 intro w;go_enter func70,ntmps70;refine RG.M.enter [(0,.v (uZ 1))] 6 kR ?_;intro a0 d;repeat refine UC ?_
 refine d.T [.m 0] [(0,RG.z 4)] [] [RG.z 4] [0,2] ⟨mk 0 49,yCm⟩ ?_;intro k g e c;repeat refine UC ?_
 refine c.T [.x (uZ 1),.x (nv 1),.x (nv 1),.u 0] [] [(0,3,wn 1)] [wn 1] [2] ⟨st,st,st,RG.pt i40,yCm⟩ ?_;intro a2 f b;refine Wy ?_;refine UH (v:=nv 1) (aI b.st 2 49 rfl 0 _ rfl (b.at (s:=(.p 0 0))) u40 i40) b.sl.defers ?_;exact⟨_,rfl,b.st.bel.below,rfl⟩
def Sm(B:Nat)(W:Ut)(v:Uv)(l:List (Nat × Bs)):Prop:=∃g c,v=sZ g l.length c/\l.length<=c/\B<=g/\g<W.heap.size/\W.rangeAt g 0 (aU l)
theorem Sm.grow{W W':Ut}{v:Uv}{l:List (Nat × Bs)}(h:Sm B W v l)(b:kZ W W'):Sm B W' v l:=by
 obtain⟨g,c,f,i,e,k,d⟩:=h;exact⟨g,c,f,i,e,Uz k b.size,RG.range_below d b k⟩
theorem cellsT_one'(n:Nat)(a:Bs):aU [(n,a)]=wn n++aA a:=by rw[fH];exact XC _
theorem Sm.one{B W k n}{w:Ut}{a:Bs}(h:Row w k (wn n++aA a))(b:B<=k)(c:w=W):Sm B W (sZ k 1 1) [(n,a)]:=by
 subst c;exact⟨k,1,rfl,Uy _,b,h.1,by rw[cellsT_one'];exact h.2.1⟩
theorem infoT':(prog.info? 226).map (λi=>(i.size,i.bytes,i.zero.map λz=>z.cells.size))=some (37,72,some 37):=kR
theorem Fh(n:Nat)(v:n<=10000000)(w:Ut):UK prog 203 #[.slice none 0 0,iZ n] w (rZ w λe w'=>w'.ownsRow w.heap.size 226 37 e 0 []):=by
 by_cases q:n=0
 ·subst q;go_enter func203,ntmps203;go_wp2;go_ret;exact⟨_,rfl,UT _ _,ZD _ _ _ _⟩
 ·obtain⟨i,t,m⟩:=UA.1 infoT';simp only[We.injEq]at m;obtain⟨u,s,p⟩:=m;obtain⟨z,o,j⟩:=UA.1 p;have f:=yAt (P:=prog) w 131 3 131 226 i z .i64 .i64 C6 QB t o n oM oM oM (by rw[s];omega);have c:=grownCap_ge w n 0 226;have k:=grownCap_le_maxLen w n 0 226 (by unfold maxLen;omega);have b:(WC z.cells n++WC z.cells (grownCap w n 0 226-n)).size=grownCap w n 0 226*37:=by rw[VP,size_zeroCells,size_zeroCells,j];omega
  generalize grownCap w n 0 226=l at f c k b;generalize WC z.cells n++WC z.cells (l-n)=cur at f b;obtain⟨g,d⟩:∃g,Hid (w.drew.alloc (.cells cur 226)=g):=⟨_,rfl⟩
  rw[d.out]at f;have r:=Hid.mk' f;have K:Hid (kZ w g/\g.ownsRow w.heap.size 226 37 (sZ w.heap.size 0 l) 0 []):=by
   rw[<-d.out];exact⟨(UT _ _).drew.alloc (Uy _) _,yAM w.drew cur l (Uy _) k b⟩
  go_enter func203,ntmps203;go_wp2_with (at_builtin;refine WG _ rfl _ _ _ _ rfl _ _ rfl rfl _ _ r.out ?_)
  go_ret;exact⟨_,rfl,K.1,K.2⟩
theorem D9(l m:List (Nat × Bs)):aU (l++m)=aU l++aU m:=by unfold aU;rw[YM]
theorem GZ(l:List (Nat × Bs)):∀u∈aU l,u.oneCell'=true:=λu k=>by
 unfold aU at k;obtain⟨x,-,hx⟩:=ZP.1 k;exact cells_one x.1 x.2 u hx
theorem qH:∀ {l:List (Nat × Bs)},(∀x∈l,x.2.size=33)->(aU l).length=l.length*37
 | [],_=>rfl
 | x :: r,h=>by
  rw[fH,UB,gJ (h x Vo),qH λy k=>h y (Vd _ k),Vg];omega
theorem Cd{b:Nat}{W:Ut}{v x:Uv}{l m:List (Nat × Bs)}(d:W.ownsRow b 226 37 v l.length (aU l))(A:∀y∈m,y.2.size=33)(hx:Sm B W x m)(G:l.length+m.length<=1000000)(a:b<=W.heap.size):
 ∃e W',(Vx #[131,131] 131 #[v,x]).run prog W=.ok e W'/\W'.ownsRow b 226 37 e (l++m).length (aU (l++m))/\W.grownBy W' v.ownBlock:=by
 obtain⟨i,D,g⟩:=UA.1 infoT';simp only[We.injEq]at g;obtain⟨q,t,p⟩:=g;obtain⟨z,o,f⟩:=UA.1 p;obtain⟨k,c,rfl,F,E,e3,C⟩:=hx;obtain⟨e,W',w,n,r,-⟩:=Yv (P:=prog) W b 131 131 226 i z 37 72 C6 D o q t f dC v l.length (aU l) d (aZ k) m.length c (aU m) (qH A)
  (λj u s=>by
   have:=C j u s;rw[UF]at this;rw[add0];exact this) (GZ m) (by unfold maxLen;omega) oM a
 exact⟨e,W',w,by rw[UB,D9];exact n,r⟩
theorem atS(k o n c i:Nat)(b:i<n)(w:Ut):(Vj 129 (.slice (some ⟨k,o,none⟩) n c) (iZ i)).run prog w=.ok (.pointer (some ⟨k,o+1*i,none⟩)) w:=by
 go_simp
def eR(L:Nat->List (Nat × Bs))(k:Nat):List (Nat × Bs):=(VB k).flatMap L
theorem dF(L:Nat->List (Nat × Bs))(i:Nat):eR L (i+1)=eR L i++L i:=by
 unfold eR;rw[YJ,YM];simp
theorem Bj(L:Nat->List (Nat × Bs)){k m:Nat}(b:∀j,j<k->(L j).length<=m):∀i,i<=k->(eR L i).length<=m*i
 | 0,_=>Uy _
 | i+1,hi=>by
  have c:=Bj L b i oM;have d:=b i oM;rw[dF,UB,Yk];omega
theorem GT(g k c:Nat)(L:Nat->List (Nat × Bs))(H:k<=1000)(O:∀j,j<k->(L j).length<=600)(A:∀j,j<k->∀x∈L j,x.2.size=33)(w:Ut)(P:g<w.heap.size)(S:∀j,j<k->∃x,w.cell? ⟨g,j,none⟩=some x/\Sm 0 w x (L j)):
 UK prog 138 #[sZ g k c] w (rZ w λe w'=>w'.ownsRow w.heap.size 226 37 e (eR L k).length (aU (eR L k))):=by
 have F:=Hid.mk' S;have s:=mk1 (Bj L O);have U:=Hid.mk' P;have Q:=Hid.mk' A;go_enter func138,ntmps138;go_wp2_with fail
 go_loopg [3,11] k (λm s3 s11 W=>∃i:Nat,i+m=k/\s11=iZ i/\s3=iZ ((eR L i).length:Int)/\w=W)
 case atStart=>exact⟨0,oM,rfl,rfl,rfl⟩
 case round =>
  obtain⟨i,T,rfl,rfl,rfl⟩:=hrel;by_cases N:i<k
  ·have u:(i:Int)<(k:Int):=oM;obtain⟨x,K,hE⟩:=F.out i N;obtain⟨J,G,rfl,r,-⟩:=hE;have n:=atS g 0 k c i N;rw[show 0+1*i=i by omega]at n;have d:(eR L (i+1)).length=(eR L i).length+(L i).length:=by rw[dF,UB]
   have l:=s.out i oM;have o:=s.out (i+1) oM;obtain⟨a,f⟩:=hE ((eR L i).length);obtain⟨b,q⟩:=hE ((L i).length);rw[f.out]at d l;rw[q.out]at d r;rw[f.out];rw[q.out]at K;go_wp2;go_roundg (gk-1)
   case measure=>omega
   case rel=>exact⟨i+1,oM,rfl,by rw[d,Z4],rfl⟩
  ·have u:¬(i:Int)<(k:Int):=oM;obtain rfl:i=k:=oM;go_wp2_with fail
   refine(Fh (eR L i).length (by have:=s.out i (Uy _);omega) w).mono ?_;rintro e Y ⟨v,rfl,l,B⟩;have R:=mk2 l B;go_wp2_with fail
   go_loopg [6,27] i (λm s6 s27 W=>∃j:Nat,j+m=i/\s27=iZ j/\Hid (kZ w W/\W.ownsRow w.heap.size 226 37 s6 (eR L j).length (aU (eR L j))))
   case atStart=>exact⟨0,oM,rfl,R⟩
   case round =>
    obtain⟨j,V,rfl,f⟩:=hrel;by_cases z:j<i
    ·have D:(j:Int)<(i:Int):=oM;obtain⟨x,r,q⟩:=F.out j z;have K:wr.cell? ⟨g,j,none⟩=some x:=by rw[f.1.cell (p:=⟨g,j,none⟩) U.out];exact r
     have hE:=q.grow f.1;have o:=s.out (j+1) oM;have d:(eR L (j+1)).length=(eR L j).length+(L j).length:=by rw[dF,UB]
     obtain⟨E,W',M,t,I⟩:=Cd f.2 (Q j z) hE (by rw[<-d];omega) f.1.size;rw[<-dF]at t;have X:Hid (kZ w W'/\W'.ownsRow w.heap.size 226 37 E (eR L (j+1)).length (aU (eR L (j+1)))):=⟨f.1.grown I f.1.size (λk H=>(f.2.lt k H).1),t⟩
     have C:=Hid.mk' M;obtain⟨J,G,rfl,-⟩:=hE;have n:=atS g 0 i c j z;rw[show 0+1*j=j by omega]at n;clear M t I d o f q r;go_wp2_with (first|(refine lM (x:=u6) (y:=sZ J (L j).length G) (v:=E) (w':=W') rfl _ _ 131 rfl ?_ ?_ ?_ ?_;rfl;rfl;exact C.out)|fail)
     go_roundg (gk-1)
     case measure=>omega
     case rel=>exact⟨j+1,oM,rfl,X⟩
    ·have D:¬(j:Int)<(i:Int):=oM;obtain rfl:j=i:=oM;go_wp2;go_ret;exact⟨_,rfl,f.1,f.2⟩
theorem EO{W:Ut}{k:Nat}{v:Uv}{l:List (Nat × Bs)}(h:W.ownsRow k 226 37 v l.length (aU l))(i:0<l.length):Sm k W v l:=by
 have c:=λ{g:Nat}=>h.cells (g:=g)
 rcases h.2 with⟨-,m⟩|⟨g,cap,cur,rfl,e,b,f,-⟩
 ·omega
 ·refine⟨g,cap,rfl,f,e,(UY.1 b).1,λj u d=>?_⟩;have:=c (g:=g) rfl j u d;rw[add0]at this;rw[UF];exact this
theorem rS(B:Nat)(s t:Uv)(l m:List (Nat × Bs))(r:0<l.length)(P:l.length<=500)(Q:m.length<=500)(z:∀x∈l,x.2.size=33)(p:∀x∈m,x.2.size=33)(w:Ut)(C:Sm B w s l)(G:Sm B w t m):
 UK prog 65 #[s,t] w (rZ w λe w'=>Sm w.heap.size w' e (l++m)):=by
 have K:=r;obtain⟨q,c1,M,-⟩:=id C;obtain⟨a,c2,J,-⟩:=id G;subst M;subst J;obtain⟨d,k⟩:=hE (w.alloc (.cells #[sZ q l.length c1,sZ a m.length c2] 131));have I:kZ w d:=by rw[<-k.out];exact aC _ _
 have o:w.heap.size<d.heap.size:=by rw[<-k.out,UD];omega
 have F:d.rangeAt w.heap.size 0 [sZ q l.length c1,sZ a m.length c2]:=by rw[<-k.out];exact(Made.alloc w [sZ q l.length c1,sZ a m.length c2] 131).range
 have N:=Hid.mk' (GT w.heap.size 2 2 (λj=>if j=0 then l else m) dC (λj _=>by show(if j=0 then l else m).length<=600;split<;>omega) (λj _=>by
  show ∀x∈(if j=0 then l else m),x.2.size=33;split
  ·exact z
  ·exact p) d o (λj b=>by
  have i:∀ {v:Uv}{l:List (Nat × Bs)},Sm B w v l->Sm 0 d v l:=λh=>by
   obtain⟨g,c,A,u,-,y,f⟩:=h.grow I;exact⟨g,c,A,u,Wz _,y,f⟩
  have b:j=0\/j=1:=oM;rcases b with rfl|rfl
  ·exact⟨_,F 0 _ rfl,i C⟩
  ·exact⟨_,F 1 _ rfl,i G⟩))
 have b:eR (λj=>if j=0 then l else m) 2=l++m:=by rw[dF,dF];rfl
 have n:=Hid.mk' I;have D:Hid (eR (λj=>if j=0 then l else m) 2=l++m/\0<(l++m).length):=⟨b,by rw[UB];omega⟩
 go_enter func65,ntmps65;go_wp2_with fail
 rw[k.out];refine N.mono ?_;rintro e E ⟨L,rfl,i,ho⟩;rw[D.1]at ho;have H:Hid (kZ w E/\Sm w.heap.size E L (l++m)):=by
  obtain⟨g,c,A,u,O,y,f⟩:=EO ho D.2;exact⟨n.trans (i.mono n.size),g,c,A,u,UE n.size O,y,f⟩
 go_wp2;go_ret;exact⟨_,rfl,H.1,H.2⟩
theorem Sm.point(C:Fld P)(O:Ord N)(d:∀r:EC.Pt P,On r->mul N r=none){w:Ut}{v:Uv}{l:List (Nat × Bs)}(h:Sm B w v l)(i:0<l.length)(a:l.length<=512)(E:∀x∈l,x.1<N)(f:PtsL P l):
 UK prog 67 #[v] w (rZ w λe w'=>e=pvl (wr (fK P l))):=by
 obtain⟨g,c,rfl,-,-,p,z⟩:=h;have b:∀x∈l.map (·.2),x.size=33:=λx hx=>by
  obtain⟨y,k,rfl⟩:=Vn.1 hx;obtain⟨X,-,e⟩:=f y k;rw[e];exact aT _
 have m:∀j (k:j<l.length),((l[j]?).getD (0,#[]))=l[j]:=λj k=>by rw[UI k];rfl
 have s:∀j,j<l.length->On (fU P ((l[j]?).getD (0,#[])).2):=λj k=>by rw[m j k];exact f.on C (VI k)
 refine(Dg C O d g l.length c i a (λj=>((l[j]?).getD (0,#[])).1) (λj=>fU P ((l[j]?).getD (0,#[])).2) (λj k=>by rw[m j k];exact E _ (VI k)) s w p (λj k=>?_)).mono ?_
 ·rw[m j k];obtain⟨X,D,o⟩:=f _ (VI k);rw[o,lN C D,<-o];intro t u n;have q:t<37:=by
   have:=(UG.1 n).1;rw[gJ (b _ (Vn.2 ⟨_,VI k,rfl⟩))]at this;exact this
  have:=z (37*j+t) u (by rw[lE l b j k t q];exact n);rw[UF]at this;exact this
 ·rintro e w' ⟨u,rfl,n,rfl⟩;refine⟨_,rfl,n,?_⟩;rw[v9 C l f _ (Uy _),ZO]
theorem xC(C:Fld P){a b:EC.Pt P}(c:On a)(k:On b):∀n,mul n (EC.add a b)=EC.add (mul n a) (mul n b)
 | 0=>rfl
 | n+1=>by
  show EC.add (mul n (EC.add a b)) (EC.add a b)=EC.add (EC.add (mul n a) a) (EC.add (mul n b) b);rw[xC C c k n];exact C.cur.swap (cG C.cur c n) (cG C.cur k n) c k
def SmZ(B:Nat)(W:Ut)(v:Uv)(l:List (Nat × Bs)):Prop:=(v=.slice none 0 0/\l=[])\/Sm B W v l
theorem SmZ.grow{W W':Ut}{v:Uv}{l:List (Nat × Bs)}(h:SmZ B W v l)(k:kZ W W'):SmZ B W' v l:=by
 rcases h with h|h
 ·exact U6 h
 ·exact U2 (h.grow k)
theorem SmZ.form{W:Ut}{v:Uv}{l:List (Nat × Bs)}(h:SmZ B W v l):∃q c,v=.slice q l.length c/\l.length<=c:=by
 rcases h with⟨rfl,rfl⟩|⟨g,c,k,b,-⟩
 ·exact⟨none,0,rfl,Uy _⟩
 ·exact⟨_,_,k,b⟩
theorem Qj:∀W:Ut,(Vx #[131,131] 131 #[.slice none 0 0,.slice none 0 0]).run prog W=.ok (.slice none 0 0) W:=λW=>kR
theorem IV{b:Nat}{W:Ut}{v x:Uv}{l m:List (Nat × Bs)}(k:W.ownsRow b 226 37 v l.length (aU l))(e:∀y∈m,y.2.size=33)(hx:SmZ B W x m)(n:l.length+m.length<=1000000)(d:b<=W.heap.size):
 ∃c W',(Vx #[131,131] 131 #[v,x]).run prog W=.ok c W'/\W'.ownsRow b 226 37 c (l++m).length (aU (l++m))/\W.grownBy W' v.ownBlock:=by
 rcases hx with⟨rfl,rfl⟩|hx
 ·rw[XC];rcases id k.2 with⟨rfl,q⟩|⟨g,cap,cur,rfl,p,s,o,-⟩
  ·exact⟨_,_,Qj W,k,⟨rfl,rfl,rfl,Uy _,λ_ _ _=>rfl⟩⟩
  ·obtain⟨i,f,r⟩:=UA.1 infoT';have:=run_append_room_src (P:=prog) W 131 131 131 226 i C6 f g 0 l.length cap (.slice none 0 0) 0 [] (Src.ofNil (e':=226) _ C6 0) oM (λj c=>by cases c) (λj c=>by cases c);exact⟨_,_,this,k,⟨rfl,rfl,rfl,Uy _,λ_ _ _=>rfl⟩⟩
 ·exact Cd k e hx n d
theorem GR(g k c:Nat)(L:Nat->List (Nat × Bs))(H:k<=1000)(O:∀j,j<k->(L j).length<=600)(A:∀j,j<k->∀x∈L j,x.2.size=33)(w:Ut)(P:g<w.heap.size)(S:∀j,j<k->∃x,w.cell? ⟨g,j,none⟩=some x/\SmZ 0 w x (L j)):
 UK prog 138 #[sZ g k c] w (rZ w λe w'=>w'.ownsRow w.heap.size 226 37 e (eR L k).length (aU (eR L k))):=by
 have F:=Hid.mk' S;have s:=mk1 (Bj L O);have U:=Hid.mk' P;have Q:=Hid.mk' A;go_enter func138,ntmps138;go_wp2_with fail
 go_loopg [3,11] k (λm s3 s11 W=>∃i:Nat,i+m=k/\s11=iZ i/\s3=iZ ((eR L i).length:Int)/\w=W)
 case atStart=>exact⟨0,oM,rfl,rfl,rfl⟩
 case round =>
  obtain⟨i,T,rfl,rfl,rfl⟩:=hrel;by_cases N:i<k
  ·have u:(i:Int)<(k:Int):=oM;obtain⟨x,K,hE⟩:=F.out i N;obtain⟨J,G,rfl,r⟩:=hE.form;have n:=atS g 0 k c i N;rw[show 0+1*i=i by omega]at n;have d:(eR L (i+1)).length=(eR L i).length+(L i).length:=by rw[dF,UB]
   have l:=s.out i oM;have o:=s.out (i+1) oM;obtain⟨a,f⟩:∃a,Hid ((eR L i).length=a):=⟨_,rfl⟩
   obtain⟨b,q⟩:∃b,Hid ((L i).length=b):=⟨_,rfl⟩
   rw[f.out]at d l;rw[q.out]at d r;rw[f.out];rw[q.out]at K;go_wp2;go_roundg (gk-1)
   case measure=>omega
   case rel=>exact⟨i+1,oM,rfl,by rw[d,Z4],rfl⟩
  ·have u:¬(i:Int)<(k:Int):=oM;obtain rfl:i=k:=oM;go_wp2_with fail
   refine(Fh (eR L i).length (by have:=s.out i (Uy _);omega) w).mono ?_;rintro e Y ⟨v,rfl,l,B⟩;have R:=mk2 l B;go_wp2_with fail
   go_loopg [6,27] i (λm s6 s27 W=>∃j:Nat,j+m=i/\s27=iZ j/\Hid (kZ w W/\W.ownsRow w.heap.size 226 37 s6 (eR L j).length (aU (eR L j))))
   case atStart=>exact⟨0,oM,rfl,R⟩
   case round =>
    obtain⟨j,V,rfl,f⟩:=hrel;by_cases z:j<i
    ·have D:(j:Int)<(i:Int):=oM;obtain⟨x,r,q⟩:=F.out j z;have K:wr.cell? ⟨g,j,none⟩=some x:=by rw[f.1.cell (p:=⟨g,j,none⟩) U.out];exact r
     have hE:=q.grow f.1;have o:=s.out (j+1) oM;have d:(eR L (j+1)).length=(eR L j).length+(L j).length:=by rw[dF,UB]
     obtain⟨E,W',M,t,I⟩:=IV f.2 (Q j z) hE (by rw[<-d];omega) f.1.size;rw[<-dF]at t;have X:Hid (kZ w W'/\W'.ownsRow w.heap.size 226 37 E (eR L (j+1)).length (aU (eR L (j+1)))):=⟨f.1.grown I f.1.size (λk H=>(f.2.lt k H).1),t⟩
     have C:=Hid.mk' M;obtain⟨J,G,rfl,-⟩:=hE.form;have n:=atS g 0 i c j z;rw[show 0+1*j=j by omega]at n;clear M t I d o f q r;go_wp2_with (first|(refine lM (x:=u6) (y:=.slice J (L j).length G) (v:=E) (w':=W') rfl _ _ 131 rfl ?_ ?_ ?_ ?_;rfl;rfl;exact C.out)|fail)
     go_roundg (gk-1)
     case measure=>omega
     case rel=>exact⟨j+1,oM,rfl,X⟩
    ·have D:¬(j:Int)<(i:Int):=oM;obtain rfl:j=i:=oM;go_wp2;go_ret;exact⟨_,rfl,f.1,f.2⟩
theorem cO(B:Nat)(s t:Uv)(l m:List (Nat × Bs))(r:0<(l++m).length)(O:l.length<=500)(P:m.length<=500)(z:∀x∈l,x.2.size=33)(p:∀x∈m,x.2.size=33)(w:Ut)(C:SmZ B w s l)(G:SmZ B w t m):
 UK prog 65 #[s,t] w (rZ w λe w'=>Sm w.heap.size w' e (l++m)):=by
 obtain⟨q,c1,L,-⟩:=C.form;obtain⟨a,c2,J,-⟩:=G.form;subst L;subst J;obtain⟨d,k⟩:=hE (w.alloc (.cells #[.slice q l.length c1,.slice a m.length c2] 131));have I:kZ w d:=by rw[<-k.out];exact aC _ _
 have o:w.heap.size<d.heap.size:=by rw[<-k.out,UD];omega
 have F:d.rangeAt w.heap.size 0 [.slice q l.length c1,.slice a m.length c2]:=by rw[<-k.out];exact(Made.alloc w [.slice q l.length c1,.slice a m.length c2] 131).range
 have M:=Hid.mk' (GR w.heap.size 2 2 (λj=>if j=0 then l else m) dC (λj _=>by show(if j=0 then l else m).length<=600;split<;>omega) (λj _=>by
  show ∀x∈(if j=0 then l else m),x.2.size=33;split
  ·exact z
  ·exact p) d o (λj b=>by
  have f:∀ {v:Uv}{l:List (Nat × Bs)},SmZ B w v l->SmZ 0 d v l:=λh=>by
   rcases h.grow I with h|⟨g,c,A,u,-,y,i⟩
   ·exact U6 h
   ·exact U2 ⟨g,c,A,u,Wz _,y,i⟩
  have b:j=0\/j=1:=oM;rcases b with rfl|rfl
  ·exact⟨_,F 0 _ rfl,f C⟩
  ·exact⟨_,F 1 _ rfl,f G⟩))
 have b:eR (λj=>if j=0 then l else m) 2=l++m:=by rw[dF,dF];rfl
 have n:=Hid.mk' I;have D:=mk2 b r;go_enter func65,ntmps65;go_wp2_with fail
 rw[k.out];refine M.mono ?_;rintro e E ⟨K,rfl,f,ho⟩;rw[D.1]at ho;have H:Hid (kZ w E/\Sm w.heap.size E K (l++m)):=by
  obtain⟨g,c,A,u,N,y,i⟩:=EO ho D.2;exact⟨n.trans (f.mono n.size),g,c,A,u,UE n.size N,y,i⟩
 go_wp2;go_ret;exact⟨_,rfl,H.1,H.2⟩
structure Kp(w:Ut)(W:Ut)(rs:List (Nat × List Uv)):Prop where
 bl:kZ w W
 rw:∀x∈rs,Row W x.1 x.2
theorem Kp.grow{w W W':Ut}{k:List (Nat × List Uv)}(h:Kp w W k)(b:kZ W W'):Kp w W' k:=⟨h.bl.trans (b.mono h.bl.size),λx hx=>(h.rw x hx).below b⟩
theorem Kp.drew{w W:Ut}{k:List (Nat × List Uv)}(h:Kp w W k):Kp w W.drew k:=⟨h.bl.drew,h.rw⟩
theorem Kp.at{w W:Ut}{b:List (Nat × List Uv)}(h:Kp w W b){k:Nat}{c:List Uv}(i:Nat)(d:b[i]? = some (k,c)):Row W k c:=h.rw _ (List.mem_of_getElem? d)
def Nw(B:Nat)(c:List Uv)(v:Uv)(W:Ut):Prop:=∃k,v=jZ k/\B<=k/\Row W k c
section
variable (w:Ut) (k6 k8 k9 k10 x kk c z B0:Nat) (A F:Bs) (v1:Uv)
def R5:Nat->Uv->Ut->Prop
 | 0,v,_=>v=nv kk
 | 1,v,_=>v=pvl A
 | 2,v,_=>v=pvl F
 | 3,v,W=>Nw B0 z33 v W
 | _,_,_=>True
def Two(v:Uv)(W:Ut):Prop:=∃k y,v=sZ k 2 2/\k<W.heap.size/\W.cell? ⟨k,0,none⟩=some (sZ k9 33 33)/\W.cell? ⟨k,1,none⟩=some y/\El 32 W y (bx z)
def Ans(v:Uv)(W:Ut):Prop:=W.ownsRow B0 5 1 v 65 ((F.toList++(bx z).toList).map encB)
def R7:Nat->Uv->Ut->Prop
 | 0,v,_=>v=sZ k9 33 33
 | 1,v,_=>v=nv c
 | 2,v,_=>v=nv kk
 | 3,v,_=>v=nv x
 | 4,v,_=>v=nv z
 | 5,v,W=>El 32 W v (bx z)
 | 6,v,W=>Two k9 z v W
 | 7,v,W=>Ans z B0 F v W
 | 8,v,W=>Ans z B0 F v W
 | 9,v,_=>v=iZ 0
 | _,_,_=>True
end
theorem qD{P:VD}{c:Func}{tmps:Array Uv}{W:Ut}{k:Nat}{v:Uv}(t u:WF)(T:Vb)(i:c.results=#[.cell t T,.tmp u])(h:Row W k vs)(g:tmps[t]? = some (jZ k))(hv:tmps[u]? = some v)
 (b:(P.underlying T).map (·.isRow)=some true) (l:(P.info? T).map (·.size)=some vs.length):(results c tmps).run P W=.ok (.tuple #[.agg vs.toArray,v]) W:=by
 obtain⟨d,b,hd⟩:=UA.1 b;have f:=Y2 (P:=P) W k 0 T vs d h.2.1 b hd l;have j:tmps.getD t WJ=jZ k:=by rw[UJ,g];rfl
 have e:tmps.getD u WJ=v:=by rw[UJ,hv];rfl
 unfold results;rw[i];simp only[Array.mapM_eq_mapM_toList,List.mapM_cons,List.mapM_nil,j,e,asAddr];simp[UW,f]
theorem NY(w:Ut):(Y0 103 #[]).run prog w=.ok (.agg z33.toArray) w:=kR
theorem Qi(g o k:Nat)(w:Ut):(yBC 103 (.slice (some ⟨g,o,none⟩) 33 k)).run prog w=.ok (oZ g o) w:=kR
theorem EG{k:Bs}{p:Fin P × Fin P}(h:rd P k=some p):k.size=33:=by
 unfold rd at h;split at h
 ·assumption
 ·cases h
theorem GK{W:Ut}{g o:Nat}(h:Holds encB W g o b):W.rangeAt g o (aA b):=λj u c=>by
 unfold aA at c;rw[Vy]at c;obtain⟨x,hx,rfl⟩:=UA.1 c;have k:j<b.size:=by have:=(UG.1 hx).1;simpa using this
 rw[(h j k).1,getElem!_pos b j k];rw[Vt,UZ k]at hx;rw[UP.inj hx]
theorem FK(C:Fld P)(v:Uv)(k:Bs)(p:Fin P × Fin P)(w:Ut)(hv:Arg33 w v k)(a:rd P k=some p):UK prog 53 #[v] w (rZ w λe w'=>e=.tuple #[pvl k,.bool true]):=by
 have x:=EG a;have J:Hid (∀W,kZ w W->UK prog 118 #[v] W (rZ W λe w'=>e=.bool true)):=λW L=>by
  have h:=Ct C v k W (hv.below L);rw[a]at h;exact h
 obtain⟨q,n,cap,rfl,E,G⟩:=hv;rw[x]at E;subst E;obtain⟨g,o,rfl,-,H,I⟩:=G rfl;have B:=mk2 (GK I) H;obtain⟨r,l⟩:=hE (w.alloc (.cells z33.toArray 103));have f:Hid (Row r w.heap.size z33/\kZ w r):=by rw[<-l.out];exact⟨aE w _ _,aC w _⟩
 obtain⟨d,t,u⟩:=UA.1 uCP;have F:=mk2 t u;have K:=Hid.mk' x;have y:=Qi g o cap;go_enter func53,ntmps53;go_wp2_with (first|(refine bG (v:=jZ w.heap.size) (w':=r) rfl (.alloc 103) rfl ?_ ?_;(rw[<-l.out];kernel_rfl))|fail)
 refine(J r f.2).mono ?_;rintro e A ⟨M,rfl,c,rfl⟩;have s:=mk3 (f.1.below c) (f.2.trans (c.mono f.2.size)) (RG.range_below B.1 (f.2.trans (c.mono f.2.size)) B.2);obtain⟨D,i⟩:=hE (A.setCells w.heap.size 0 (aA k));have b:=aB K.out;have z:Hid (Row D w.heap.size (aA k)/\kZ w D):=by rw[<-i.out];exact⟨s.1.put (by rw[b];rfl),RG.below_setCells (Uy _) _ _ _ s.2.1⟩
 obtain⟨N,j⟩:=hE (U5 (aA k).toArray);have m:Hid ((prog.info? 103).map (·.size)=some (aA k).length/\A.there w.heap.size 0 (aA k).toArray.size/\(prog.info? 103).map (·.size)=some (aA k).toArray.size):=by
  have e:(aA k).toArray.size=33:=by rw[VE];exact b
  refine⟨by rw[b];exact cV,by rw[e];exact s.1.2.2,by rw[e];exact cV⟩
 go_wp2_with (first|(refine U8 rfl 103 _ rfl g o ?_ (aA k) d ?_ ?_ ?_ ?_ ?_;rfl;exact s.2.2;exact F.1;exact F.2;exact m.1;rw[j.out])|(refine U3 rfl 103 _ _ rfl w.heap.size 0 (aA k).toArray ?_ ?_ ?_ ?_ ?_ ?_;rfl;exact j.symm;exact m.2.1;exact m.2.2;exact bW k;rw[show(aA k).toArray.toList=aA k from rfl,i.out])|fail)
 refine UH (qD 2 3 103 rfl z.1 rfl rfl uCP m.1) rfl ?_;exact⟨_,rfl,z.2,rfl⟩
theorem Nc(C:Fld P)(v:Uv)(j:Bs)(w:Ut)(hv:Arg33 w v j)(q:rd P j=none):UK prog 53 #[v] w (rZ w λe w'=>e=.tuple #[.agg z33.toArray,.bool false]):=by
 have r:Hid (∀W,kZ w W->UK prog 118 #[v] W (rZ W λe w'=>e=.bool false)):=λW s=>by
  have h:=Ct C v j W (hv.below s);rw[q]at h;exact h
 obtain⟨g,d⟩:=hE (w.alloc (.cells z33.toArray 103));have f:Hid (Row g w.heap.size z33/\kZ w g):=by rw[<-d.out];exact⟨aE w _ _,aC w _⟩
 obtain⟨t,c⟩:=hE (U5 z33.toArray);have p:Hid (z33.toArray.all (·.oneCell')=true):=by show _=_;decide +kernel
 go_enter func53,ntmps53;go_wp2_with (first|(refine bG (v:=jZ w.heap.size) (w':=g) rfl (.alloc 103) rfl ?_ ?_;(rw[<-d.out];kernel_rfl))|fail)
 refine(r g f.2).mono ?_;rintro e i ⟨u,rfl,k,rfl⟩;have l:=mk2 (f.1.below k) (f.2.trans (k.mono f.2.size));obtain⟨o,b⟩:=hE (i.setCells w.heap.size 0 z33);have n:Hid (Row o w.heap.size z33/\kZ w o):=by rw[<-b.out];exact⟨l.1.put rfl,RG.below_setCells (Uy _) _ _ _ l.2⟩
 have m:=Hid.mk' (NY i);rw[c.out]at m;go_wp2_with (first|(refine lK (v:=t) (w':=i) rfl 103 _ rfl #[] ?_ ?_ ?_;kernel_rfl;exact m.out)|(refine U3 rfl 103 _ _ rfl w.heap.size 0 z33.toArray ?_ ?_ ?_ ?_ ?_ ?_;rfl;exact c.symm;exact l.1.2.2;exact cV;exact p.out;rw[show z33.toArray.toList=z33 from rfl,b.out])|fail)
 refine UH (qD 2 3 103 rfl n.1 rfl rfl uCP cV) rfl ?_;exact⟨_,rfl,n.2,rfl⟩
theorem atP(k o n c i:Nat)(b:i<n)(w:Ut):(Vj 200 (.slice (some ⟨k,o,none⟩) n c) (iZ i)).run prog w=.ok (.pointer (some ⟨k,o+33*i,none⟩)) w:=by
 go_simp
theorem Ry(N:Nat)(g:N<=512):∃C0:List Uv,C0.length=33*N/\∀w:Ut,(Xx 200 (iZ N) (iZ N)).run prog w=.ok (sZ w.heap.size N N) (w.alloc (.cells C0.toArray 103)):=by
 have c:prog.underlying 200=some (.slice 103):=kR;have l:(prog.info? 103).map (λi=>(i.size,decide (i.bytes<=4000),i.zero.isSome))=some (33,true,true):=kR;obtain⟨i,b,k⟩:=UA.1 l;simp only[We.injEq,decide_eq_true_eq]at k;obtain⟨m,n,j⟩:=k;obtain⟨z,e⟩:=Vu.1 j;refine⟨(madeCells z.cells (N*33)).toList,by rw[UL,Zp,Vv],λw=>?_⟩;have f:(i.bytes:Int)*(N:Int)<=281474976710656:=by
  have:i.bytes*N<=4000*512:=WP n g;have d:((i.bytes*N:Nat):Int)<=281474976710656:=oM;rwa[XD]at d
 have:=run_make (P:=prog) w 200 103 i z c b e .i64 .i64 (N:Int) (N:Int) oM oM f oM;rw[YF,m]at this;rw[Yb];exact this
structure Az(w W:Ut)(K k i:Nat)(L:Nat->Bs):Prop where
 bl:kZ w W
 lt:K<W.heap.size
 th:W.there K 0 (33*k)
 rw:∀j,j<i->W.rangeAt K (33*j) (aA (L j))
theorem Az.grow{w W W':Ut}{K k i:Nat}{L:Nat->Bs}(h:Az w W K k i L)(b:kZ W W'):Az w W' K k i L:=
 ⟨h.bl.trans (b.mono h.bl.size),Uz h.lt b.size,dM h.th b h.lt,λj c=>RG.range_below (h.rw j c) b h.lt⟩
theorem Az.put{w W:Ut}{K k i:Nat}{L:Nat->Bs}(h:Az w W K k i L)(d:w.heap.size<=K)(g:i<k)(c:∀j,j<=i->(L j).size=33):Az w (W.setCells K (33*i) (aA (L i))) K k (i+1) L:=by
 refine⟨RG.below_setCells d _ _ _ h.bl,by rw[setCells_size];exact h.lt,V7 h.th _ _ _,λj f=>?_⟩;by_cases b:j=i
 ·subst b;refine VZ W K _ _ λt e=>?_
  rw[aB (c j (Uy _))]at e;have:=h.th (33*j+t) oM;rwa[UF]at this
 ·exact Vq (h.rw j oM) K _ _ (U2 (U6 (by rw[aB (c j oM)];omega)))
def Uq(P:Nat)[NeZero P](w:Ut)(k:Nat)(L:Nat->Bs)(e:Uv)(w':Ut):Prop:=
 kZ w w'/\(((∀j,j<k->∃p,rd P (L j)=some p)/\∃K,e=.tuple #[sZ K k k,.bool true]/\w.heap.size<=K/\K<w'.heap.size/\∀j,j<k->w'.rangeAt K (33*j) (aA (L j)))\/((∃j,j<k/\rd P (L j)=none)/\e=.tuple #[.slice none 0 0,.bool false]))
def Ol(P:Nat)[NeZero P](w:Ut)(k:Nat)(L:Nat->Bs)(e:Uv)(w':Ut):Prop:=
 kZ w w'/\(((∀j,j<k->∃p,rd P (L j)=some p)/\∃K,e=.tuple #[sZ K k k,.bool true]/\w.heap.size<=K/\K<w'.heap.size/\w'.there K 0 (33*k)/\∀j,j<k->w'.rangeAt K (33*j) (aA (L j)))\/((∃j,j<k/\rd P (L j)=none)/\e=.tuple #[.slice none 0 0,.bool false]))
theorem Qk(C:Fld P)(B o k c:Nat)(hk:k<=512)(L:Nat->Bs)(w:Ut)(hg:B<w.heap.size)(hL:∀j,j<k->∃v,w.cell? ⟨B,o+j,none⟩=some v/\Arg33 w v (L j)):
 UK prog 120 #[.func (.func 53) #[] #[],.slice (some ⟨B,o,none⟩) k c] w (Ret (Ol P w k L)):=by
 obtain⟨C0,I,N⟩:=Ry k hk;have n:=N w;obtain⟨w1,A⟩:=hE (w.alloc (.cells C0.toArray 103));rw[A.out]at n;have HM:=Hid.mk' n;have K1:Hid (Az w w1 w.heap.size k 0 L):=by
  have hR:Row w1 w.heap.size C0:=by rw[<-A.out];exact aE w _ _
  refine⟨by rw[<-A.out];exact aC _ _,hR.1,by rw[<-I];exact hR.2.2,λj V=>oM⟩
 have S:Hid (Fld P/\(∀j,j<k->∃v,w.cell? ⟨B,o+j,none⟩=some v/\Arg33 w v (L j))/\B<w.heap.size):=⟨C,hL,hg⟩
 obtain⟨d,O,J⟩:=UA.1 uCP;have HD:=mk2 O J;have HO:Hid (z33.toArray.all (·.oneCell')=true):=by show _=_;decide +kernel
 clear O J C hL hg N I A;go_enter func120,ntmps120;go_wp2;clear n;go_loopg [16] k (λm s16 W=>∃i:Nat,i+m=k/\s16=iZ i/\Hid (Az w W w.heap.size k i L/\∀j,j<i->∃p,rd P (L j)=some p))
 case atStart=>exact⟨0,oM,rfl,K1.out,λj V=>oM⟩
 case round =>
  obtain⟨i,h1,rfl,r⟩:=hrel;by_cases R:i<k
  ·have Y:(i:Int)<(k:Int):=oM;obtain⟨v,H,K⟩:=S.2.1 i R;have hc:wr.cell? ⟨B,o+i,none⟩=some v:=by rw[r.1.bl.cell (p:=⟨B,o+i,none⟩) S.2.2];exact H
   have U:Hid (Arg33 wr v (L i)):=K.below r.1.bl;have h0:=atB B o k c i R;rw[show o+1*i=o+i by omega]at h0;clear H K;obtain⟨b,a⟩:∃b,Hid (L i=b):=⟨_,rfl⟩
   rw[a.out]at U;obtain⟨g,f⟩:∃g:Nat,True:=⟨0,yCm⟩
   clear f g;cases Q:rd P b with
   | none =>
    go_wp2_with fail
    refine(Nc S.1 v b wr U.out Q).mono ?_;rintro e z ⟨vv,rfl,F,rfl⟩;obtain⟨vz,l⟩:=hE (U5 z33.toArray);rw[l.out];obtain⟨g,f⟩:=hE (z.heap.size);obtain⟨y,u⟩:=hE (z.alloc (.cells z33.toArray 103));obtain⟨G,x⟩:=hE (y.setCells g 0 z33);have E:Hid (Row y g z33/\kZ w y/\w.heap.size<=g):=by
     have s:=r.1.bl.trans (F.mono r.1.bl.size);rw[<-u.out,<-f.out];exact⟨aE z _ _,s.alloc s.size _,s.size⟩
    have s:Hid (kZ w G):=by rw[<-x.out];exact RG.below_setCells E.2.2 _ _ _ E.2.1
    have D:Hid (i<k/\rd P (L i)=none):=⟨R,by rw[a.out];exact Q⟩
    go_wp2_with (first|(refine bG (v:=jZ g) (w':=y) rfl (.alloc 103) rfl ?_ ?_;(rw[<-u.out,<-f.out];kernel_rfl))|(refine U3 rfl 103 _ _ rfl g 0 z33.toArray ?_ ?_ ?_ ?_ ?_ ?_;rfl;exact l.symm;exact E.1.2.2;exact cV;exact HO.out;rw[show z33.toArray.toList=z33 from rfl,x.out])|fail)
    go_ret2
    exact⟨_,rfl,s.out,U2 ⟨⟨i,D.out⟩,rfl⟩⟩
   | some p =>
    have hs:=EG Q;go_wp2_with fail
    refine(FK S.1 v b p wr U.out Q).mono ?_;rintro e z ⟨vv,rfl,F,rfl⟩;obtain⟨vz,l⟩:=hE (pvl b);rw[l.out];have s:=aB hs;have X:(aA b).toArray.size=33:=by rw[VE];exact s
    obtain⟨g,f⟩:=hE (z.heap.size);obtain⟨y,u⟩:=hE (z.alloc (.cells z33.toArray 103));obtain⟨G,x⟩:=hE (y.setCells g 0 (aA b));obtain⟨W4,M⟩:=hE (G.setCells w.heap.size (33*i) (aA b));have A1:=r.1.grow F;have E:Hid (Row y g z33/\kZ z y):=by
     rw[<-u.out,<-f.out];exact⟨aE z _ _,aC _ _⟩
    have T:Hid (Row G g (aA b)/\Az w G w.heap.size k i L):=by
     rw[<-x.out];exact⟨E.1.put (by rw[s];rfl),A1.grow (RG.below_setCells (by rw[f.out];exact Uy _) _ _ _ E.2)⟩
    have K4:Hid (Az w W4 w.heap.size k (i+1) L/\∀j,j<i+1->∃p,rd P (L j)=some p):=by
     have D:∀j,j<i+1->∃p,rd P (L j)=some p:=λj V=>by
      by_cases Z:j=i
      ·subst Z;exact⟨p,by rw[a.out];exact Q⟩
      ·exact r.2 j oM
     have h:=T.2.put (Uy _) R (λj V=>by obtain⟨q,Z⟩:=D j oM;exact EG Z);rw[a.out,M.out]at h;exact⟨h,D⟩
    have D:Hid ((prog.info? 103).map (·.size)=some (aA b).length/\(prog.info? 103).map (·.size)=some (aA b).toArray.size/\y.there g 0 (aA b).toArray.size/\G.there w.heap.size (33*i) (aA b).toArray.size):=by
     rw[s,X];refine⟨cV,cV,E.1.2.2,λt Z=>?_⟩;have:=T.2.th (33*i+t) oM;rwa[UF]at this
    have Z:=atP w.heap.size 0 k k i R;go_wp2_with (first|(refine bG (v:=jZ g) (w':=y) rfl (.alloc 103) rfl ?_ ?_;(rw[<-u.out,<-f.out];kernel_rfl))|(refine U3 rfl 103 _ _ rfl g 0 (aA b).toArray ?_ ?_ ?_ ?_ ?_ ?_;rfl;exact l.symm;exact D.2.2.1;exact D.2.1;exact bW b;rw[show(aA b).toArray.toList=aA b from rfl,x.out])|(refine U8 rfl 103 _ rfl g 0 ?_ (aA b) d ?_ ?_ ?_ ?_ ?_;rfl;exact T.1.2.1;exact HD.1;exact HD.2;exact D.1;rw[show U5 (aA b).toArray=vz from l.out])|(refine U3 rfl 103 _ _ rfl w.heap.size (33*i) (aA b).toArray ?_ ?_ ?_ ?_ ?_ ?_;rfl;exact l.symm;exact D.2.2.2;exact D.2.1;exact bW b;rw[show(aA b).toArray.toList=aA b from rfl,M.out])|fail)
    go_roundg (gk-1)
    case measure=>omega
    case rel=>exact⟨i+1,oM,rfl,K4⟩
  ·have Y:¬(i:Int)<(k:Int):=oM;obtain rfl:i=k:=oM;go_wp2
   go_ret2
   exact⟨_,rfl,r.1.bl,U6 ⟨r.2,w.heap.size,rfl,Uy _,r.1.lt,r.1.th,r.1.rw⟩⟩
theorem Ql(C:Fld P)(b k c:Nat)(e:k<=512)(L:Nat->Bs)(w:Ut)(d:b<w.heap.size)(g:∀j,j<k->∃v,w.cell? ⟨b,j,none⟩=some v/\Arg33 w v (L j)):
 UK prog 120 #[.func (.func 53) #[] #[],sZ b k c] w (Ret (Ol P w k L)):=Qk C b 0 k c e L w d λj f=>by rw[UF];exact g j f
theorem Kl(C:Fld P)(b k c:Nat)(i:k<=512)(L:Nat->Bs)(w:Ut)(d:b<w.heap.size)(l:∀j,j<k->∃v,w.cell? ⟨b,j,none⟩=some v/\Arg33 w v (L j)):
 UK prog 120 #[.func (.func 53) #[] #[],sZ b k c] w (Ret (Uq P w k L)):=by
 refine(Ql C b k c i L w d l).mono ?_;rintro e w' ⟨v,rfl,p,h⟩;refine⟨_,rfl,p,?_⟩;rcases h with⟨g,K,o,f,m,-,n⟩|h
 ·exact U6 ⟨g,K,o,f,m,n⟩
 ·exact U2 h
theorem IX(O:Ord N){a:Nat}(c:a<N):Gives 149 #[nv a] (nv (sMi N 0 a)):=by
 intro w;have h:=Dn O 0 a O.pos c;generalize sMi N 0 a=m at h⊢;go_enter func149,ntmps149;refine RG.M.enter [(0,.v (nv a))] 6 kR ?_;intro a0 d;repeat refine UC ?_
 refine d.T [.m 0,.m 1] [(0,wn a),(1,RG.z 4)] [] [wn a,RG.z 4] [1,2] ⟨mk 0 49,mk 1 49,yCm⟩ ?_;intro f g j e b;repeat refine UC ?_
 refine b.T [.x (nv 0),.x (nv a),.c (nv m),.u 1] [] [(1,3,wn m)] [wn a,wn m] [2] ⟨st,ld u40 i40,cl h,RG.pt i40,yCm⟩ ?_;intro a2 i k;refine Wy ?_;refine UH (v:=nv m) (aI k.st 2 49 rfl 1 _ rfl (k.at (s:=(.p 1 0))) u40 i40) k.sl.defers ?_;exact⟨_,rfl,k.st.bel.below,rfl⟩
theorem TM(N:Nat)(f:N<=512):∃C0:List Uv,C0.length=37*N/\∀w:Ut,(Xx 131 (iZ N) (iZ N)).run prog w=.ok (sZ w.heap.size N N) (w.alloc (.cells C0.toArray 226)):=by
 have j:(prog.info? 226).map (λi=>(i.size,decide (i.bytes<=4000),i.zero.isSome))=some (37,true,true):=kR;obtain⟨i,b,k⟩:=UA.1 j;simp only[We.injEq,decide_eq_true_eq]at k;obtain⟨l,m,g⟩:=k;obtain⟨z,d⟩:=Vu.1 g;refine⟨(madeCells z.cells (N*37)).toList,by rw[UL,Zp,Vv],λw=>?_⟩;have e:(i.bytes:Int)*(N:Int)<=281474976710656:=by
  have:i.bytes*N<=4000*512:=WP m f;have c:((i.bytes*N:Nat):Int)<=281474976710656:=oM;rwa[XD]at c
 have:=run_make (P:=prog) w 131 226 i z C6 b d .i64 .i64 (N:Int) (N:Int) oM oM e oM;rw[YF,l]at this;rw[Yb];exact this
theorem GY{W:Ut}{g:Nat}{l:List (Nat × Bs)}(k:∀x∈l.map (·.2),x.size=33)(d:W.rangeAt g 0 (aU l))(j:Nat)(b:j<l.length):W.rangeAt g (37*j) (wn (l[j]).1++aA (l[j]).2):=λt u c=>by
 have e:t<37:=by
  have:=(UG.1 c).1;rw[gJ (k _ (Vn.2 ⟨_,VI b,rfl⟩))]at this;exact this
 have:=d (37*j+t) u (by rw[lE l k j b t e];exact c);rw[UF]at this;exact this
theorem Dp{W:Ut}{g:Nat}{l:List (Nat × Bs)}(k:∀x∈l.map (·.2),x.size=33)(i:∀j (b:j<l.length),W.rangeAt g (37*j) (wn (l[j]).1++aA (l[j]).2)):W.rangeAt g 0 (aU l):=λt u d=>by
 have c:t<l.length*37:=by
  have:=(UG.1 d).1;rwa[qH λx hx=>k _ (Vn.2 ⟨x,hx,rfl⟩)]at this
 have b:t/37<l.length:=Nat.div_lt_of_lt_mul oM;have m:t%37<37:=V6 _ dC;have e:37*(t/37)+t%37=t:=YT _ _;have f:=lE l k (t/37) b (t%37) m;rw[e,d]at f;have:=i (t/37) b (t%37) u f.symm;rw[e]at this;rw[UF];exact this
def tmT(N n:Nat)(x:Nat × Bs):Nat × Bs:=(sTi N n x.1,x.2)
structure Tz(w W:Ut)(N n K k3 i:Nat)(l:List (Nat × Bs)):Prop where
 bl:kZ w W
 lt:K<W.heap.size
 ne:k3≠K
 th:W.there K 0 (37*l.length)
 r3:Row W k3 (wn n)
 rw:∀j (hj:j<l.length),j<i->W.rangeAt K (37*j) (wn (tmT N n (l[j])).1++aA (tmT N n (l[j])).2)
theorem Tz.grow{w W W':Ut}{n K c i:Nat}{l:List (Nat × Bs)}(h:Tz w W N n K c i l)(k:kZ W W'):Tz w W' N n K c i l:=
 ⟨h.bl.trans (k.mono h.bl.size),Uz h.lt k.size,h.ne,dM h.th k h.lt,h.r3.below k,λj d b=>RG.range_below (h.rw j d b) k h.lt⟩
theorem Tz.drew{w W:Ut}{n K k i:Nat}{l:List (Nat × Bs)}(h:Tz w W N n K k i l):Tz w W.drew N n K k i l:=⟨h.bl.drew,h.lt,h.ne,h.th,h.r3,h.rw⟩
theorem Tz.put{w W:Ut}{n K i:Nat}{l:List (Nat × Bs)}(h:Tz w W N n K d i l)(f:w.heap.size<=K)(o:i<l.length)(c:∀x∈l.map (·.2),x.size=33):Tz w (W.setCells K (37*i) (wn (tmT N n (l[i])).1++aA (tmT N n (l[i])).2)) N n K d (i+1) l:=by
 have b:∀(j:Nat) (k:j<l.length),(wn (tmT N n (l[j])).1++aA (tmT N n (l[j])).2).length=37:=λj k=>gJ (c _ (Vn.2 ⟨_,VI k,rfl⟩))
 refine⟨RG.below_setCells f _ _ _ h.bl,by rw[setCells_size];exact h.lt,h.ne,V7 h.th _ _ _,⟨by rw[setCells_size];exact h.r3.1,Vq h.r3.2.1 K _ _ (U6 h.ne),V7 h.r3.2.2 _ _ _⟩,λj k m=>?_⟩;by_cases e:j=i
 ·subst e;refine VZ W K _ _ λt g=>?_
  rw[b j k]at g;have:=h.th (37*j+t) oM;rwa[UF]at this
 ·exact Vq (h.rw j k oM) K _ _ (U2 (U6 (by rw[b j k];omega)))
section
variable (w:Ut) (n K k3 k7 i s m:Nat) (p:Bs) (l:List (Nat × Bs))
def Rt:Nat->Uv->Ut->Prop
 | 0,v,_=>v=sZ K l.length l.length
 | 1,v,_=>v=iZ i
 | 2,v,_=>v=nv n
 | 3,v,_=>v=jZ k7
 | 4,v,_=>v=nv s
 | 5,v,_=>v=nv m
 | 6,v,_=>v=oZ k7 4
 | 7,v,_=>v=pvl p
 | 8,v,_=>v=tvl m p
 | 9,v,_=>v=.pointer (some ⟨K,0+37*i,none⟩)
 | _,_,_=>True
def Gt(N:Nat):Gw:=⟨Rt n K k7 i s m p l,λW=>Tz w W N n K k3 i l/\Row W k7 (wn s++aA p),λj v W W' k h=>by
 match j,h with
 | 0,h=>exact h
 | 1,h=>exact h
 | 2,h=>exact h
 | 3,h=>exact h
 | 4,h=>exact h
 | 5,h=>exact h
 | 6,h=>exact h
 | 7,h=>exact h
 | 8,h=>exact h
 | 9,h=>exact h
 | _+10,_=>trivial,λW W' k h=>⟨h.1.grow k,h.2.below k⟩⟩
end
theorem eG(O:Ord N){n:Nat}(hn:n<N)(B:Nat)(s:Uv)(l:List (Nat × Bs))(hl:l.length<=512)(h8:∀x∈l.map (·.2),x.size=33)(h3:∀x∈l,x.1<N)(w:Ut)(hS:Sm B w s l):
 UK prog 164 #[s,nv n] w (rZ w λe w'=>Sm w.heap.size w' e (l.map (tmT N n))):=by
 obtain⟨g,c,rfl,hc,-,hg,hr⟩:=hS;have HB:=Hid.mk' (boxS n w);obtain⟨r,D⟩:∃r,Hid (w.alloc (.cells (wn n).toArray 49)=r):=⟨_,rfl⟩
 rw[D.out]at HB;obtain⟨G,C⟩:∃k,Hid (w.heap.size=k):=⟨_,rfl⟩
 obtain⟨K,hK⟩:∃k,Hid (r.heap.size=k):=⟨_,rfl⟩
 have e1:K=G+1:=by rw[<-hK.out,<-C.out,<-D.out,UD]
 obtain⟨C0,Y,h7⟩:=TM l.length hl;have I:=h7 r;obtain⟨U,F⟩:∃U,Hid (r.alloc (.cells C0.toArray 226)=U):=⟨_,rfl⟩
 rw[F.out,hK.out]at I;rw[C.out]at HB;have K2:Hid (Tz w U N n K G 0 l):=by
  have f:Row r G (wn n):=by rw[<-D.out,<-C.out];exact aE w _ _
  have b1:kZ w r:=by rw[<-D.out];exact aC _ _
  have o:kZ r U:=by rw[<-F.out];exact aC _ _
  have d:Row U K C0:=by rw[<-F.out,<-hK.out];exact aE r _ _
  exact⟨b1.trans (o.mono b1.size),d.1,oM,by rw[<-Y];exact d.2.2,f.below o,λj hj q=>oM⟩
 have A:Hid (Ord N/\n<N/\(∀x∈l.map (·.2),x.size=33)/\(∀x∈l,x.1<N)/\g<w.heap.size/\w.rangeAt g 0 (aU l)/\w.heap.size<=K):=⟨O,hn,h8,h3,hg,hr,by rw[C.out];omega⟩
 obtain⟨d',X,h9⟩:=UA.1 uT;have HD:Hid (prog.underlying 226=some d'/\d'.isRow=true):=⟨X,h9⟩
 obtain⟨vn,hk⟩:∃v,Hid (nv n=v):=⟨_,rfl⟩
 rw[hk.out]at HB⊢;clear X h9 O hn h8 h3 hg hr h7 Y D F hK C e1;go_enter func164,ntmps164;go_wp2_with (first|(refine aF (u:=vn) (v:=jZ G) (w':=r) rfl 49 (.tmp 1) rfl ?_ ?_ ?_;rfl;exact HB.out)|fail)
 clear I;go_loopg [13] l.length (λm s13 W=>∃i:Nat,i+m=l.length/\s13=iZ i/\Hid (Tz w W N n K G i l))
 case atStart=>exact⟨0,oM,rfl,K2⟩
 case round =>
  clear K2 HB;obtain⟨i,hw,rfl,Q⟩:=hrel;by_cases o:i<l.length
  ·have hq:(i:Int)<(l.length:Int):=oM;obtain⟨s,S⟩:∃s,Hid ((l[i]'o).1=s):=⟨(l[i]'o).1,(rfl:(l[i]'o).1=(l[i]'o).1)⟩
   obtain⟨p,T⟩:∃p,Hid ((l[i]'o).2=p):=⟨(l[i]'o).2,(rfl:(l[i]'o).2=(l[i]'o).2)⟩
   have E:Hid (p.size=33):=by rw[<-T.out];exact A.2.2.1 _ (Vn.2 ⟨_,VI o,rfl⟩)
   have hs:Hid (s<N):=by rw[<-S.out];exact A.2.2.2.1 _ (VI o)
   have B0:Hid (wr.rangeAt g (37*i) (wn s++aA p)):=by
    have h:=RG.range_below (GY A.2.2.1 A.2.2.2.2.2.1 i o) Q.bl A.2.2.2.2.1;rw[S.out,T.out]at h;exact h
   obtain⟨q,H⟩:∃k,Hid (wr.heap.size=k):=⟨_,rfl⟩
   obtain⟨J,M⟩:∃J,Hid (wr.alloc (.cells zT.toArray 226)=J):=⟨_,rfl⟩
   obtain⟨W2,R⟩:∃W2,Hid (J.setCells q 0 (wn s++aA p)=W2):=⟨_,rfl⟩
   have f:(wn s++aA p).length=37:=gJ E.out;have F1:Hid (Row J q zT/\kZ wr J):=by rw[<-M.out,<-H.out];exact⟨aE wr _ _,aC wr _⟩
   have F2:Hid (Row W2 q (wn s++aA p)/\Tz w W2 N n K G i l):=by
    rw[<-R.out];exact⟨F1.1.put (by rw[f];rfl),Q.grow (RG.below_setCells (by rw[H.out];exact Uy _) _ _ _ F1.2)⟩
   have he:Hid ((prog.info? 226).map (·.size)=some (wn s++aA p).length):=by show _=_;rw[f];exact iT
   have ha:Hid ((prog.info? 226).map (·.size)=some (wn s++aA p).toArray.size/\J.there q 0 (wn s++aA p).toArray.size):=by
    have e:(wn s++aA p).toArray.size=37:=by rw[VE];exact f
    rw[e];exact⟨iT,F1.1.2.2⟩
   have hm:Hid ((wn s++aA p).toArray.all (·.oneCell')=true):=by
    show _=_;rw[WR];intro u hu;exact cells_one s p u (XL.1 hu)
   have k0:=atT g 0 l.length c i o;obtain⟨vt,h0⟩:∃v,Hid (U5 (wn s++aA p).toArray=v):=⟨_,rfl⟩
   have HL:Hid (i<l.length):=o;clear f Q F1;go_wp2_with (first|(refine U8 rfl 226 _ rfl g (37*i) ?_ (wn s++aA p) d' ?_ ?_ ?_ ?_ ?_;rfl;exact B0.out;exact HD.1;exact HD.2;exact he.out;rw[h0.out])|(refine bG (v:=jZ q) (w':=J) rfl (.alloc 226) rfl ?_ ?_;(rw[<-M.out,<-H.out];kernel_rfl))|(refine U3 rfl 226 _ _ rfl q 0 (wn s++aA p).toArray ?_ ?_ ?_ ?_ ?_ ?_;rfl;exact h0.symm;exact ha.2;exact ha.1;exact hm.out;rw[show(wn s++aA p).toArray.toList=wn s++aA p from rfl,R.out])|fail)
   clear M R H;refine(Gt w n K G q i s (sTi N n s) p l N).last 10 kR kR kR ⟨
    bN λa W d=>⟨[(5,sZ K l.length l.length)],sZ K l.length l.length,W,⟨d.o 5 kR,yCm⟩,kR,UT _ _,rfl⟩,
    bN λa W d=>⟨[(6,iZ i)],iZ i,W,⟨d.o 6 kR,yCm⟩,kR,UT _ _,rfl⟩,
    iW 49 3 rfl Go.Proofs.YtdoammpgchejcaaGreat.u40 λa W d=>⟨G,0,wn n,d.o 3 kR,d.b.1.r3.2.1,i40,rfl⟩,
    bN λa W d=>⟨[(7,jZ q)],jZ q,W,⟨d.o 7 kR,yCm⟩,kR,UT _ _,rfl⟩,
    iW 49 21 rfl Go.Proofs.YtdoammpgchejcaaGreat.u40 λa W d=>⟨q,0,wn s,d.n 3 21 kR kR,kC d.b.2.2.1,i40,rfl⟩,
    gK λa W d=>⟨[(20,nv n),(22,nv s)],79,#[nv n,nv s],⟨d.n 2 20 kR kR,d.n 4 22 kR kR,yCm⟩,kR,(iJ A.1 n s A.2.1 hs.out W).mono (by
     rintro e W' ⟨u,rfl,L,rfl⟩;exact⟨_,rfl,L,rfl⟩)⟩,
    bN λa W d=>⟨[(7,jZ q)],oZ q 4,W,⟨d.o 7 kR,yCm⟩,kR,UT _ _,rfl⟩,
    iW 103 24 rfl uCP λa W d=>⟨q,4,aA p,d.n 6 24 kR kR,lT (xs:=wn s) d.b.2.2.1,by rw[aB E.out];exact cV,rfl⟩,
    bN λa W d=>⟨[(23,nv (sTi N n s)),(25,pvl p)],tvl (sTi N n s) p,W,⟨d.n 5 23 kR kR,d.n 7 25 kR kR,yCm⟩,by
     rw[We.injEq];refine⟨kR,?_⟩;refine Eq.trans (b:=((Y0 226 #[(0,nv (sTi N n s)),(1,pvl p)]) >>= λv=>pure (Xq v)).run prog W) kR ?_;rw[UW,SU E.out];rfl,UT _ _,rfl⟩,
    bN λa W d=>⟨[(18,sZ K l.length l.length),(19,iZ i)],.pointer (some ⟨K,0+37*i,none⟩),W,⟨d.n 0 18 kR kR,d.n 1 19 kR kR,yCm⟩,by
     rw[We.injEq];refine⟨kR,?_⟩;show((Vj 131 (sZ K l.length l.length) (iZ i)) >>= λv=>pure (Xq v)).run prog W=_;rw[UW,atT K 0 l.length l.length i HL.out];rfl,UT _ _,rfl⟩,yCm⟩ ⟨F2.2.drew,F2.1⟩ ?_
   intro V W3 P L;have h6:V 8=tvl (sTi N n s) p:=P 8 dC;have Z:V 9=.pointer (some ⟨K,0+37*i,none⟩):=P 9 dC;have d:(wn (sTi N n s)++aA p).length=37:=gJ E.out;obtain⟨W4,h5⟩:∃W4,Hid (W3.setCells K (37*i) (wn (sTi N n s)++aA p)=W4):=⟨_,rfl⟩
   have K4:Hid (Tz w W4 N n K G (i+1) l):=by
    have h:=L.1.put A.2.2.2.2.2.2 HL.out A.2.2.1;have e:tmT N n (l[i]'HL.out)=(sTi N n s,p):=by
     have h1:=S.out;have h2:=T.out;unfold tmT;rw[h1,h2]
    rw[e]at h;rw[<-h5.out];exact h
   have HT:Hid (W3.there K (37*i) (wn (sTi N n s)++aA p).toArray.size/\(prog.info? 226).map (·.size)=some (wn (sTi N n s)++aA p).toArray.size/\(wn (sTi N n s)++aA p).toArray.all (·.oneCell')=true):=by
    have e:(wn (sTi N n s)++aA p).toArray.size=37:=by rw[VE];exact d
    refine⟨λt ht=>?_,by rw[e];exact iT,?_⟩
    ·rw[e]at ht;have:=L.1.th (37*i+t) (by have:=HL.out;omega);rwa[UF]at this
    ·rw[WR];intro u hu;exact cells_one _ p u (XL.1 hu)
   dsimp only[bU,VO,Xn,Xo];simp only[UR,Uu,Uw,Ux];obtain⟨vz,h4⟩:∃v,Hid (tvl (sTi N n s) p=v):=⟨_,rfl⟩
   rw[h6,Z,h4.out,UF];clear P L h6 Z d F2;generalize V 0=s0;generalize V 1=s1;generalize V 2=s2;generalize V 3=s3;generalize V 4=s4;generalize V 5=s5;generalize V 6=s6;generalize V 7=s7;go_wp2_with (first|(refine U3 rfl 226 _ _ rfl K (37*i) (wn (sTi N n s)++aA p).toArray ?_ ?_ ?_ ?_ ?_ ?_;rfl;exact h4.symm;exact HT.1;exact HT.2.1;exact HT.2.2;rw[show(wn (sTi N n s)++aA p).toArray.toList=wn (sTi N n s)++aA p from rfl,h5.out])|fail)
   go_roundg (gk-1)
   case measure=>omega
   case rel=>exact⟨i+1,oM,rfl,K4⟩
  ·have hq:¬(i:Int)<(l.length:Int):=oM;obtain rfl:i=l.length:=oM;have d:Hid (kZ w wr/\Sm w.heap.size wr (sZ K l.length l.length) (l.map (tmT N n))):=by
    refine⟨Q.bl,K,l.length,by rw[US],by rw[US];exact Uy _,A.2.2.2.2.2.2,Q.lt,Dp (λx hx=>?_) λj hj=>?_⟩
    ·obtain⟨y,q,rfl⟩:=Vn.1 hx;obtain⟨z,f,rfl⟩:=Vn.1 q;exact A.2.2.1 _ (Vn.2 ⟨z,f,rfl⟩)
    ·rw[List.getElem_map];rw[US]at hj;exact Q.rw j hj hj
   clear Q;go_wp2;go_ret;exact⟨_,rfl,d.1,d.2⟩
end
namespace SPA
structure Md(N:Nat)[NeZero N](M:Type) where
 ad:M->M->M
 zo:M
 ac:(Fin N)->M->M
 comm:∀a b,ad a b=ad b a
 assoc:∀a b c,ad (ad a b) c=ad a (ad b c)
 zadd:∀a,ad zo a=a
 acAd:∀r a b,ac r (ad a b)=ad (ac r a) (ac r b)
 adAc:∀r s a,ac (r+s) a=ad (ac r a) (ac s a)
 acAc:∀r s a,ac r (ac s a)=ac (r*s) a
 acOne:∀a,ac 1 a=a
 zac:∀a,ac 0 a=zo
variable {N:Nat}[NeZero N]{M:Type}
namespace Md
variable (D:Md N M)
theorem S5(a:M):D.ad a D.zo=a:=by rw[D.comm,D.zadd]
theorem swap(a b c d:M):D.ad (D.ad a b) (D.ad c d)=D.ad (D.ad a c) (D.ad b d):=by
 rw[D.assoc,<-D.assoc b,D.comm b c,D.assoc c,<-D.assoc]
theorem acz(r:(Fin N)):D.ac r D.zo=D.zo:=by
 have h:=D.zac D.zo;rw[<-h,D.acAc,show r*0=(0:(Fin N)) by grind]
def sm(f:Nat->M):Nat->M
 | 0=>D.zo
 | n+1=>D.ad (sm f n) (f n)
theorem mU{f g:Nat->M}:∀n,(∀i,i<n->f i=g i)->D.sm f n=D.sm g n
 | 0,_=>rfl
 | n+1,h=>by
  show D.ad _ _=D.ad _ _;rw[mU n λi k=>h i oM,h n oM]
theorem BN(f g:Nat->M):∀n,D.sm (λi=>D.ad (f i) (g i)) n=D.ad (D.sm f n) (D.sm g n)
 | 0=>(D.zadd _).symm
 | n+1=>by
  show D.ad _ _=D.ad (D.ad _ _) (D.ad _ _);rw[BN f g n,D.swap]
theorem EE(r:(Fin N))(f:Nat->M):∀n,D.sm (λi=>D.ac r (f i)) n=D.ac r (D.sm f n)
 | 0=>(D.acz r).symm
 | n+1=>by
  show D.ad _ _=D.ac r (D.ad _ _);rw[EE r f n,D.acAd]
theorem Io(f:Nat->M)(n:Nat):∀m,D.sm f (n+m)=D.ad (D.sm f n) (D.sm (λi=>f (n+i)) m)
 | 0=>(D.S5 _).symm
 | m+1=>by
  show D.ad (D.sm f (n+m)) _=D.ad _ (D.ad _ _);rw[Io f n m,D.assoc];rfl
instance:Std.Associative D.ad:=⟨D.assoc⟩
instance:Std.Commutative D.ad:=⟨D.comm⟩
def dt(a:Nat->(Fin N))(g:Nat->M)(n:Nat):M:=D.sm (λi=>D.ac (a i) (g i)) n
theorem D2(a:Nat->(Fin N))(g:Nat->M)(n m:Nat):D.dt a g (n+m)=D.ad (D.dt a g n) (D.dt (λi=>a (n+i)) (λi=>g (n+i)) m):=D.Io _ n m
theorem D3(x y:(Fin N))(b:x*y=1)(a c:Nat->(Fin N))(g k:Nat->M)(n:Nat):
 D.dt (λi=>x*a i+y*c i) (λi=>D.ad (D.ac y (g i)) (D.ac x (k i))) n
  = D.ad (D.ad (D.ac (x*x) (D.dt a k n)) (D.ad (D.dt a g n) (D.dt c k n))) (D.ac (y*y) (D.dt c g n)):=by
 unfold dt;rw[<-D.EE,<-D.EE,<-D.BN,<-D.BN,<-D.BN];refine D.mU n λi _=>?_
 rw[D.acAd,D.acAc,D.acAc,D.acAc,D.acAc,show(x*a i+y*c i)*y=a i+y*y*c i by grind,show(x*a i+y*c i)*x=x*x*a i+c i by grind,D.adAc,D.adAc]
 ac_rfl
theorem Fy(a c:Nat->(Fin N))(g:Nat->M)(n:Nat):D.dt (λi=>a i+c i) g n=D.ad (D.dt a g n) (D.dt c g n):=by
 unfold dt;rw[<-D.BN];exact D.mU n λi _=>D.adAc _ _ _
theorem NW(r:(Fin N))(a:Nat->(Fin N))(g:Nat->M)(n:Nat):D.dt (λi=>r*a i) g n=D.ac r (D.dt a g n):=by
 unfold dt;rw[<-D.EE];exact D.mU n λi _=>(D.acAc _ _ _).symm
end Md
def own(N:Nat)[NeZero N]:Md N (Fin N) where
 ad:=(·+·)
 zo:=0
 ac:=(·*·)
 comm:=by grind
 assoc:=by grind
 zadd:=by grind
 acAd:=by grind
 adAc:=by grind
 acAc:=by grind
 acOne:=by grind
 zac:=by grind
namespace Md
variable (D:Md N M)
def pr(a b:Nat->(Fin N))(n:Nat):(Fin N):=(own N).dt a b n
def hd(a b:Nat->(Fin N))(g h:Nat->M)(u:M)(n:Nat):M:=D.ad (D.ad (D.dt a g n) (D.dt b h n)) (D.ac (pr a b n) u)
def lf(a b:Nat->(Fin N))(g h:Nat->M)(u:M)(n:Nat):M:=D.hd a (λi=>b (n+i)) (λi=>g (n+i)) h u n
def rt(a b:Nat->(Fin N))(g h:Nat->M)(u:M)(n:Nat):M:=D.hd (λi=>a (n+i)) b g (λi=>h (n+i)) u n
def fS(x y:(Fin N))(n:Nat)(a:Nat->(Fin N))(i:Nat):(Fin N):=x*a i+y*a (n+i)
def fP(x y:(Fin N))(n:Nat)(g:Nat->M)(i:Nat):M:=D.ad (D.ac x (g i)) (D.ac y (g (n+i)))
theorem halved(x y:(Fin N))(k:x*y=1)(a b:Nat->(Fin N))(g h:Nat->M)(u:M)(n:Nat):
 D.hd (fS x y n a) (fS y x n b) (D.fP y x n g) (D.fP x y n h) u n
  = D.ad (D.ad (D.ac (x*x) (D.lf a b g h u n)) (D.hd a b g h u (n+n))) (D.ac (y*y) (D.rt a b g h u n)):=by
 have d:=D.D3 x y k a (λi=>a (n+i)) g (λi=>g (n+i)) n;have c:=D.D3 y x (by rw[<-k];grind) b (λi=>b (n+i)) h (λi=>h (n+i)) n;have e3:=(own N).D3 x y k a (λi=>a (n+i)) b (λi=>b (n+i)) n;unfold lf rt hd pr;rw[show D.dt (fS x y n a) (D.fP y x n g) n=_ from d,show D.dt (fS y x n b) (D.fP x y n h) n=_ from c,show(own N).dt (fS x y n a) (fS y x n b) n=_ from e3,D.D2,D.D2,(own N).D2];simp only[D.acAd,D.acAc];rw[show(own N).ad ((own N).ad ((own N).ac (x*x) ((own N).dt a (λi=>b (n+i)) n)) ((own N).ad ((own N).dt a b n) ((own N).dt (λi=>a (n+i)) (λi=>b (n+i)) n))) ((own N).ac (y*y) ((own N).dt (λi=>a (n+i)) b n))
  = (x*x*(own N).dt a (λi=>b (n+i)) n+(own N).ad ((own N).dt a b n) ((own N).dt (λi=>a (n+i)) (λi=>b (n+i)) n))+y*y*(own N).dt (λi=>a (n+i)) b n from rfl,D.adAc,D.adAc]
 ac_rfl
def pv{S:Type}(ch:S->M->M->S × (Fin N))(iv:(Fin N)->(Fin N))(u:M):Nat->S->(Nat->(Fin N))->(Nat->(Fin N))->(Nat->M)->(Nat->M)->List (M × M) × (Fin N) × (Fin N)
 | 0,_,a,b,_,_=>([],a 0,b 0)
 | t+1,s,a,b,g,h =>
  let L:=D.lf a b g h u (2^t)
  let T:=D.rt a b g h u (2^t)
  let c:=ch s L T
  let r:=pv ch iv u t c.1 (fS c.2 (iv c.2) (2^t) a) (fS (iv c.2) c.2 (2^t) b) (D.fP (iv c.2) c.2 (2^t) g) (D.fP c.2 (iv c.2) (2^t) h)
  ((L,T) :: r.1,r.2)
def vf{S:Type}(ch:S->M->M->S × (Fin N))(iv:(Fin N)->(Fin N))(u:M)(a b:(Fin N)):List (M × M)->S->M->(Nat->M)->(Nat->M)->Prop
 | [],_,p,g,h=>p=D.ad (D.ad (D.ac a (g 0)) (D.ac b (h 0))) (D.ac (a*b) u)
 | (L,T) :: l,s,p,g,h =>
  let c:=ch s L T
  let x:=c.2
  let y:=iv x
  vf ch iv u a b l c.1 (D.ad (D.ad (D.ac (x*x) L) p) (D.ac (y*y) T)) (D.fP y x (2^l.length) g) (D.fP x y (2^l.length) h)
theorem Jn(a b:Nat->(Fin N))(g h:Nat->M)(u:M):D.hd a b g h u 1=D.ad (D.ad (D.ac (a 0) (g 0)) (D.ac (b 0) (h 0))) (D.ac (a 0*b 0) u):=by
 show D.ad (D.ad (D.ad D.zo _) (D.ad D.zo _)) (D.ac ((0:(Fin N))+a 0*b 0) u)=_;rw[D.zadd,D.zadd,show(0:(Fin N))+a 0*b 0=a 0*b 0 by grind]
structure Rg(R:Type) where
 l:Nat->R
 m:Nat->R
 s:Nat->R
 q:Nat->R
 Y:Nat->R
 W:Nat->R
 T:Nat->R
 z:R
 x:R
def Rg.Ok(r:Rg (Fin N))(n:Nat):Prop:=∀i,i<n->r.l i*r.m i=0/\r.m i=r.l i-1/\r.Y i*r.W i=1
def Rg.a0(r:Rg (Fin N))(i:Nat):(Fin N):=r.l i-r.z
def Rg.b0(r:Rg (Fin N))(i:Nat):(Fin N):=r.Y i*(r.m i+r.z)+r.z*r.z*r.T i
def Rg.b1(r:Rg (Fin N))(i:Nat):(Fin N):=r.Y i*r.q i
def Rg.a(r:Rg (Fin N))(i:Nat):(Fin N):=r.a0 i+r.s i*r.x
def Rg.b(r:Rg (Fin N))(i:Nat):(Fin N):=r.b0 i+r.b1 i*r.x
def Rg.sY(r:Rg (Fin N))(n:Nat):(Fin N):=(own N).sm r.Y n
def Rg.sT(r:Rg (Fin N))(n:Nat):(Fin N):=(own N).sm r.T n
def Rg.v(r:Rg (Fin N))(n:Nat):(Fin N):=pr r.l r.T n
def Rg.d(r:Rg (Fin N))(n:Nat):(Fin N):=(r.z-r.z*r.z)*r.sY n-r.z*r.z*r.z*r.sT n
def Rg.t1(r:Rg (Fin N))(n:Nat):(Fin N):=pr r.a0 r.b1 n+pr r.s r.b0 n
def Rg.t2(r:Rg (Fin N))(n:Nat):(Fin N):=pr r.s r.b1 n
theorem uU(a b:Nat->(Fin N))(n:Nat):pr a b (n+1)=pr a b n+a n*b n:=rfl
theorem Rg.t0(r:Rg (Fin N)):∀n,r.Ok n->pr r.a0 r.b0 n=r.z*r.z*r.v n+r.d n
 | 0,_=>by
  show(0:(Fin N))=r.z*r.z*0+((r.z-r.z*r.z)*0-r.z*r.z*r.z*0);grind
 | n+1,h=>by
  have c:=t0 r n λi f=>h i oM
  obtain⟨d,e,_⟩:=h n oM;have b:r.v (n+1)=r.v n+r.l n*r.T n:=rfl;have k:r.d (n+1)=(r.z-r.z*r.z)*(r.sY n+r.Y n)-r.z*r.z*r.z*(r.sT n+r.T n):=rfl;have e3:r.d n=(r.z-r.z*r.z)*r.sY n-r.z*r.z*r.z*r.sT n:=rfl;rw[uU,c,b,k,e3];unfold Rg.a0 Rg.b0;rw[e]at d⊢;generalize r.v n=A,r.sY n=B,r.sT n=C,r.l n=l,r.Y n=y,r.T n=t,r.z=z at *;grind
theorem Rg.tt(r:Rg (Fin N)):∀n,pr r.a r.b n=pr r.a0 r.b0 n+r.t1 n*r.x+r.t2 n*r.x*r.x
 | 0=>by
  show(0:(Fin N))=0+(0+0)*r.x+0*r.x*r.x;grind
 | n+1=>by
  have c:=tt r n;have b:r.t1 (n+1)=(pr r.a0 r.b1 n+r.a0 n*r.b1 n)+(pr r.s r.b0 n+r.s n*r.b0 n):=rfl;have k:r.t2 (n+1)=pr r.s r.b1 n+r.s n*r.b1 n:=rfl;have e3:r.t1 n=pr r.a0 r.b1 n+pr r.s r.b0 n:=rfl;have d:r.t2 n=pr r.s r.b1 n:=rfl;rw[uU,c,b,k,e3,d,uU];show _+(r.a0 n+r.s n*r.x)*(r.b0 n+r.b1 n*r.x)=_;generalize pr r.a0 r.b0 n=A,pr r.a0 r.b1 n=B,pr r.s r.b0 n=C,pr r.s r.b1 n=E,r.a0 n=a0,r.b0 n=b0,r.s n=s,r.b1 n=b1,r.x=x;grind
def cm(H G:M)(c r:(Fin N)):M:=D.ad (D.ac c H) (D.ac r G)
theorem De(r:Rg (Fin N))(n:Nat)(h:r.Ok n)(H G:M)(k t1 t2:(Fin N)):
 D.cm H G (pr r.a r.b n) (t1*r.x+t2*(r.x*r.x)+r.z*r.z*k)
  = D.ad (D.ad (D.ac (r.z*r.z) (D.cm H G (r.v n) k)) (D.ac (r.d n) H)) (D.ad (D.ac r.x (D.cm H G (r.t1 n) t1)) (D.ac (r.x*r.x) (D.cm H G (r.t2 n) t2))):=by
 rw[r.tt,r.t0 n h];unfold cm;simp only[D.acAd,D.acAc];rw[show r.z*r.z*r.v n+r.d n+r.t1 n*r.x+r.t2 n*r.x*r.x=r.z*r.z*r.v n+r.d n+r.x*r.t1 n+r.x*r.x*r.t2 n by grind,
  show t1*r.x+t2*(r.x*r.x)+r.z*r.z*k=r.x*t1+r.x*r.x*t2+r.z*r.z*k by grind]
 simp only[D.adAc]
 ac_rfl
theorem xX{a c:Nat->(Fin N)}{g k:Nat->M}(n:Nat)(h:∀i,i<n->D.ac (a i) (g i)=D.ac (c i) (k i)):D.dt a g n=D.dt c k n:=D.mU n h
theorem Um(r:Rg (Fin N))(g:Nat->M)(n:Nat):D.dt r.a g n=D.ad (D.ad (D.dt r.l g n) (D.ac r.x (D.dt r.s g n))) (D.dt (λ_=>-r.z) g n):=by
 rw[<-D.NW,<-D.Fy,<-D.Fy];refine D.xX n λi _=>?_
 show D.ac (r.l i-r.z+r.s i*r.x) _=_;rw[show r.l i-r.z+r.s i*r.x=r.l i+r.x*r.s i+-r.z by grind]
theorem Ul(r:Rg (Fin N))(k:Nat->M)(n:Nat)(h:r.Ok n):D.dt r.b (λi=>D.ac (r.W i) (k i)) n
 = D.ad (D.ad (D.dt r.m k n) (D.ac r.x (D.dt r.q k n))) (D.dt (λi=>r.z+r.z*r.z*(r.T i*r.W i)) k n):=by
 rw[<-D.NW,<-D.Fy,<-D.Fy];refine D.xX n λi b=>?_
 obtain⟨_,_,c⟩:=h i b;rw[D.acAc];show D.ac ((r.Y i*(r.m i+r.z)+r.z*r.z*r.T i+r.Y i*r.q i*r.x)*r.W i) _=_;rw[show(r.Y i*(r.m i+r.z)+r.z*r.z*r.T i+r.Y i*r.q i*r.x)*r.W i=r.m i+r.x*r.q i+(r.z+r.z*r.z*(r.T i*r.W i)) by
  generalize r.Y i=y,r.W i=w,r.m i=m,r.q i=q,r.T i=t,r.z=z,r.x=x at *;grind]
theorem Cb(r:Rg (Fin N))(n:Nat)(h:r.Ok n)(G:M)(g k:Nat->M)(U:M)(al b w:(Fin N)):
 D.ad (D.ad (D.ad (D.ad (D.ad (D.ac al G) (D.ad (D.dt r.l g n) (D.dt r.m k n))) (D.ac r.x (D.ad (D.ac b G) (D.ad (D.dt r.s g n) (D.dt r.q k n))))) (D.ac (-(al+b*r.x)) G))
  (D.ad (D.dt (λ_=>-r.z) g n) (D.dt (λi=>r.z+r.z*r.z*(r.T i*r.W i)) k n))) (D.ac (pr r.a r.b n*w) U)
  = D.hd r.a r.b g (λi=>D.ac (r.W i) (k i)) (D.ac w U) n:=by
 unfold hd;rw[D.Um,D.Ul r k n h,D.acAc];simp only[D.acAd,D.acAc];have e:D.ad (D.ac al G) (D.ad (D.ac (r.x*b) G) (D.ac (-(al+b*r.x)) G))=D.zo:=by
  rw[<-D.adAc,<-D.adAc,show al+(r.x*b+-(al+b*r.x))=(0:(Fin N)) by grind,D.zac]
 generalize D.ac al G=A at *;generalize D.ac (r.x*b) G=B at *;generalize D.ac (-(al+b*r.x)) G=E at *;refine Eq.trans ?_ (D.zadd _);rw[<-e]
 ac_rfl
end Md
end SPA
section
open SPA
variable {P:Nat}[NeZero P]{N:Nat}[NeZero N]
abbrev OnP(P:Nat)[NeZero P]:={p:EC.Pt P // On p}
def aD(C:Fld P)(k:∀r:EC.Pt P,On r->mul N r=none):Md N (OnP P) where
 ad a b:=⟨EC.add a.1 b.1,C.cur.on a.2 b.2⟩
 zo:=⟨none,iQ⟩
 ac r a:=⟨mul r.val a.1,cG C.cur a.2 _⟩
 comm a b:=Yz (C.cur.comm a.2 b.2)
 assoc a b c:=Yz (C.cur.assoc a.2 b.2 c.2)
 zadd _:=rfl
 acAd r a b:=Yz (xC C a.2 b.2 _)
 adAc r s a:=Yz (by
  show mul (r+s).val a.1=_;rw[yAO,mul_mod C k a.2,mul_add C.cur a.2])
 acAc r s a:=Yz (by
  show _=mul (r*s).val a.1;rw[XO,mul_mod C k a.2,Vv,mB C.cur a.2])
 acOne a:=Yz (by
  show mul (1:Fin N).val a.1=_;rw[show(1:Fin N).val=1%N from rfl,mul_mod C k a.2];rfl)
 zac a:=Yz (by
  show mul (0:Fin N).val a.1=_;rw[show(0:Fin N).val=0%N from rfl,mul_mod C k a.2];rfl)
omit [NeZero N] in
theorem mA(a b:Fin N):(a+b).val=sPl N a.val b.val:=yAO a b
omit [NeZero N] in
theorem fM(a b:Fin N):(a*b).val=sTi N a.val b.val:=XO a b
omit [NeZero N] in
theorem Ja(a b:Fin N):(a-b).val=sMi N a.val b.val:=by
 rw[Fin.sub_def];show(N-b.val+a.val)%N=(a.val+N-b.val)%N;have:=b.isLt;rw[show N-b.val+a.val=a.val+N-b.val by omega]
omit [NeZero N] in
theorem I6(a:Fin N):(-a).val=sMi N 0 a.val:=by
 rw[Fin.neg_def];show(N-a.val)%N=(0+N-a.val)%N;rw[UF]
def ivF(a:Fin N):Fin N:=⟨sIn N a.val,V6 _ (Yc N)⟩
theorem sL(h:IsP N)(a:Fin N)(k:a.val≠0):a*ivF a=1:=by
 apply Yi;have b:=h.1;have hd:¬N ∣ a.val:=λhd=>by
  have:=Nat.le_of_dvd oM hd;have:=a.isLt;omega
 rw[XO,show(ivF a).val=a.val^(N-2)%N from rfl,Nat.mul_mod_mod,<-Nat.pow_succ',show(N-2).succ=N-1 by omega,h.fermat1 a.val hd];show 1=1%N;rw[UU oM]
structure Tl(N:Nat)(l:List (Nat × Bs))(X:OnP P):Prop where
 pts:PtsL P l
 lt:∀x∈l,x.1<N
 sum:fK P l=X.1
omit [NeZero N] in
theorem BF(C:Fld P):∀ {l m:List (Nat × Bs)},PtsL P l->PtsL P m->fK P (l++m)=EC.add (fK P l) (fK P m)
 | [],_,_,_=>rfl
 | x :: r,m,h,hm=>by
  have k:PtsL P r:=λz b=>h z (Vd _ b)
  show EC.add (mul x.1 (fU P x.2)) (fK P (r++m))=EC.add (EC.add _ _) _;rw[BF C k hm];exact(C.cur.assoc (cG C.cur (h.on C Vo) _) (nT C k) (nT C hm)).symm
omit [NeZero N] in
theorem Ey(C:Fld P)(k:∀r:EC.Pt P,On r->mul N r=none)(n:Nat):∀ {l:List (Nat × Bs)},PtsL P l->fK P (l.map (tmT N n))=mul n (fK P l)
 | [],_=>(nF n).symm
 | x :: r,h=>by
  have b:PtsL P r:=λz c=>h z (Vd _ c)
  have hx:=h.on C (x:=x) Vo;show EC.add (mul (sTi N n x.1) (fU P x.2)) (fK P (r.map (tmT N n)))=mul n (EC.add (mul x.1 (fU P x.2)) (fK P r));rw[Ey C k n b,xC C (cG C.cur hx _) (nT C b)];unfold sTi;rw[mul_mod C k hx,Vv,mB C.cur hx]
section
variable (C:Fld P) (hord:∀r:EC.Pt P,EC.On r->EC.mul N r=none)
theorem Tl.nil:Tl N [] (aD C hord).zo:=⟨λ_ h=>(U1 h).elim,λ_ h=>(U1 h).elim,rfl⟩
theorem Tl.app{l m:List (Nat × Bs)}{X Y:OnP P}(h:Tl N l X)(k:Tl N m Y):Tl N (l++m) ((aD C hord).ad X Y):=
 ⟨λx hx=>(Ww.1 hx).elim (h.pts x) (k.pts x),λx hx=>(Ww.1 hx).elim (h.lt x) (k.lt x),by
  rw[BF C h.pts k.pts,h.sum,k.sum];rfl⟩
theorem Tl.tm{l:List (Nat × Bs)}{X:OnP P}(h:Tl N l X)(n:Fin N):Tl N (l.map (tmT N n.val)) ((aD C hord).ac n X):=
 ⟨λx hx=>by
  obtain⟨y,k,rfl⟩:=Vn.1 hx;exact h.pts y k,λx hx=>by
  obtain⟨y,k,rfl⟩:=Vn.1 hx;exact V6 _ (Yc N),by
  rw[Ey C hord n.val h.pts,h.sum];rfl⟩
omit [NeZero N] in
theorem Tl.one(C:Fld P)(k:1<N)(X:OnP P):Tl N [(1,wr X.1)] X:=
 ⟨λx hx=>⟨X.1,X.2,by rw[WT.1 hx]⟩,λx hx=>by rw[WT.1 hx];exact k,by
  show EC.add (mul 1 (fU P (wr X.1))) none=_;rw[lN C X.2,bK];rfl⟩
def dJ(N:Nat)(a:Nat->Nat)(T:Nat->List (Nat × Bs)):Nat->List (Nat × Bs)
 | 0=>[]
 | n+1=>dJ N a T n++(T n).map (tmT N (a n))
theorem FB{a:Nat->Fin N}{T:Nat->List (Nat × Bs)}{g:Nat->OnP P}:∀n,(∀i,i<n->Tl N (T i) (g i))->Tl N (dJ N (λi=>(a i).val) T n) ((aD C hord).dt a g n)
 | 0,_=>Tl.nil C hord
 | n+1,h=>(FB n λi k=>h i oM).app C hord ((h n oM).tm C hord (a n))
theorem eU(N:Nat)(a:Nat->Nat){T:Nat->List (Nat × Bs)}{c:Nat}:∀n,(∀i,i<n->(T i).length=c)->(dJ N a T n).length=c*n
 | 0,_=>rfl
 | n+1,h=>by
  show(dJ N a T n++_).length=_;rw[UB,US,eU N a n (λi k=>h i oM),h n oM,Yk]
def lC(N x y n:Nat)(T:Nat->List (Nat × Bs))(i:Nat):List (Nat × Bs):=(T i).map (tmT N x)++(T (n+i)).map (tmT N y)
theorem MP{T:Nat->List (Nat × Bs)}{g:Nat->OnP P}(x y:Fin N)(n:Nat)(h:∀i,i<n+n->Tl N (T i) (g i))(i:Nat)(k:i<n):Tl N (lC N x.val y.val n T i) ((aD C hord).fP x y n g i):=
 ((h i oM).tm C hord x).app C hord ((h (n+i) oM).tm C hord y)
theorem JA(N x y n:Nat){T:Nat->List (Nat × Bs)}{c:Nat}(h:∀i,i<n+n->(T i).length=c)(i:Nat)(k:i<n):(lC N x y n T i).length=c+c:=by
 unfold lC;rw[UB,US,US,h i oM,h (n+i) oM]
end
end
section
open SPA
variable {N:Nat}[NeZero N]
def pwF(x:Fin N):Nat->Fin N
 | 0=>1
 | i+1=>pwF x i*x
theorem Dv{x y:Fin N}(h:x*y=1):∀i,pwF x i*pwF y i=1
 | 0=>by
  show(1:Fin N)*1=1
  grobner
 | i+1=>by
  have k:=Dv h i;show pwF x i*x*(pwF y i*y)=1;generalize pwF x i=a at *;generalize pwF y i=b at *
  grobner
def ofF(N:Nat)[NeZero N](n:Nat):Fin N:=⟨n%N,V6 _ (Yc N)⟩
theorem ET(a b:Nat):ofF N (a+b)=ofF N a+ofF N b:=Yi (by
 rw[yAO];show(a+b)%N=(a%N+b%N)%N;rw[Ze])
theorem ES(a b:Nat):ofF N (a*b)=ofF N a*ofF N b:=Yi (by
 rw[XO];show(a*b)%N=(a%N*(b%N))%N;rw[Xz])
theorem rA:ofF N 0=0:=Yi rfl
theorem ER:ofF N 1=1:=Yi rfl
theorem Du:∀i,pwF (ofF N 2) i=ofF N (2^i)
 | 0=>ER.symm
 | i+1=>by
  show pwF (ofF N 2) i*ofF N 2=_;rw[Du i,<-ES,V8]
def btF(N:Nat)[NeZero N](v i:Nat):Fin N:=ofF N (v/2^i%2)
theorem J4(v:Nat):∀n,Md.pr (btF N v) (pwF (ofF N 2)) n=ofF N (v%2^n)
 | 0=>by
  rw[Nat.pow_zero,Nat.mod_one];exact rA.symm
 | n+1=>by
  rw[Md.uU,J4 v n,Du];show _+ofF N _*_=_;rw[<-ES,<-ET,V8,Nat.mod_mul,Vv (2^n)]
theorem two_sum:∀n,(SPA.own N).sm (pwF (ofF N 2)) n=ofF N (2^n-1)
 | 0=>rA.symm
 | n+1=>by
  show(SPA.own N).sm _ n+_=_;rw[two_sum n,Du,<-ET];have:=Nat.pow_pos (n:=n) (show 0<2 by decide);rw[show 2^n-1+2^n=2^(n+1)-1 by rw[V8];omega]
theorem SH(v i:Nat):btF N v i=0\/btF N v i=1:=by
 unfold btF;rcases Nat.mod_two_eq_zero_or_one (v/2^i)with h|h<;>rw[h]
 ·exact U6 rA
 ·exact U2 ER
def rgF(v:Nat)(s q:Nat->Fin N)(y k z x:Fin N):Md.Rg (Fin N):=⟨btF N v,λi=>btF N v i-1,s,q,pwF y,pwF k,pwF (ofF N 2),z,x⟩
theorem IE(v:Nat)(s q:Nat->Fin N){y k:Fin N}(z x:Fin N)(h:y*k=1)(n:Nat):(rgF v s q y k z x).Ok n:=λi _=>⟨by
 show btF N v i*(btF N v i-1)=0;rcases SH (N:=N) v i with e|e<;>rw[e]<;>grobner,rfl,Dv h i⟩
theorem QV(v:Nat)(s q:Nat->Fin N)(y k z x:Fin N)(n:Nat)(hv:v<2^n):(rgF v s q y k z x).v n=ofF N v:=by
 show Md.pr (btF N v) (pwF (ofF N 2)) n=_;rw[J4,UU hv]
theorem QW(v:Nat)(s q:Nat->Fin N)(y k z x:Fin N)(n:Nat):(rgF v s q y k z x).d n=(z-z*z)*(SPA.own N).sm (pwF y) n-z*z*z*ofF N (2^n-1):=by
 show _-z*z*z*(SPA.own N).sm (pwF (ofF N 2)) n=_;rw[two_sum];rfl
end
namespace SPA
variable {N:Nat}[NeZero N]{M:Type}
namespace Md
variable (D:Md N M)
theorem AS(p:M):D.ad p (D.ac (-1) p)=D.zo:=by
 have h:=D.adAc 1 (-1) p;rw[show(1:(Fin N))+-1=0 by grind,D.zac,D.acOne]at h;exact h.symm
theorem OA(e p:M):D.ad e (D.ac (-1) p)=D.zo↔p=e:=by
 constructor
 ·intro h;have k:D.ad (D.ad e (D.ac (-1) p)) p=D.ad D.zo p:=by rw[h]
  rw[D.assoc,D.comm _ p,D.AS,D.S5,D.zadd]at k;exact k.symm
 ·rintro rfl;exact D.AS p
theorem Jf{a b c:(Fin N)}(d:a*b=1)(k:a*c=1):b=c:=by
 have:b=(a*b)*c+b*(1-a*c):=by grind
 rw[d,k]at this;grind
structure Vs(S M:Type) where
 s:S
 p:M
 g:Nat->M
 h:Nat->M
structure Ps(S R M:Type) where
 s:S
 a:Nat->R
 b:Nat->R
 g:Nat->M
 h:Nat->M
section
variable {S:Type}(ch:S->M->M->S × (Fin N)) (iv:(Fin N)->(Fin N)) (u:M)
def Eu(n:Nat)(L T:M)(v:Vs S M):Vs S M:=
 let c:=ch v.s L T
 ⟨c.1,D.ad (D.ad (D.ac (c.2*c.2) L) v.p) (D.ac (iv c.2*iv c.2) T),D.fP (iv c.2) c.2 n v.g,D.fP c.2 (iv c.2) n v.h⟩
def vst(t:Nat)(L T:Nat->M)(v:Vs S M):Nat->Vs S M
 | 0=>v
 | i+1=>D.Eu ch iv (2^(t-(i+1))) (L i) (T i) (vst t L T v i)
def pL(n:Nat)(q:Ps S (Fin N) M):M:=D.lf q.a q.b q.g q.h u n
def pT(n:Nat)(q:Ps S (Fin N) M):M:=D.rt q.a q.b q.g q.h u n
def qS(n:Nat)(q:Ps S (Fin N) M):Ps S (Fin N) M:=
 let c:=ch q.s (D.pL u n q) (D.pT u n q)
 ⟨c.1,fS c.2 (iv c.2) n q.a,fS (iv c.2) c.2 n q.b,D.fP (iv c.2) c.2 n q.g,D.fP c.2 (iv c.2) n q.h⟩
def pst(t:Nat)(q:Ps S (Fin N) M):Nat->Ps S (Fin N) M
 | 0=>q
 | i+1=>D.qS ch iv u (2^(t-(i+1))) (pst t q i)
def pLi(t:Nat)(q:Ps S (Fin N) M)(i:Nat):M:=D.pL u (2^(t-(i+1))) (D.pst ch iv u t q i)
def pTi(t:Nat)(q:Ps S (Fin N) M)(i:Nat):M:=D.pT u (2^(t-(i+1))) (D.pst ch iv u t q i)
def hdP(n:Nat)(q:Ps S (Fin N) M):M:=D.hd q.a q.b q.g q.h u n
theorem beside(k:∀s L T,(ch s L T).2*iv (ch s L T).2=1)(t:Nat)(q:Ps S (Fin N) M):∀i,i<=t ->
 D.vst ch iv t (D.pLi ch iv u t q) (D.pTi ch iv u t q) ⟨q.s,D.hdP u (2^t) q,q.g,q.h⟩ i
  = ⟨(D.pst ch iv u t q i).s,D.hdP u (2^(t-i)) (D.pst ch iv u t q i),(D.pst ch iv u t q i).g,(D.pst ch iv u t q i).h⟩
 | 0,_=>rfl
 | i+1,hi=>by
  have b:=beside k t q i oM;show D.Eu ch iv _ _ _ (D.vst ch iv t _ _ _ i)=_;rw[b];have e:2^(t-i)=2^(t-(i+1))+2^(t-(i+1)):=by
   rw[show t-i=t-(i+1)+1 by omega,V8];omega
  show(⟨_,_,_,_⟩:Vs S M)=⟨(D.qS ch iv u _ (D.pst ch iv u t q i)).s,D.hdP u _ (D.qS ch iv u _ (D.pst ch iv u t q i)),(D.qS ch iv u _ (D.pst ch iv u t q i)).g,(D.qS ch iv u _ (D.pst ch iv u t q i)).h⟩;unfold pLi pTi;generalize D.pst ch iv u t q i=r;rw[e];have h:=D.halved _ _ (k r.s (D.pL u (2^(t-(i+1))) r) (D.pT u (2^(t-(i+1))) r)) r.a r.b r.g r.h u (2^(t-(i+1)))
  congr 1
  exact h.symm
def KY(a b:(Fin N))(v:Vs S M):Prop:=v.p=D.ad (D.ad (D.ac a (v.g 0)) (D.ac b (v.h 0))) (D.ac (a*b) u)
theorem found(k:∀s L T,(ch s L T).2*iv (ch s L T).2=1)(t:Nat)(q:Ps S (Fin N) M):
 D.KY u ((D.pst ch iv u t q t).a 0) ((D.pst ch iv u t q t).b 0) (D.vst ch iv t (D.pLi ch iv u t q) (D.pTi ch iv u t q) ⟨q.s,D.hdP u (2^t) q,q.g,q.h⟩ t):=by
 rw[D.beside ch iv u k t q t (Uy _),YH];exact D.Jn _ _ _ _ u
end
end Md
end SPA
section
open SPA
variable {N:Nat}[NeZero N]
theorem RP(h:IsP N)(x:Fin N)(hx:x.val≠0)(k:(x*x).val≠0):ivF (x*x)=ivF x*ivF x:=by
 refine Md.Jf (sL h _ k) ?_;have e:=sL h x hx
 grobner
end
section
open SPA
variable {P:Nat}[NeZero P]{N:Nat}[NeZero N]
def Mw(a:Fin N):Fin N:=if a=0 then 1 else a
theorem Mv(h:1<N)(a:Fin N):(Mw a).val≠0:=by
 unfold Mw;split
 ·show 1%N≠0;rw[UU h];decide
 ·rename_i h0
  exact λe=>h0 (Yi (e.trans (YO N).symm))
def jY(k b:List UInt8)(L X Y:Bs):Bs:=uM (uM L k X.toList) b Y.toList
def kO(N:Nat)[NeZero N](L:Bs):Fin N:=Mw (ofF N (cha N L))
def bB(L:Bs):Bs:=tH L [99,104,97,108,108,101,110,103,101]
def chF(N:Nat)[NeZero N](L:Bs)(X Y:OnP P):Bs × Fin N:=
 let k:=jY [108,101,102,116] [114,105,103,104,116] L (wr X.1) (wr Y.1)
 (bB k,kO N k)
theorem FU(h:1<N)(L:Bs):(kO N L).val≠0:=by
 unfold kO;exact Mv h _
theorem MY(L:Bs)(X Y:OnP P):∃k,(chF N L X Y).2=kO N k:=by
 unfold chF;dsimp only;exact⟨_,rfl⟩
theorem JV(h:IsP N)(L:Bs)(X Y:OnP P):(chF N L X Y).2*ivF (chF N L X Y).2=1:=by
 obtain⟨k,e⟩:=MY (N:=N) L X Y;rw[e];have:=FU h.1 k;generalize kO N k=a at *;exact sL h a this
theorem P6(h:IsP N)(L:Bs)(X Y:OnP P):((chF N L X Y).2*(chF N L X Y).2).val≠0:=λe=>by
 have c:=JV h L X Y;have d:(chF N L X Y).2*(chF N L X Y).2=0:=Yi (e.trans (YO N).symm);generalize (chF N L X Y).2=x at *;generalize ivF x=y at *;have b:(1:Fin N)=0:=by grobner
 have k:1%N=0%N:=congrArg Fin.val b;have:=h.1;rw[UU oM,YO]at k;exact absurd k dC
theorem PP(C:Fld P)(k:∀r:EC.Pt P,On r->mul N r=none)(h:IsP N)(u:OnP P)(t:Nat)(q:Md.Ps Bs (Fin N) (OnP P)):
 (aD C k).KY u (((aD C k).pst (chF N) ivF u t q t).a 0) (((aD C k).pst (chF N) ivF u t q t).b 0)
  ((aD C k).vst (chF N) ivF t ((aD C k).pLi (chF N) ivF u t q) ((aD C k).pTi (chF N) ivF u t q) ⟨q.s,(aD C k).hdP u (2^t) q,q.g,q.h⟩ t):=
 (aD C k).found (chF N) ivF u (JV h) t q
end
namespace SPA
variable {N:Nat}[NeZero N]{M:Type}
namespace Md
variable (D:Md N M)
theorem Ig(a b p:M):D.ad (D.ad p a) b=D.ad (D.ad a p) b:=by ac_rfl
end Md
end SPA
section
open SPA
variable {P:Nat}[NeZero P]{N:Nat}[NeZero N]
theorem Tl.pt(C:Fld P)(k:∀r:EC.Pt P,On r->mul N r=none)(n:Fin N)(X:OnP P):Tl N [(n.val,wr X.1)] ((aD C k).ac n X):=
 ⟨λx hx=>⟨X.1,X.2,by rw[WT.1 hx]⟩,λx hx=>by rw[WT.1 hx];exact n.isLt,by
  show EC.add (mul n.val (fU P (wr X.1))) none=_;rw[lN C X.2,bK];rfl⟩
structure Gd(N n c:Nat)(T:Nat->List (Nat × Bs))(g:Nat->OnP P):Prop where
 tl:∀i,i<n->Tl N (T i) (g i)
 len:∀i,i<n->(T i).length=c
section
variable (C:Fld P) (hord:∀r:EC.Pt P,EC.On r->EC.mul N r=none)
theorem Gd.fold{n c:Nat}{T:Nat->List (Nat × Bs)}{g:Nat->OnP P}(h:Gd N (n+n) c T g)(x y:Fin N):Gd N n (c+c) (lC N x.val y.val n T) ((aD C hord).fP x y n g):=
 ⟨λi k=>MP C hord x y n h.tl i k,λi k=>JA N x.val y.val n h.len i k⟩
theorem Gd.cmb{n c:Nat}{T:Nat->List (Nat × Bs)}{g:Nat->OnP P}(h:Gd N n c T g)(a:Nat->Fin N):Tl N (dJ N (λi=>(a i).val) T n) ((aD C hord).dt a g n)/\(dJ N (λi=>(a i).val) T n).length=c*n:=
 ⟨FB C hord n h.tl,eU N _ n h.len⟩
omit [NeZero N] in
theorem Gd.low{n m c:Nat}{T:Nat->List (Nat × Bs)}{g:Nat->OnP P}(h:Gd N (n+m) c T g):Gd N n c T g:=⟨λi k=>h.tl i oM,λi k=>h.len i oM⟩
omit [NeZero N] in
theorem Gd.high{n m c:Nat}{T:Nat->List (Nat × Bs)}{g:Nat->OnP P}(h:Gd N (n+m) c T g):Gd N m c (λi=>T (n+i)) (λi=>g (n+i)):=⟨λi k=>h.tl (n+i) oM,λi k=>h.len (n+i) oM⟩
def Jm(N:Nat)(a b:Nat->Nat)(p:Nat)(G H:Nat->List (Nat × Bs))(U:List (Nat × Bs))(n:Nat):List (Nat × Bs):=dJ N a G n++dJ N b H n++U.map (tmT N p)
theorem Jl{n c:Nat}{G:Nat->List (Nat × Bs)}{g h:Nat->OnP P}{u:OnP P}(hG:Gd N n c G g)(k:Gd N n c H h)(e:Tl N U u)(hd:U.length=d)(a b:Nat->Fin N):
 Tl N (Jm N (λi=>(a i).val) (λi=>(b i).val) (Md.pr a b n).val G H U n) ((aD C hord).hd a b g h u n)/\(Jm N (λi=>(a i).val) (λi=>(b i).val) (Md.pr a b n).val G H U n).length=c*n+c*n+d:=by
 refine⟨((hG.cmb C hord a).1.app C hord (k.cmb C hord b).1).app C hord (e.tm C hord _),?_⟩;unfold Jm;rw[UB,UB,US,eU N _ n hG.len,eU N _ n k.len,hd]
end
end
section
open Go.RowKit Go.Sort Go.Deep
variable {P:Nat}[NeZero P]{N:Nat}
def BL(W:Ut)(q:Option Wv)(n:Nat)(X:Nat->List UInt8):Prop:=0<n->∃g,q=some (aZ g)/\g<W.heap.size/\∀i,i<n->∃a l c,W.cell? ⟨g,i,none⟩=some (.slice a l c)/\PartOk W (.slice a l c) (X i)
structure Ar(w W:Ut)(K e n i:Nat)(R:Nat->List Uv):Prop where
 bl:kZ w W
 lt:K<W.heap.size
 th:W.there K 0 (e*n)
 rw:∀j,j<i->W.rangeAt K (e*j) (R j)
theorem Ar.grow{w W W':Ut}{K n i:Nat}{R:Nat->List Uv}(h:Ar w W K e n i R)(k:kZ W W'):Ar w W' K e n i R:=
 ⟨h.bl.trans (k.mono h.bl.size),Uz h.lt k.size,dM h.th k h.lt,λj b=>RG.range_below (h.rw j b) k h.lt⟩
theorem Ar.put{w W:Ut}{K n i:Nat}{R:Nat->List Uv}(h:Ar w W K e n i R)(c:w.heap.size<=K)(d:i<n)(b:∀j,j<=i->(R j).length=e):Ar w (W.setCells K (e*i) (R i)) K e n (i+1) R:=by
 refine⟨RG.below_setCells c _ _ _ h.bl,by rw[setCells_size];exact h.lt,V7 h.th _ _ _,λj l=>?_⟩;by_cases k:j=i
 ·subst k;refine VZ W K _ _ λt g=>?_
  rw[b j (Uy _)]at g;have f:e*j+e<=e*n:=by
   have:=XU e (Nat.succ_le_of_lt d);rwa[Yk]at this
  have:=h.th (e*j+t) oM;rwa[UF]at this
 ·have f:e*j+e<=e*i:=by
   have:=XU e (show j+1<=i by omega);rwa[Yk]at this
  exact Vq (h.rw j oM) K _ _ (U2 (U6 (by rw[b j oM];omega)))
theorem Cj{T E:Vb}(p:prog.underlying T=some (.slice E))(o:(prog.info? E).map (λi=>(i.size,decide (i.bytes<=4000),i.zero.isSome))=some (e,true,true))(n:Nat)(m:n<=512):∃C0:List Uv,C0.length=e*n/\∀w:Ut,(Xx T (iZ n) (iZ n)).run prog w=.ok (sZ w.heap.size n n) (w.alloc (.cells C0.toArray E)):=by
 obtain⟨i,b,k⟩:=UA.1 o;simp only[We.injEq,decide_eq_true_eq]at k;obtain⟨f,j,d⟩:=k;obtain⟨z,c⟩:=Vu.1 d;refine⟨(madeCells z.cells (n*e)).toList,by rw[UL,Zp,Vv],λw=>?_⟩;have l:(i.bytes:Int)*(n:Int)<=281474976710656:=by
  have:i.bytes*n<=4000*512:=WP j m;have g:((i.bytes*n:Nat):Int)<=281474976710656:=oM;rwa[XD]at g
 have:=run_make (P:=prog) w T E i z p b c .i64 .i64 (n:Int) (n:Int) oM oM l oM;rw[YF,f]at this;rw[Yb];exact this
theorem Ar.new{w k:Ut}{K n:Nat}{C0:List Uv}{E:Vb}(R:Nat->List Uv)(f:C0.length=e*n)(b:w.alloc (.cells C0.toArray E)=k)(c:w.heap.size=K):Ar w k K e n 0 R:=by
 subst c;have hR:Row k w.heap.size C0:=by rw[<-b];exact aE w _ _
 exact⟨by rw[<-b];exact aC _ _,hR.1,by rw[<-f];exact hR.2.2,λj d=>absurd d (Nat.not_lt_zero _)⟩
theorem Dm(O:Ord N)(r:Nat)(L:Bs)(k:ByteArray)(w:Ut)(l:k.size<=1048576)(y:Holds encB w r 0 L)(K:L.size=32):
 UK prog 232 #[.agg #[jZ r],.string k] w (Ret λe w'=>SP.Only r 0 32 w w'/\Holds encB w' r 0 (tH L k.data.toList)/\e=nv (oS N (CQ L k.data.toList 64))):=by
 obtain⟨A,B⟩:=hE (CQ L k.data.toList 64);obtain⟨t,d⟩:∃t,Hid (tH L k.data.toList=t):=⟨_,rfl⟩
 rw[d.out];have J:t.size=32:=by rw[<-d.out];exact bE _ _
 have D:A.size=64:=by rw[<-B.out];exact Hd _ _ _
 rw[B.out];have s:=Holds.lt y oM;obtain⟨g,f⟩:∃g,Hid ((w.alloc (.cells #[jZ r] 143)).alloc (.cells #[uZ 0,uZ 0,uZ 0,uZ 0] 49)=g):=⟨_,rfl⟩
 have u:Hid (Row g (w.heap.size+1) [uZ 0,uZ 0,uZ 0,uZ 0]/\kZ w g/\Holds encB g r 0 L):=by
  rw[<-f.out];have b:kZ w ((w.alloc (.cells #[jZ r] 143)).alloc (.cells #[uZ 0,uZ 0,uZ 0,uZ 0] 49)):=(aC w _).alloc (by rw[UD];omega) _;have hR:=aE (w.alloc (.cells #[jZ r] 143)) [uZ 0,uZ 0,uZ 0,uZ 0] 49;rw[UD]at hR;exact⟨hR,b,Holds.below y b s⟩
 clear y;go_enter func232,ntmps232;go_wp2_with fail
 rw[f.out];clear f;refine(Nr r L k 64 g l dC u.2.2 K).mono ?_;rintro e I ⟨H,rfl,M,F,c,p⟩;rw[B.out]at p;rw[d.out]at c;have z:=Holds.lt c oM;have i:=mk4 (u.1.only F oM) ((SP.Only.of_below u.2.1 rfl s).trans F) p c;go_wp2_with fail
 refine(zL O H A D I (Holds.lt i.2.2.1 oM) i.2.2.1).mono ?_;rintro e E ⟨v,rfl,b,rfl⟩;have q:=mk3 (i.1.below b) (i.2.1.trans (SP.Only.of_below b rfl (Uz s i.2.1.size))) (Holds.below i.2.2.2 b z);obtain⟨m,G⟩:=hE (oS N A);rw[G.out];obtain⟨C,o⟩:=hE (E.setCells (w.heap.size+1) 0 (wn m));have x:Hid (Row C (w.heap.size+1) (wn m)/\SP.Only r 0 32 w C/\Holds encB C r 0 t):=by
  rw[<-o.out];refine⟨q.1.put rfl,dX q.2.1 s oM _,λj n=>?_⟩;have e:=aH (w.heap.size+1) (wn m) 0 E r oM;rw[U0 (a:=⟨r,0+j,none⟩) e,VR (a:=⟨r,0+j,none⟩) e];exact q.2.2 j n
 obtain⟨P,n⟩:=hE (nv m);rw[n.out];go_wp2_with (refine U3 rfl 49 _ _ rfl (w.heap.size+1) 0 (wn m).toArray ?_ ?_ ?_ ?_ ?_ ?_;rfl;exact n.symm;exact q.1.2.2;exact i40;exact aM m;rw[show(wn m).toArray.toList=wn m from rfl,o.out])
 refine UH (aG 4 49 rfl x.1 rfl u40 i40) rfl ?_;exact⟨_,rfl,x.2.1,x.2.2,by rw[G.out];rfl⟩
theorem aV{W W':Ut}{k:Nat}(h:Row W k vs)(c:W.heap.size<=W'.heap.size)(e:W'.heap[k]? = W.heap[k]?):Row W' k vs:=
 ⟨Uz h.1 c,λj v b=>by rw[U0 (a:=⟨k,0+j,none⟩) e];exact h.2.1 j v b,λj b=>by rw[U0 (a:=⟨k,0+j,none⟩) e,VR (a:=⟨k,0+j,none⟩) e];exact h.2.2 j b⟩
structure Wk(w W:Ut)(k7 r:Nat)(L:Bs):Prop where
 bl:kZ w W
 r7:Row W k7 [jZ r]
 lg:Holds encB W r 0 L
 lr:w.heap.size<=r
 n7:k7≠r
theorem uS4:prog.underlying 124=some (.slice 49):=kR
theorem iS4:(prog.info? 49).map (λi=>(i.size,decide (i.bytes<=4000),i.zero.isSome))=some (4,true,true):=kR
end
section
open Go.RowKit Go.Sort Go.Deep
variable {Q Q':Nat->Prop}{W W':Ut}{v:Uv}{l:List (Nat × Bs)}{n:Nat}
structure Kq(Q:Nat->Prop)(W W':Ut):Prop where
 size:W.heap.size<=W'.heap.size
 block:∀g,Q g->g<W.heap.size->W'.heap[g]? = W.heap[g]?
theorem Kq.of_below(k:kZ W W'):Kq Q W W':=⟨k.size,λg _ h=>k.block g h⟩
theorem Kq.of_only{r o m:Nat}(k:SP.Only r o m W W')(b:∀g,Q g->g≠r):Kq Q W W':=⟨k.size,λg c d=>k.block g d (b g c)⟩
theorem Kq.range{g o:Nat}(h:Kq Q W W')(b:Q g)(k:g<W.heap.size)(c:W.rangeAt g o vs):W'.rangeAt g o vs:=λj v d=>by
 rw[U0 (a:=⟨g,o+j,none⟩) (h.block g b k)];exact c j v d
theorem Kq.cell{g o:Nat}{x:Uv}(h:Kq Q W W')(b:Q g)(k:g<W.heap.size)(c:W.cell? ⟨g,o,none⟩=some x):W'.cell? ⟨g,o,none⟩=some x:=by
 rw[U0 (a:=⟨g,o,none⟩) (h.block g b k)];exact c
def SmQ(Q:Nat->Prop)(W:Ut)(v:Uv)(l:List (Nat × Bs)):Prop:=∃g c,v=sZ g l.length c/\l.length<=c/\Q g/\g<W.heap.size/\W.rangeAt g 0 (aU l)
theorem SmQ.sm(h:SmQ Q W v l):Sm 0 W v l:=by
 obtain⟨g,c,b,d,-,k⟩:=h;exact⟨g,c,b,d,Wz _,k⟩
theorem Sm.q(h:Sm B W v l):SmQ (B<=·) W v l:=h
theorem SmQ.mono(h:SmQ Q W v l)(b:∀g,Q g->Q' g):SmQ Q' W v l:=by
 obtain⟨g,c,e,f,d,k⟩:=h;exact⟨g,c,e,f,b g d,k⟩
theorem SmQ.keep(h:SmQ Q W v l)(b:Kq Q W W'):SmQ Q W' v l:=by
 obtain⟨g,c,f,i,d,k,e⟩:=h;exact⟨g,c,f,i,d,Uz k b.size,b.range d k e⟩
def SLq(Q:Nat->Prop)(W:Ut)(v:Uv)(n:Nat)(a:Nat->Nat):Prop:=∃g o c,v=.slice (some ⟨g,o,none⟩) n c/\n<=c/\Q g/\g<W.heap.size/\∀j,j<n->W.rangeAt g (o+4*j) (wn (a j))
theorem SLq.mono{a:Nat->Nat}(h:SLq Q W v n a)(b:∀g,Q g->Q' g):SLq Q' W v n a:=by
 obtain⟨g,o,c,e,f,d,k⟩:=h;exact⟨g,o,c,e,f,b g d,k⟩
theorem SLq.keep{a:Nat->Nat}(h:SLq Q W v n a)(b:Kq Q W W'):SLq Q W' v n a:=by
 obtain⟨g,o,c,i,l,d,k,e⟩:=h;exact⟨g,o,c,i,l,d,Uz k b.size,λj f=>b.range d k (e j f)⟩
theorem SLq.congr{a b:Nat->Nat}(h:SLq Q W v n a)(e:∀j,j<n->a j=b j):SLq Q W v n b:=by
 obtain⟨g,o,c,l,m,i,d,f⟩:=h;exact⟨g,o,c,l,m,i,d,λj k=>by rw[<-e j k];exact f j k⟩
def GLq(Q:Nat->Prop)(W:Ut)(v:Uv)(n:Nat)(T:Nat->List (Nat × Bs)):Prop:=∃g o c,v=.slice (some ⟨g,o,none⟩) n c/\n<=c/\Q g/\g<W.heap.size/\∀j,j<n->∃x,W.cell? ⟨g,o+j,none⟩=some x/\SmQ Q W x (T j)
theorem GLq.mono{T:Nat->List (Nat × Bs)}(h:GLq Q W v n T)(k:∀g,Q g->Q' g):GLq Q' W v n T:=by
 obtain⟨g,o,c,m,p,l,d,e⟩:=h;refine⟨g,o,c,m,p,k g l,d,λj f=>?_⟩;obtain⟨x,i,b⟩:=e j f;exact⟨x,i,b.mono k⟩
theorem GLq.keep{T:Nat->List (Nat × Bs)}(h:GLq Q W v n T)(k:Kq Q W W'):GLq Q W' v n T:=by
 obtain⟨g,o,c,m,p,d,b,f⟩:=h;refine⟨g,o,c,m,p,d,Uz b k.size,λj i=>?_⟩;obtain⟨x,l,e⟩:=f j i;exact⟨x,k.cell d b l,e.keep k⟩
structure GRq(Q:Nat->Prop)(W:Ut)(v:Uv)(n:Nat)(G H:Nat->List (Nat × Bs))(U:List (Nat × Bs)):Prop where
 ex:∃vg vh vu,v=.agg #[vg,vh,vu]/\GLq Q W vg n G/\GLq Q W vh n H/\SmQ Q W vu U
theorem GRq.mono{G:Nat->List (Nat × Bs)}(h:GRq Q W v n G H U)(k:∀g,Q g->Q' g):GRq Q' W v n G H U:=by
 obtain⟨d,e,c,i,j,f,b⟩:=h.ex;exact⟨d,e,c,i,j.mono k,f.mono k,b.mono k⟩
theorem GRq.keep{G:Nat->List (Nat × Bs)}(h:GRq Q W v n G H U)(k:Kq Q W W'):GRq Q W' v n G H U:=by
 obtain⟨d,e,c,g,i,f,b⟩:=h.ex;exact⟨d,e,c,g,i.keep k,f.keep k,b.keep k⟩
structure TOk(N:Nat)(l:List (Nat × Bs)):Prop where
 sz:∀x∈l,x.2.size=33
 lt:∀x∈l,x.1<N
theorem TOk.szm{N:Nat}(h:TOk N l):∀x∈l.map (·.2),x.size=33:=λx hx=>by
 obtain⟨y,k,rfl⟩:=Vn.1 hx;exact h.sz y k
theorem TOk.app{N:Nat}{m:List (Nat × Bs)}(h:TOk N l)(k:TOk N m):TOk N (l++m):=⟨λx hx=>(Ww.1 hx).elim (h.sz x) (k.sz x),λx hx=>(Ww.1 hx).elim (h.lt x) (k.lt x)⟩
theorem TOk.tm{N:Nat}(c:0<N)(h:TOk N l)(k:Nat):TOk N (l.map (tmT N k)):=⟨λx hx=>by
 obtain⟨y,b,rfl⟩:=Vn.1 hx;exact h.sz y b,λx hx=>by
 obtain⟨y,b,rfl⟩:=Vn.1 hx;exact V6 _ c⟩
theorem TOk.nil{N:Nat}:TOk N []:=⟨λ_ h=>(U1 h).elim,λ_ h=>(U1 h).elim⟩
theorem Tl.ok{P:Nat}[NeZero P]{N:Nat}{X:OnP P}(h:Tl N l X):TOk N l:=⟨λx hx=>by
 obtain⟨X,-,e⟩:=h.pts x hx;rw[e];exact aT _,h.lt⟩
theorem oH{N:Nat}(k:0<N){a:Nat->Nat}{T:Nat->List (Nat × Bs)}:∀n,(∀i,i<n->TOk N (T i))->TOk N (dJ N a T n)
 | 0,_=>TOk.nil
 | n+1,h=>(oH k n λi b=>h i oM).app ((h n oM).tm k _)
end
namespace RG
open Go Go.RowKit
variable {P:VD}{ops:Array Vk}{Q:X9->Act->Ut->Prop}{w:Ut}{a0:Act}{F:Flow}
def chain(k:Array Vk)(n:Nat):Bool:=(VB k.size).all (λi=>decide (i<n) || (VB i).all (λj=>depOn k i j))
theorem Ah{n i j:Nat}(h:chain ops n=true)(d:n<=i)(b:i<ops.size)(c:j<i):depOn ops i j=true:=by
 have k:=Va.1 h i (VS.2 b);rw[WV,decide_eq_true_eq]at k;rcases k with k|k
 ·omega
 ·exact Va.1 k j (VS.2 c)
theorem eM{L:Array Bool}{i j:Nat}{o:Vk}(ho:ops[i]? = some o)(k:∀e∈o.after,VM .any e=true->on L e.on=true)(c:depOn ops i j=true):on L j=true:=by
 unfold depOn at c;rw[ho]at c;obtain⟨e,d,b⟩:=Xs.1 c;simp only[UN,beq_iff_eq]at b;have:=k e d b.1;rw[b.2]at this;exact this
theorem Ib{n:Nat}(D:chain ops n=true)(v:∀(i:Nat) (o:Vk),ops[i]? = some o->∀e∈o.after,VM .any e=true->e.on<i):∀(c:Nat) (L:Array Bool) (a:Act) (w:Ut) (m:Nat),n<=m->m<=ops.size->L.size=ops.size->(∀j,on L j=true↔j<m)->unl L=c->wpList P ops Q (ops.toList.drop m) a w->wpAny P .any ops Q c L a w:=by
 intro c;induction c with
 | zero =>
  intro L a w m z x t k A h;have q:m=ops.size:=by
   rcases VV m ops.size with d|d
   ·have:=gU A m oM;rw[k]at this;omega
   ·omega
  rw[q,<-UL,ZZ]at h;refine⟨?_,h⟩;apply YE.2;intro i r;obtain⟨d,o,ho,-⟩:=mem_ready.1 r;have f:=(k i).2 (by rw[q];exact(UY.1 ho).1);unfold on at f;rw[UJ]at d f;cases hh:L[i]? with
  | none=>rw[hh]at d;cases d
  | some b=>rw[hh]at d f;rw[show b=false from d]at f;cases f
 | succ c ih =>
  intro L a w m z x t k A h;have s:∀i,i∈U7 .any ops L->i=m:=λi r=>by
   obtain⟨d,o,ho,p⟩:=mem_ready.1 r;have g:on L i=false:=by
    unfold on;rw[UJ]at d⊢;cases hh:L[i]? with
    | none=>rfl
    | some b=>rw[hh]at d;exact d
   have l:=(UY.1 ho).1;rcases Nat.lt_trichotomy i m with f|f|f
   ·rw[(k i).2 f]at g;cases g
   ·exact f
   ·have:=(k m).1 (eM ho p (Ah D oM l f));omega
  refine⟨λC=>?_,λi r=>?_⟩
  ·rcases VV m ops.size with d|d
   ·exfalso;have ho:ops[m]? = some ops[m]:=UZ _;have g:on L m=false:=by
     cases u:on L m with
     | false=>rfl
     | true=>have:=(k m).1 u;omega
    have:m∈U7 .any ops L:=mem_ready.2 ⟨?_,_,ho,λe y u=>(k e.on).2 (v m _ ho e y u)⟩
    ·rw[C]at this;cases this
    ·unfold on at g;rw[UJ,UZ (by rw[t];exact d)]at g⊢;exact g
   ·have q:m=ops.size:=oM;rw[q,<-UL,ZZ]at h;exact h
  ·obtain rfl:=s i r;obtain⟨d,o,ho,p⟩:=mem_ready.1 r;have l:=(UY.1 ho).1;have g:ops.toList.drop i=o :: ops.toList.drop (i+1):=by
    rw[yAe (by rw[UL];exact l)];have:ops.toList[i]? = some o:=by rw[Vt];exact ho
    rw[UI (by rw[UL];exact l)]at this;rw[UP.inj this]
   rw[g]at h;have y:wpOp P ops Q i (λu w'=>wpList P ops Q (ops.toList.drop (i+1)) u w') a w:=by
    unfold wpOp;rw[ho];exact h
   refine X8 (λu w' B=>ih _ u w' (i+1) oM oM (by rw[Vz];exact t) (λj=>?_) (by have:=iO d;omega) B) y;rw[dD (by rw[t];omega)];constructor
   ·intro q;rw[WV]at q;rcases q with q|q
    ·have:=(k j).1 q;omega
    ·have:i=j:=by simpa using q
     omega
   ·intro q;by_cases f:j<i
    ·rw[(k j).2 f,XX]
    ·rw[show j=i by omega];simp
theorem GM(F:Flow)(n:Nat)(H:n<ops.size)(z:chain ops n=true)(G:P.follows .mixedOrders=true)(R:RegF P Q F ops a0 n)(C:∀b,F.B b w.drew)
 (v:∀(V:Nat->Uv) (w':Ut),(∀i,i<n->F.kill i=[]->F.R i (V i) w')->(∀b,F.killB b=[]->F.B b w')->wpList P ops Q (ops.toList.drop n) (bU V (ops.toList.take n) 0 a0) w'):(V3 id ops true).wp P Q a0 w:=by
 have s:∀(i:Nat) (o:Vk),ops[i]? = some o->∀e∈o.after,VM .any e=true->e.on<i:=λi o ho=>(R.of ho).1
 have key:∀(c:Nat) (L:Array Bool) (a:Act) (w:Ut),unl L=c->(∀j,n<=j->on L j=false)->InvF F ops a0 L a w->wpAny P .any ops Q c L a w:=by
  intro c;induction c with
  | zero =>
   intro L a w y k p;have:=gU y n (by rw[p.size];omega);rw[k n (Uy _)]at this;cases this
  | succ c ih =>
   intro L a w y k p;by_cases f:∀j,j<n->on L j=true
   ·have m:∀j,on L j=true↔j<n:=λj=>⟨λg=>(by
     rcases VV j n with h|h
     ·exact h
     ·rw[k j h]at g;cases g),f j⟩
    obtain⟨V,u,t⟩:=p.all;have B:=p.act R oM m u;have r:∀l:List Nat,l=[]->∀x∈l,on L x=false:=λl D x hx=>by rw[D]at hx;cases hx
    have q:=v V w (λj g A=>t j (f j g) (r _ A)) (λb E=>p.base b (r _ E));rw[<-B]at q;exact Ib z s _ L a w n (Uy _) oM p.size m y q
   ·refine⟨λB=>?_,λi D=>?_⟩
    ·exact absurd (λj g=>p.full R B j oM) f
    ·obtain⟨r,o,ho,m⟩:=mem_ready.1 D;have q:i<ops.size:=(UY.1 ho).1;have v:on L i=false:=by
      unfold on;rw[UJ]at r⊢;cases hh:L[i]? with
      | none=>rfl
      | some b=>rw[hh]at r;exact r
     have u:i<n:=by
      rcases VV i n with h|h
      ·exact h
      ·exact absurd (λj g=>eM ho m (Ah z h q oM)) f
     refine X8 (λA w' t=>ih _ A w' (by have:=iO r;omega) (λj g=>?_) t) (BM R u (λj g=>?_) ho v m p)
     ·rw[dD (by rw[p.size];exact q),k j g];simp only[Bool.false_or,beq_eq_false_iff_ne];omega
     ·rcases VV j n with h|h
      ·exact h
      ·rw[k j h]at g;cases g
 have k:∀i,on (UM ops.size false) i=false:=λi=>by
  unfold on;rw[UJ,Xu];by_cases h:i<ops.size
  ·rw[yCk h];rfl
  ·rw[yCl h];rfl
 refine Z5 G (key _ _ a0 _ ?_ (λj _=>k j) ⟨UO,(λi o _ h=>by rw[k]at h;cases h),rfl,rfl,λ_ _=>rfl,⟨λ_=>WJ,λi d h=>(by rw[k]at h;cases h),λi h=>(by rw[k]at h;cases h)⟩,λb _=>C b⟩);unfold unl;rw[XT,Zk];simp
end RG
namespace RG
open Go Go.RowKit
structure S1 where
 p:Uv->Ut->Prop
 st:∀v w w',kZ w w'->p v w->p v w'
def pE(v:Uv):S1:=⟨λx _=>x=v,λ_ _ _ _ h=>h⟩
def pA:S1:=⟨λ_ _=>True,λ_ _ _ _ h=>h⟩
def pM(Q:Nat->Prop)(l:List (Nat × Bs)):S1:=⟨λv w=>SmQ Q w v l,λ_ _ _ k h=>h.keep (Kq.of_below k)⟩
def pS(Q:Nat->Prop)(n:Nat)(a:Nat->Nat):S1:=⟨λv w=>SLq Q w v n a,λ_ _ _ k h=>h.keep (Kq.of_below k)⟩
def pG(Q:Nat->Prop)(n:Nat)(T:Nat->List (Nat × Bs)):S1:=⟨λv w=>GLq Q w v n T,λ_ _ _ k h=>h.keep (Kq.of_below k)⟩
def pR(Q:Nat->Prop)(n:Nat)(G H:Nat->List (Nat × Bs))(U:List (Nat × Bs)):S1:=⟨λv w=>GRq Q w v n G H U,λ_ _ _ k h=>h.keep (Kq.of_below k)⟩
def pI(T:Vb)(p:S1):S1:=⟨λv w=>∃x,v=.iface T x/\p.p x w,λ_ w w' k ⟨x,b,c⟩=>⟨x,b,p.st x w w' k c⟩⟩
def pN(B:Nat)(cs:List Uv):S1:=⟨λv w=>∃k,v=jZ k/\B<=k/\Row w k cs,λ_ _ _ b ⟨k,d,e,c⟩=>⟨k,d,e,c.below b⟩⟩
def nth:List S1->Nat->S1
 | [],_=>pA
 | x :: _,0=>x
 | _ :: r,k+1=>nth r k
def gwL(L:List S1)(B:Ut->Prop)(k:∀w w',kZ w w'->B w->B w'):Gw:=⟨λi=>(nth L i).p,B,λi=>(nth L i).st,k⟩
variable {P:VD}{ops:Array Vk}{Q:X9->Act->Ut->Prop}{w:Ut}{a0:Act}{G:Gw}{k:Nat}{o:Vk}
theorem Jp(b:List (WF × Uv))(v:Uv)(d:∀a W,PreG G ops a0 k o a W->AllE a b)(hR:∀W,G.R k v W)(c:∀W,(dA (b.map (·.1)) o,(U9 (evo (evl b)) o).run P W)=(true,.ok (.value v) W):=by intro _;kernel_rfl):bF P Q G.flow ops a0 k o:=
 bN λa W e=>⟨b,v,W,d a W e,c W,UT _ _,hR W⟩
theorem RX(t:WF)(v b:Uv)(e:a0.eval (.tmp t)=v)(hR:∀W,G.R k b W)(hf:oY ops k t=true:=by kernel_rfl)(c:∀W,(dA [t] o,(U9 (evo (evl [(t,v)])) o).run P W)=(true,.ok (.value b) W):=by intro _;kernel_rfl):bF P Q G.flow ops a0 k o:=
 Jp [(t,v)] b (λa W d=>⟨(d.o t hf).trans e,yCm⟩) hR c
theorem rE(j:Nat)(t:WF)(v b:Uv)(e:∀x W,G.R j x W->x=v)(hR:∀W,G.R k b W)(hd:(dB o j,aX ops j)=(true,some t):=by kernel_rfl)(c:∀W,(dA [t] o,(U9 (evo (evl [(t,v)])) o).run P W)=(true,.ok (.value b) W):=by intro _;kernel_rfl):bF P Q G.flow ops a0 k o:=
 Jp [(t,v)] b (λa W d=>⟨e _ W (d.n j t (congrArg ZG hd) (congrArg ZF hd)),yCm⟩) hR c
theorem DV(j:Nat)(t:WF)(f:Uv->Uv)(hR:∀x W,G.R j x W->G.R k (f x) W)(hd:(dB o j,aX ops j)=(true,some t):=by kernel_rfl)(b:∀v W,(dA [t] o,(U9 (evo (evl [(t,v)])) o).run P W)=(true,.ok (.value (f v)) W):=by intro _ _;kernel_rfl):bF P Q G.flow ops a0 k o:=
 bN λa W c=>⟨[(t,a.eval (.tmp t))],_,W,⟨rfl,yCm⟩,b _ W,UT _ _,hR _ W (c.n j t (congrArg ZG hd) (congrArg ZF hd))⟩
theorem A4(j:Nat)(t:WF)(c:Nat)(b:WF)(v u e:Uv)(I:Sem Uv)(l:∀W,I.run P W=.ok e W)(i:∀x W,G.R j x W->x=v)(f:∀x W,G.R c x W->x=u)(hR:∀W,G.R k e W)(hd:((dB o j,aX ops j),(dB o c,aX ops c))=((true,some t),(true,some b)):=by kernel_rfl)(d:(dA [t,b] o,U9 (evo (evl [(t,v),(b,u)])) o)=(true,I >>= λv=>pure (Xq v)):=by kernel_rfl):bF P Q G.flow ops a0 k o:=
 bN λa W g=>⟨[(t,v),(b,u)],e,W,⟨i _ W (g.n j t (congrArg (·.1.1) hd) (congrArg (·.1.2) hd)),f _ W (g.n c b (congrArg (·.2.1) hd) (congrArg (·.2.2) hd)),yCm⟩,by
  rw[We.injEq]at d⊢;refine⟨d.1,?_⟩;rw[d.2,UW,l W];rfl,UT _ _,hR W⟩
theorem DU(j:Nat)(t:WF)(v c:Uv)(I:Sem Uv)(f:∀W,I.run P W=.ok c W)(e:∀x W,G.R j x W->x=v)(hR:∀W,G.R k c W)(hd:(dB o j,aX ops j)=(true,some t):=by kernel_rfl)(b:(dA [t] o,U9 (evo (evl [(t,v)])) o)=(true,I >>= λv=>pure (Xq v)):=by kernel_rfl):bF P Q G.flow ops a0 k o:=
 bN λa W d=>⟨[(t,v)],c,W,⟨e _ W (d.n j t (congrArg ZG hd) (congrArg ZF hd)),yCm⟩,by
  rw[We.injEq]at b⊢;refine⟨b.1,?_⟩;rw[b.2,UW,f W];rfl,UT _ _,hR W⟩
theorem fG(T:Vb)(j:Nat)(t:WF)(g off:Nat)(x:Uv)(f:(P.underlying T).map (·.isRow)=some false)(e:∀x W,G.R j x W->x=oZ g off)(d:∀W,G.B W->W.cell? ⟨g,off,none⟩=some x)(hR:∀W,G.R k x W)(hd:(dB o j,aX ops j)=(true,some t):=by kernel_rfl)(ho:o.op=.load T (.tmp t):=by rfl):bF P Q G.flow ops a0 k o:=
 mG λa W b=>by
  have c:=rX b;refine⟨x,W,?_,UT _ _,hR W⟩;unfold U9;rw[ho];dsimp only;rw[e _ W (c.n j t (congrArg ZG hd) (congrArg ZF hd)),UW,fE (d W c.b) f];rfl
theorem RY(T:Vb)(j:Nat)(t:WF)(g off:Nat)(cs:List Uv)(f:(P.underlying T).map (·.isRow)=some true)(e:(P.info? T).map (·.size)=some cs.length)(d:∀x W,G.R j x W->x=oZ g off)(c:∀W,G.B W->W.rangeAt g off cs)(hR:∀W,G.R k (.agg cs.toArray) W)(hd:(dB o j,aX ops j)=(true,some t):=by kernel_rfl)(ho:o.op=.load T (.tmp t):=by rfl):bF P Q G.flow ops a0 k o:=
 iW T t ho f λa W b=>⟨g,off,cs,d _ W (b.n j t (congrArg ZG hd) (congrArg ZF hd)),c W b.b,e,hR W⟩
theorem iE(T:Vb)(t:WF)(g off:Nat)(cs:List Uv)(e:(P.underlying T).map (·.isRow)=some true)(d:(P.info? T).map (·.size)=some cs.length)(f:a0.eval (.tmp t)=oZ g off)(c:∀W,G.B W->W.rangeAt g off cs)(hR:∀W,G.R k (.agg cs.toArray) W)(hf:oY ops k t=true:=by kernel_rfl)(ho:o.op=.load T (.tmp t):=by rfl):bF P Q G.flow ops a0 k o:=
 iW T t ho e λa W b=>⟨g,off,cs,(b.o t hf).trans f,c W b.b,d,hR W⟩
theorem PK(T:Vb)(t:WF)(g off:Nat)(x:Uv)(e:(P.underlying T).map (·.isRow)=some false)(f:a0.eval (.tmp t)=oZ g off)(d:∀W,G.B W->W.cell? ⟨g,off,none⟩=some x)(hR:∀W,G.R k x W)(hf:oY ops k t=true:=by kernel_rfl)(ho:o.op=.load T (.tmp t):=by rfl):bF P Q G.flow ops a0 k o:=
 mG λa W b=>by
  have c:=rX b;refine⟨x,W,?_,UT _ _,hR W⟩;unfold U9;rw[ho];dsimp only;rw[c.o t hf,f,UW,fE (d W c.b) e];rfl
theorem xO(cs:List Uv)(T:Vb)(hR:∀W W':Ut,Row W' W.heap.size cs->G.B W->G.R k (jZ W.heap.size) W')(b:∀W,(dA [] o,(U9 (evo (evl [])) o).run P W)=(true,.ok (.value (jZ W.heap.size)) (W.alloc (.cells cs.toArray T))):=by intro _;kernel_rfl):bF P Q G.flow ops a0 k o:=
 bN λa W c=>⟨[],_,_,trivial,b W,aC W _,hR W _ (aE W cs T) c.b⟩
theorem NR(f:Xl)(args:Array Uv)(b:∀W,G.B W->UK P f args W (rZ W λe W'=>G.R k e W'))(c:∀W,(dA [] o,(U9 (evo (evl [])) o).run P W)=(true,.ok (.enter f args) W):=by intro _;kernel_rfl):bF P Q G.flow ops a0 k o:=
 gK λa W d=>⟨[],f,args,trivial,c W,b W d.b⟩
theorem oW(j:Nat)(t:WF)(f:Xl)(args:Uv->Array Uv)(c:∀x W,G.R j x W->G.B W->UK P f (args x) W (rZ W λe W'=>G.R k e W'))(hd:(dB o j,aX ops j)=(true,some t):=by kernel_rfl)(d:∀x W,(dA [t] o,(U9 (evo (evl [(t,x)])) o).run P W)=(true,.ok (.enter f (args x)) W):=by intro _ _;kernel_rfl):bF P Q G.flow ops a0 k o:=
 gK λa W b=>⟨[(t,a.eval (.tmp t))],f,_,⟨rfl,yCm⟩,d _ W,c _ W (b.n j t (congrArg ZG hd) (congrArg ZF hd)) b.b⟩
theorem eD(j:Nat)(t:WF)(c:Nat)(b:WF)(f:Xl)(args:Uv->Uv->Array Uv)(g:∀x y W,G.R j x W->G.R c y W->G.B W->UK P f (args x y) W (rZ W λe W'=>G.R k e W'))(hd:((dB o j,aX ops j),(dB o c,aX ops c))=((true,some t),(true,some b)):=by kernel_rfl)(i:∀x y W,(dA [t,b] o,(U9 (evo (evl [(t,x),(b,y)])) o).run P W)=(true,.ok (.enter f (args x y)) W):=by intro _ _ _;kernel_rfl):bF P Q G.flow ops a0 k o:=
 gK λa W d=>⟨[(t,a.eval (.tmp t)),(b,a.eval (.tmp b))],f,_,⟨rfl,rfl,yCm⟩,i _ _ W,g _ _ W (d.n j t (congrArg (·.1.1) hd) (congrArg (·.1.2) hd)) (d.n c b (congrArg (·.2.1) hd) (congrArg (·.2.2) hd)) d.b⟩
theorem rF(j:Nat)(t:WF)(i:Nat)(d:WF)(c:Nat)(b:WF)(f:Xl)(args:Uv->Uv->Uv->Array Uv)(m:∀x y z W,G.R j x W->G.R i y W->G.R c z W->G.B W->UK P f (args x y z) W (rZ W λe W'=>G.R k e W'))(hd:((dB o j,aX ops j),(dB o i,aX ops i),(dB o c,aX ops c))=((true,some t),(true,some d),(true,some b)):=by kernel_rfl)(l:∀x y z W,(dA [t,d,b] o,(U9 (evo (evl [(t,x),(d,y),(b,z)])) o).run P W)=(true,.ok (.enter f (args x y z)) W):=by intro _ _ _ _;kernel_rfl):bF P Q G.flow ops a0 k o:=
 gK λa W g=>⟨[(t,a.eval (.tmp t)),(d,a.eval (.tmp d)),(b,a.eval (.tmp b))],f,_,⟨rfl,rfl,rfl,yCm⟩,l _ _ _ W,m _ _ _ W (g.n j t (congrArg (·.1.1) hd) (congrArg (·.1.2) hd)) (g.n i d (congrArg (·.2.1.1) hd) (congrArg (·.2.1.2) hd)) (g.n c b (congrArg (·.2.2.1) hd) (congrArg (·.2.2.2) hd)) g.b⟩
theorem oV(T:Vb)(j:Nat)(t:WF)(c:Nat)(b:WF)(p:S1)(f:Xl)(l:∀x W,G.R j x W->(pI T p).p x W)(i:∀x y W,p.p x W->G.R c y W->G.B W->UK P f #[x,y] W (rZ W λe W'=>G.R k e W'))(hd:((dB o j,aX ops j),(dB o c,aX ops c))=((true,some t),(true,some b)):=by kernel_rfl)(g:∀x y W,(dA [t,b] o,(U9 (evo (evl [(t,.iface T x),(b,y)])) o).run P W)=(true,.ok (.enter f #[x,y]) W):=by intro _ _ _;kernel_rfl):bF P Q G.flow ops a0 k o:=
 gK λa W d=>by
  obtain⟨x,e,hx⟩:=l _ W (d.n j t (congrArg (·.1.1) hd) (congrArg (·.1.2) hd));exact⟨[(t,.iface T x),(b,a.eval (.tmp b))],f,_,⟨e,rfl,yCm⟩,g _ _ W,i _ _ W hx (d.n c b (congrArg (·.2.1) hd) (congrArg (·.2.2) hd)) d.b⟩
end RG
namespace RG
open Go Go.RowKit
variable {P:VD}{ops:Array Vk}{Q:X9->Act->Ut->Prop}{w:Ut}{a0:Act}{G:Gw}{k:Nat}{o:Vk}{T:Vb}{g off:Nat}{cs:List Uv}{v u v' z:Uv}{I:Sem Uv}{f:Xl}{t:WF}
theorem gO(t:WF)(v:Uv)(c:a0.eval (.tmp t)=v:=by kernel_rfl)(hR:∀W,G.R k v W:=by exact λ_=>rfl)(hf:oY ops k t=true:=by kernel_rfl)(b:∀W,(dA [t] o,(U9 (evo (evl [(t,v)])) o).run P W)=(true,.ok (.value v) W):=by intro _;kernel_rfl):bF P Q G.flow ops a0 k o:=RX t v v c hR hf b
theorem gP(t:WF)(v b:Uv)(d:a0.eval (.tmp t)=v:=by kernel_rfl)(hR:∀W,G.R k b W:=by exact λ_=>rfl)(hf:oY ops k t=true:=by kernel_rfl)(c:∀W,(dA [t] o,(U9 (evo (evl [(t,v)])) o).run P W)=(true,.ok (.value b) W):=by intro _;kernel_rfl):bF P Q G.flow ops a0 k o:=RX t v b d hR hf c
theorem gLo(t:WF)(b:∀W,G.B W->W.rangeAt g off cs)(d:(P.underlying T).map (·.isRow)=some true)(c:(P.info? T).map (·.size)=some cs.length)(e:a0.eval (.tmp t)=oZ g off:=by kernel_rfl)(hR:∀W,G.R k (.agg cs.toArray) W:=by exact λ_=>rfl)(hf:oY ops k t=true:=by kernel_rfl)(ho:o.op=.load T (.tmp t):=by rfl):bF P Q G.flow ops a0 k o:=iE T t g off cs d c e b hR hf ho
theorem gLr(j:Nat)(t:WF)(b:∀W,G.B W->W.rangeAt g off cs)(e:(P.underlying T).map (·.isRow)=some true)(d:(P.info? T).map (·.size)=some cs.length)(c:∀x W,G.R j x W->x=oZ g off:=by exact λ_ _ h=>h)(hR:∀W,G.R k (.agg cs.toArray) W:=by exact λ_=>rfl)(hd:(dB o j,aX ops j)=(true,some t):=by kernel_rfl)(ho:o.op=.load T (.tmp t):=by rfl):bF P Q G.flow ops a0 k o:=RY T j t g off cs e d c b hR hd ho
theorem gX(j:Nat)(t:WF)(b:Nat)(c:WF)(g:∀W,I.run P W=.ok v' W)(f:∀x W,G.R j x W->x=v:=by exact λ_ _ h=>h)(d:∀x W,G.R b x W->x=u:=by exact λ_ _ h=>h)(hR:∀W,G.R k v' W:=by exact λ_=>rfl)(hd:((dB o j,aX ops j),(dB o b,aX ops b))=((true,some t),(true,some c)):=by kernel_rfl)(e:(dA [t,c] o,U9 (evo (evl [(t,v),(c,u)])) o)=(true,I >>= λv=>pure (Xq v)):=by kernel_rfl):bF P Q G.flow ops a0 k o:=A4 j t b c v u v' I g f d hR hd e
theorem gC2(j:Nat)(t:WF)(b:Nat)(c:WF)(n:∀W,UK P f #[v,u] W (rZ W λe W'=>e=v'))(l:∀x W,G.R j x W->x=v:=by exact λ_ _ h=>h)(d:∀x W,G.R b x W->x=u:=by exact λ_ _ h=>h)(hR:∀W,G.R k v' W:=by exact λ_=>rfl)(hd:((dB o j,aX ops j),(dB o b,aX ops b))=((true,some t),(true,some c)):=by kernel_rfl)(g:∀x y W,(dA [t,c] o,(U9 (evo (evl [(t,x),(c,y)])) o).run P W)=(true,.ok (.enter f #[x,y]) W):=by intro _ _ _;kernel_rfl):bF P Q G.flow ops a0 k o:=
 eD j t b c f (λx y=>#[x,y]) (λx y W i m _=>by
  rw[l x W i,d y W m];refine(n W).mono ?_;rintro e W' ⟨a,rfl,p,rfl⟩;exact⟨_,rfl,p,hR W'⟩) hd g
end RG
section
open Go.RowKit Go.Sort Go.Deep
def hf(n:Nat):Nat:=2^Nat.log2 (n-1)
end
section
open Go.RowKit Go.Sort Go.Deep
variable {P:Nat}[NeZero P]{N:Nat}
def iC(n:Nat):Bs:=#[bV n 16777216,bV n 65536,bV n 256,bV n 1]
theorem IP{w:Ut}{r n:Nat}(h:Holds encB w r 0 (iC n)):PartOk w (sZ r 4 4) (iC n).toList:=
 ⟨_,r,0,4,iC n,rfl,rfl,Uy _,VX rfl,U2 ⟨rfl,h⟩⟩
theorem Mz:Gives 70 #[uZ 1] (nv 1):=by
 intro w;go_enter func70,ntmps70;refine RG.M.enter [(0,.v (uZ 1))] 6 kR ?_;intro a0 d;repeat refine UC ?_
 refine d.T [.m 0] [(0,RG.z 4)] [] [RG.z 4] [0,2] ⟨mk 0 49,yCm⟩ ?_;intro k g e c;repeat refine UC ?_
 refine c.T [.x (uZ 1),.x (nv 1),.x (nv 1),.u 0] [] [(0,3,wn 1)] [wn 1] [2] ⟨st,st,st,RG.pt i40,yCm⟩ ?_;intro a2 f b;refine Wy ?_;refine UH (v:=nv 1) (aI b.st 2 49 rfl 0 _ rfl (b.at (s:=(.p 0 0))) u40 i40) b.sl.defers ?_;exact⟨_,rfl,b.st.bel.below,rfl⟩
def tY(a:Nat):Nat:=if a=0 then 1 else a
theorem Ms(O:Ord N){a:Nat}(m:a<N):Gives 210 #[nv a] (nv (tY a)):=by
 intro w;have f:=Uz m O.le;have g:∀w:Ut,(binOp .eql 49 (nv a) (nv 0)).run prog w=.ok (.bool (decide (a=0))) w:=λw=>eqS f (show 0<top by unfold top;omega) w
 obtain⟨d,hd⟩:=hE (decide (a=0));rw[hd.out]at g;go_enter func210,ntmps210;refine RG.M.enter [(0,.v (nv a))] 8 kR ?_;intro a0 n;repeat refine UC ?_
 refine n.T [.m 0,.m 1] [(0,wn a),(1,RG.z 4)] [] [wn a,RG.z 4] [1,2] ⟨mk 0 49,mk 1 49,yCm⟩ ?_;intro r p t q i;repeat refine UC ?_
 refine i.U [.x (nv a),.x (nv 0),.x (.bool d)] [1,2,5] ⟨ld u40 i40,st,aQ rfl .eql 49 49 3 4 (nv a) (nv 0) (.bool d) rfl rfl sx sx (λw=>kR) g,yCm⟩ ?_;intro a2 o b;cases d with
 | true =>
  refine VH b.ev ?_;have c:=of_decide_eq_true hd.out;have e:tY a=1:=by unfold tY;rw[yCk c]
  rw[e];repeat refine UC ?_
  refine b.T [.c (nv 1),.u 1] [] [(1,1,wn 1)] [wn a,wn 1] [2] ⟨cl Mz,RG.pt i40,yCm⟩ ?_;intro l j k;refine Wy ?_;refine UH (v:=nv 1) (aI k.st 2 49 rfl 1 _ rfl (k.at (s:=(.p 1 0))) u40 i40) k.sl.defers ?_;exact⟨_,rfl,k.st.bel.below,rfl⟩
 | false =>
  refine VJ b.ev ?_;have c:=of_decide_eq_false hd.out;have e:tY a=a:=by unfold tY;rw[yCl c]
  rw[e];refine WQ ?_;repeat refine UC ?_
  refine b.T [.x (nv a),.u 1] [] [(1,1,wn a)] [wn a,wn a] [2] ⟨ld u40 i40,RG.pt i40,yCm⟩ ?_;intro l j k;refine Wy ?_;refine UH (v:=nv a) (aI k.st 2 49 rfl 1 _ rfl (k.at (s:=(.p 1 0))) u40 i40) k.sl.defers ?_;exact⟨_,rfl,k.st.bel.below,rfl⟩
end
section
open Go.RowKit Go.Sort Go.Deep
section
variable {P:VD}{ops:Array Vk}{rest:List Vk}{op:Vk}{a:Act}{w w':Ut}{v:Uv}{Q:X9->Act->Ut->Prop}
theorem fW(c:op.guard=none)(k:Vb)(x y:XM)(ho:op.op=.store k x y)(b o:Nat)(v:Uv)(hx:a.eval x=oZ b o)(l:a.eval y=v)(hv:v.cells=#[v])(f:v.oneCell'=true)(g:w.there b o 1)(j:(P.info? k).map (·.size)=some 1)
 (h:wpList P ops Q rest (a.put op.dst WJ) (w.setCells b o [v])):wpList P ops Q (op :: rest) a w:=
 Xd c λ_ d=>by
  have i:=run_storeVar_mid (P:=P) w b o k #[v] g j (by simp[f]);have e:storeVar k ⟨b,o,none⟩ v=storeVar k ⟨b,o,none⟩ (.agg #[v]):=by
   unfold storeVar;rw[hv];rfl
  unfold VT U9;simp only[ho,hx,l,Instr.storeAt,Yy,UW,WA,Vr,e,i];exact d _ _ h
theorem rQ(k:op.guard=none)(s t:WF)(d:Array Vb)(ho:op.op=.call ⟨.value (.tmp s),#[.tmp t],d⟩)(f:Xl)(cap:Array Uv)(x:Uv)(b:a.eval (.tmp s)=.func (.func f) #[] cap)(hx:a.eval (.tmp t)=x)(hf:∀args W,(callFunc f args).run P W=.ok (.enter f args) W)
 {R:Uv->Ut->Prop}(i:UK P f (#[x]++cap) w (Ret R)) (h:∀v w',R v w'->wpList P ops Q rest (a.put op.dst v) w'):wpList P ops Q (op :: rest) a w:=
 Xd k λK c=>by
  have g:(U9 a.eval op).run P w=.ok (.enter f (#[x]++cap)) w:=by
   unfold U9;rw[ho];have e:(#[Operand.tmp t].map a.eval)=#[x]:=by simp[hx]
   simp only[resolve,b,Deferred.ofValue,UW,WA,Vr,invoke,e];exact hf _ w
  unfold VT;rw[g,WU];refine i.mono ?_;rintro e w' ⟨v,rfl,hR⟩;exact c _ _ (h v w' hR)
end
end
section
open Go.RowKit Go.Sort Go.Deep
variable {P:Nat}[NeZero P]{N:Nat}
theorem xB(n:Nat)(o:n<4294967296)(w:Ut):UK prog 200 #[iZ n] w (rZ w λe w'=>∃r,e=sZ r 4 4/\r<w'.heap.size/\Holds encB w' r 0 (iC n)):=by
 have k:(n:Int)/16777216%256=SP.ub (bV n 16777216):=jN n 16777216;have b0:(n:Int)/16777216=SP.ub (bV n 16777216):=oM;clear k;have b1:(n:Int)/65536%256=SP.ub (bV n 65536):=jN n 65536;have l:(n:Int)/256%256=SP.ub (bV n 256):=jN n 256;have m:(n:Int)%256=SP.ub (bV n 1):=xJ n;have c:=xN w (bV n 16777216) (bV n 65536) (bV n 256) (bV n 1);have j:Hid (iC n=#[bV n 16777216,bV n 65536,bV n 256,bV n 1]):=rfl;generalize bV n 16777216=i at *;generalize bV n 65536=g at *;generalize bV n 256=d at *;generalize bV n 1=f at *;have b:kZ w (w.alloc (.cells #[.int .u8 (SP.ub i),.int .u8 (SP.ub g),.int .u8 (SP.ub d),.int .u8 (SP.ub f)] 5)):=(UT _ _).alloc (Uy _) _;go_enter func200,ntmps200;go_wp2;go_ret;refine⟨_,rfl,b,_,rfl,by rw[UD];omega,?_⟩;rw[j.out];exact c
theorem AU(a:Bs)(j:a.size=33)(w:Ut):UK prog 135 #[pvl a] w (rZ w λe w'=>Sm w.heap.size w' e [(1,a)]):=by
 have l:=Hid.mk' (rL j w);obtain⟨g,f⟩:=hE (w.alloc (.cells (aA a).toArray 103));rw[f.out]at l;have K:Hid (Row g w.heap.size (aA a)/\kZ w g):=by rw[<-f.out];exact⟨aE w _ _,aC w _⟩
 obtain⟨va,d⟩:=hE (pvl a);have i:Hid ((Vh 103 va).run prog w=.ok (jZ w.heap.size) g):=by rw[<-d.out];exact l
 rw[d.out];go_enter func135,ntmps135;go_wp2_with (first|(refine aF (u:=va) (v:=jZ w.heap.size) (w':=g) rfl 103 (.tmp 0) rfl ?_ ?_ ?_;rfl;exact i.out)|fail)
 refine(gwL [pE (pvl a),pE (nv 1),pM (w.heap.size<=·) [(1,a)],pM (w.heap.size<=·) [(1,a)]] (λW=>Row W w.heap.size (aA a)/\kZ w W) (λW W' c h=>⟨h.1.below c,h.2.trans (c.mono h.2.size)⟩)).draws kR kR ⟨
  iE 103 1 w.heap.size 0 (aA a) uCP (by rw[aB j];exact cV) rfl (λW b=>b.1.2.1) (λ_=>rfl),
  NR 70 #[uZ 1] λW b=>(I1 W).mono (by
   rintro e W' ⟨u,rfl,c,rfl⟩;exact⟨_,rfl,c,rfl⟩),
  eD 0 3 1 4 64 (λx y=>#[x,y]) λx y W hx n b=>by
   obtain rfl:x=pvl a:=hx;obtain rfl:y=nv 1:=n;refine(kV a j 1 W).mono ?_;rintro e W' ⟨u,rfl,c,k,rfl,m,hR⟩;exact⟨_,rfl,c,Sm.one hR (UE b.2.size m) rfl⟩,
  DV 2 5 id λx W h=>h,yCm⟩ ⟨K.1,K.2.drew⟩ ?_
 intro V o hR b;have n:=mk1 (hR 3 (Xt (VX kR)));have m:=mk1 (b.2);dsimp only[bU,VO];go_wp2;go_ret;exact⟨_,rfl,m.out,n.out⟩
end
end Go.Proofs.YtdoammpgchejcaaGreat
