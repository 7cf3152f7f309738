import Derived.Deep.LoopGhost
import Derived.Deep.RegionHeld3
import Derived.KernelRfl
import Derived.Lib.SliceRun
import Derived.Deep.AppendSrc
import Derived.Lib.AppendZeros
import Derived.Lib.ConvBytes
import Derived.BigQuiet
import Derived.Lib.LazyBuf
import Derived.RangeFuncNested
import Derived.RangeFuncBound
import Derived.RangeFuncCalls
import Derived.RangeFuncLeaves
import Derived.Shelf.Abstract
import Derived.Shelf.RegionOpen
import Derived.WalkKit
import Derived.OwnWalkIn
import Derived.TacticsInMore
import Derived.LoopNIn
import Derived.LoopIn
import Derived.Deep.RegionWith
import Derived.Deep.CutRange
import Derived.Deep.DeepCutAuto
import Derived.Deep.OwnRows
import Derived.Test.YtndpeoebngkhmaaGreatsv3
set_option linter.unusedVariables false
set_option linter.defProp false
set_option linter.constructorNameAsVariable false
set_option linter.unusedSimpArgs false
set_option maxRecDepth 1000000
set_option maxHeartbeats 4000000
namespace Go.Proofs.YtndpeoebngkhmaaGreat
open _root_ renaming Array->R,Bool->Hc,ByteArray->Fd,Fin->B,Int->Y,List->G,Nat->I,Option->GJ,UInt8->Fk,rfl->Z
open Go.Proofs.YtndpeoebngkhmaaGreat renaming Fld->IO,Four->GS,Gives->FL,Kept->IS,Row->FJ,oM->S,uZ->U,yGP->GD,yGQ->Id,yGR->Fs
open Go.RowKit renaming Hid->E
open Go.Sort renaming Holds->FE
open _root_.Bool renaming false->D,true->H
open _root_.Option renaming none->F,some->J
open EC NT RG SP
open _root_.Array renaming any_eq_true'->yt,append_assoc->yFn,ext->yEQ,getD_eq_getD_getElem?->ZB,getElem?_append_left->yDo,getElem?_append_right->yEs,getElem?_eq_getElem->ZS,getElem?_eq_some_iff->ZO,getElem?_toList->qi,getElem_replicate->xh,getElem_toList->Bk,length_toList->ZE,map->yGD,map_append->yFE,map_replicate->yDR,mk->zi,replicate->ZA,size->yFt,size_append->pq,size_extract->yq,size_replicate->ZL,size_setIfInBounds->rh,toList_append->yDg
open _root_.BitVec renaming eq_of_getLsbD_eq->yEK,ofInt->yu,ofNat->AI
open _root_.Bool renaming and_eq_true->ZD,false_or->yE8,noConfusion->zd,or_eq_true->xj
open _root_.ByteArray renaming data_append->yDj
open _root_.Fin renaming ext->tj,ofNat->rz,val_mul->xt
open _root_.Go renaming Addr->gE,Calls->ae,Oper->Z4,Program->ai,TypeId->ZR,Value->Zm,World->Zl,bits_or_u64_nat->Bx,bodyPost_ret->Zx,execOp->Z0,run_make_row'->yD2,wpList_store_mid->ZZ,wpOp_mono->xm,wp_block->ay,wp_cond_false->Z2,wp_cond_true->Z6,wp_ret->ag,wp_seq->Zq,wp_skip->aw
open _root_.Go.Act renaming put->ah
open _root_.Go.Addr renaming add->ts
open _root_.Go.Builtin renaming append_->oT,copy_->zn,nextslicecap->yC0,zeroCells->wy
open _root_.Go.Calls renaming mono->yFl
open _root_.Go.Code renaming region->gH
open _root_.Go.Instr renaming indexAt->iB,makeSlice->ue,sureAddr->AJ
open _root_.Go.IntKind renaming i64->ZN,u64->cW,u8->yEY,wrap_i64->pk
open _root_.Go.IntWalk renaming i64_in->po
open _root_.Go.Lib renaming bytesCells->yDO,bytesWorld->yEJ,bytesWorld_size->yFq,wpList_append_run->uy
open _root_.Go.Oper renaming about->yGC,semAt_eq->yGf
open _root_.Go.OwnFrom renaming and->yF9
open _root_.Go.Question renaming cut->yFL
open _root_.Go.Region renaming binds->ml,ready->ZX
open _root_.Go.Result renaming andThen_ok->lp
open _root_.Go.RowKit.Below renaming refl->ZF
open _root_.Go.Sem renaming run_bind->ZK,run_pure->qj
open _root_.Go.Src renaming ofSlice->yGB
open _root_.Go.Value renaming agg->ZM,int->gM
open _root_.Go.World renaming alloc->pn,block_lt_of_cell?->vj,cell?->yy,cell?_alloc_new->oX,cell?_of_block->ZP,cell?_setCell_same->yDy,freeze->yEW,frozen?->yDW,frozen?_alloc_new->xn,frozen?_of_block->sI,frozen?_setCell->AT,setCell->zy,size_alloc->Zy
open _root_.Int renaming natCast_ediv->yDH,natCast_mul->sg,natCast_nonneg->yFw,natCast_pow->xL,ofNat_inj->By,tdiv_eq_ediv_of_nonneg->yB8,tmod_eq_emod_of_nonneg->yDx
open _root_.List renaming all_eq_true->Z7,any_eq_true->yFK,append_assoc->uk,cons->sw,cons_append->qo,drop_length->yFI,drop_succ_cons->yCJ,drop_zero->yDr,flatMap_append->yCI,getElem?_eq_getElem->ZH,getElem?_eq_some_iff->Zz,getElem?_map->rm,getElem_map->uq,length_append->Zv,length_cons->Z9,length_drop->yDF,length_map->ZI,length_nil->uh,length_replicate->z8,length_take->zc,mem_cons->fT,mem_map->Z1,mem_range->p9,nil_append->sy,not_mem_nil->ZJ,range->fo,replicate->qz,setIfInBounds_toArray->Zr,set_cons_succ->Zt,set_cons_zero->Zu,size_toArray->kI,take_add->yGc,take_of_length_le->yDE,take_succ_cons->DQ,take_zero->xu
open _root_.Nat renaming add_assoc->tz,add_comm->yGp,add_mod->yn,add_mul->xc,add_sub_cancel->CA,add_sub_cancel_left->xV,add_zero->qg,div_eq_of_lt->qv,le_add_right->yDc,le_of_lt->qx,le_refl->Zo,le_trans->Zw,lt_of_le_of_lt->yDv,lt_of_lt_of_le->Zn,lt_or_ge->tE,min_eq_left->yF1,min_le_left->yEL,min_le_right->yEA,mod_eq_of_lt->ZC,mod_lt->gD,mod_mod->yEF,mod_one->yFF,mul_assoc->uj,mul_comm->ax,mul_le_mul_left->yCO,mul_mod->tn,mul_one->ri,mul_succ->CD,mul_zero->xe,ne_of_gt->pe,ne_of_lt->qh,not_lt_zero->uv,pos_of_neZero->BY,pow_add->rn,pow_le_pow_right->qp,pow_succ->oB,pow_two->yGu,pow_zero->rx,sub_sub->DS,sub_zero->wt,testBit_lt_two_pow->yE9,zero_add->Zs,zero_le->pj
open _root_.Option renaming map_eq_some_iff->Zp,map_some->yDD,some->ZV
open _root_.Or renaming inl->Z5,inr->ZW
open _root_.UInt8 renaming ofNat->ZG,toNat_ofNat'->yCh
open Go.Proofs.Tryz
open Go.RowKit Go.Sort Go.Deep
variable {P:Nat}[NeZero P]{N:Nat}
variable {A α:Type}{L:Array Bool}{T l:List UInt8}{W w w':Zl}{a b c cap d g h i j k m n o p0 r s t:Nat}{e x:UInt8}{f q:Option gE}{p:Nat->A->Prop}{vs:List Zm}{y:Zm}
def Us(w:Zl)(p0 p1 p2 k f c1 c2 e a b c d p q r s:I):
 IS w w.heap.size [⟨w.heap.size,0,p0,p1,p2,k⟩,⟨w.heap.size,4,f,c1,c2,e⟩,⟨w.heap.size+1,0,a,b,c,d⟩,⟨w.heap.size+1+1,0,p,q,r,s⟩,⟨w.heap.size+1+1+1,0,0,0,0,0⟩]
  ((((w.alloc (.cells #[U p0,U p1,U p2,U k,U f,U c1,U c2,U e] 54)).alloc (.cells #[U a,U b,U c,U d] 46)).alloc (.cells #[U p,U q,U r,U s] 46)).alloc (.cells #[U 0,U 0,U 0,U 0] 46)):=by
 have F:=(((At8.made w 54 p0 p1 p2 k f c1 c2 e Z).alloc (.cells #[U a,U b,U c,U d] 46)).alloc (.cells #[U p,U q,U r,U s] 46)).alloc (.cells #[U 0,U 0,U 0,U 0] 46);refine(((((Kept.mk1 (jJ w _ _ _ _) (jJ w _ _ _ _).size).cons ?_).cons ?_).cons ?_).cons ?_).cons ?_
 .exact(At4.made _ 46 0 0 0 0 (by simp)).blk
 .exact((At4.made _ 46 p q r s (by simp)).alloc _).blk
 .exact(((At4.made _ 46 a b c d (by simp)).alloc _).alloc _).blk
 .exact⟨F.c4,F.c5,F.c6,F.c7,F.fz⟩
 exact⟨F.c0,F.c1,F.c2,F.c3,F.fz⟩
def GK(w:Zl)(p0 p1 p2 k f c1 c2 e a b c d:I):
 IS w w.heap.size [⟨w.heap.size,0,p0,p1,p2,k⟩,⟨w.heap.size,4,f,c1,c2,e⟩,⟨w.heap.size+1,0,a,b,c,d⟩,⟨w.heap.size+1+1,0,0,0,0,0⟩]
  (((w.alloc (.cells #[U p0,U p1,U p2,U k,U f,U c1,U c2,U e] 54)).alloc (.cells #[U a,U b,U c,U d] 46)).alloc (.cells #[U 0,U 0,U 0,U 0] 46)):=by
 have F:=((At8.made w 54 p0 p1 p2 k f c1 c2 e Z).alloc (.cells #[U a,U b,U c,U d] 46)).alloc (.cells #[U 0,U 0,U 0,U 0] 46);refine((((Kept.mk1 (below3 (w:=w) _ _ _) (below3 _ _ _).size).cons ?_).cons ?_).cons ?_).cons ?_
 .exact(At4.made _ 46 0 0 0 0 (by simp)).blk
 .exact((At4.made _ 46 a b c d (by simp)).alloc _).blk
 .exact⟨F.c4,F.c5,F.c6,F.c7,F.fz⟩
 exact⟨F.c0,F.c1,F.c2,F.c3,F.fz⟩
def Ut(w:Zl)(p0 p1 p2 k c c1 c2 b:I):
 IS w w.heap.size [⟨w.heap.size,0,p0,p1,p2,k⟩,⟨w.heap.size,4,c,c1,c2,b⟩,⟨w.heap.size+1,0,0,0,0,0⟩] ((w.alloc (.cells #[U p0,U p1,U p2,U k,U c,U c1,U c2,U b] 54)).alloc (.cells #[U 0,U 0,U 0,U 0] 46)):=by
 have F:=(At8.made w 54 p0 p1 p2 k c c1 c2 b Z).alloc (.cells #[U 0,U 0,U 0,U 0] 46);refine(((Kept.mk1 (below2 w _ _) (below2 w _ _).size).cons ?_).cons ?_).cons ?_
 .exact(At4.made _ 46 0 0 0 0 (by simp)).blk
 .exact⟨F.c4,F.c5,F.c6,F.c7,F.fz⟩
 exact⟨F.c0,F.c1,F.c2,F.c3,F.fz⟩
def oV(p0 p1 p2 l o c1 c2 p P:I)(x:Fd)(hR:RefP p0 p1 p2 l o c1 c2 p P)(w:Zl):
 dZ 65 #[.agg #[U p0,U p1,U p2,U l,U o,U c1,U c2,U p],.string x] w λe w'=>∃(a b c d:I) (ok:Hc),e=.tuple #[.agg #[U a,U b,U c,U d],.bool ok]/\(ok=H->SR P x.data/\GS (.agg #[U a,U b,U c,U d]) (beV x.data.toList))/\(ok=D->¬SR P x.data)/\(x.size=32->GS (.agg #[U a,U b,U c,U d]) (beV x.data.toList))/\(¬x.size=32->a=0/\b=0/\c=0/\d=0):=by
 have i:=mk1 (hR);by_cases hs:x.size=32
 .have q:=mk1 (hs);have m:(x.size:Y)=32:=S;go_enter func65,ntmps65;go_wp2_with fail
  have f:=Ut w p0 p1 p2 l o c1 c2 p;apply(Iy x q _).mono;rintro e y ⟨v,rfl,s,t⟩;obtain⟨a,b,c,d,rfl,ha,hb,hc,hd,es⟩:=id t;have n:=mk1 (t);replace f:=f.call s;let⟨C,L,h0,z,pf⟩:=f.head.at4
  have Q:=f.head.lt;have n0:=qh Q;go_wp2_with fail
  apply(Gh _ _ _ _ n (Four.mk i.hp0 i.hp1 i.hp2 i.hp3 i.eP) _).mono;rintro e w2 ⟨v,rfl,r,rfl⟩;have k:=((f.alloc (.cells #[U a,U b,U c,U d] 46)).cons (At4.made y 46 a b c d Z).blk).call r;have n4:=qh f.tail.tail.head.lt;let⟨W,T,N,V,nf⟩:=k.head.at4
  let⟨M,A,X,K,rf⟩:=k.tail.tail.tail.head.at4
  have z5:=k.head.lt;have z1:=k.tail.tail.tail.head.lt;let⟨ok,j⟩:∃ok,decide (beV x.data.toList<P)=ok:=⟨_,Z⟩
  rw[j];have u:=mk1 (j);go_wp2;have g:=k.tail.tail.tail.head.at4.self4 a b c d;unfold set4 at g;refine Zx (by simp[results,Tryz.results65,go_sem,g.c0,g.c1,g.c2,g.c3];rfl) Z ?_;refine⟨_,Z,aH k.bl (I.le_succ _),a,b,c,d,ok,Z,λh=>⟨⟨q,?_⟩,n⟩,λh O=>?_,λ_=>n,λh=>absurd q h⟩
  .exact of_decide_eq_true (u.trans h)
  have:=u;rw[h]at this;exact of_decide_eq_false this O.2
 have m:¬(x.size:Y)=32:=S;go_enter func65,ntmps65;go_wp2;refine Zx (by simp[results,Tryz.results65,go_sem];rfl) Z ?_;exact⟨_,Z,below2 _ _ _,0,0,0,0,D,Z,λh=>zd h,λ_ h=>hs h.1,λh=>absurd h hs,λ_=>⟨Z,Z,Z,Z⟩⟩
def kT(_:n<2^64):eZ 24 #[U n] w (.agg #[U n,U 0,U 0,U 0]):=by
 go_enter func24,ntmps24;go_wp2;refine Zx (by simp[results,Tryz.results24,go_sem];rfl) Z ?_;exact⟨_,Z,aD _,Z⟩
theorem tX(x:Zm)(m i:I)(hx:GS x m)(q:i<256)(w:Zl):dZ 79 #[x,iZ i] w λe w'=>∃t:I,e=U t/\t=m/2^i%2:=by
 obtain⟨a,b,c,d,rfl,n,l,o,hd,p⟩:=id hx;have r:=(At4.made w 46 a b c d Z).wd (i/64) S;have f:wd a b c d (i/64)<2^64:=Ly n l o hd;have k:wd a b c d (i/64)/2^(i%64)%2=m/2^i%2:=by rw[p];exact Fp (i:=i) q n l o hd
 have s:(i:Y).tdiv 64=((i/64:I):Y):=by rw[yB8 S];omega
 have u:(i:Y).tmod 64=((i%64:I):Y):=by rw[yDx S];omega
 have y:(i/64:I)<4:=S;generalize wd a b c d (i/64)=v at r f k;have g:bits .and .u64 ((v:Y)/2^(i%64)) 1=((m/2^i%2:I):Y):=by
  have:=and_one (v:=(v/2^(i%64))) (yDv (I.div_le_self _ _) f);rw[k]at this;rw[<-this,yDH,xL];rfl
 obtain⟨t,j⟩:=vH (m/2^i%2);rw[j]at g;go_enter func79,ntmps79
 go_upto_region 1 with fail
 have zx:w.heap.size<(w.alloc (.cells #[U a,U b,U c,U d] 46)).heap.size:=by simp
 go_wp2;go_ret;exact⟨_,Z,aD (w:=w) (.cells #[U a,U b,U c,U d] 46),t,Z,(mk1 j.symm).out⟩
def Gx(k:a<2^64)(c:b<2^64):∃x:I,bits .or .u64 (a:Y) (b:Y)=(x:Y)/\(x=0↔a=0/\b=0)/\x<2^64:=
 ⟨a ||| b,Bx a b k c,I.or_eq_zero_iff,I.or_lt_two_pow (n:=64) k c⟩
def qR(x:Zm)(m:I)(hx:GS x m)(w:Zl):eZ 71 #[x] w (.bool (decide (m=0))):=by
 obtain⟨a,b,c,d,rfl,n,k,o,hd,i⟩:=id hx;let⟨y,q,g,l1⟩:=Gx n k
 let⟨z,p,f,l2⟩:=Gx l1 o
 let⟨t,r,l,l3⟩:=Gx l2 hd
 have j:decide (m=0)=decide (t=0):=by
  rw[decide_eq_decide,l,f,g,i];unfold val;omega
 rw[j];go_enter func71,ntmps71;go_wp2;go_ret;exact⟨_,Z,aD _,by by_cases h:t=0<;>simp[h]⟩
def neg_val(c:m<P)(_:P<top)(e:¬m=0)(hs:s<top)(d:k<=1)(h:s+m=P+top*k):s=(P-m)%P:=by
 have:k=0\/k=1:=S;rw[ZC S];rcases this with b|b<;>rw[b]at h<;>omega
def tW(p0 p1 p2 p3 c0 c1 c2 c3 P : I)(x : Zm)(m : I)(hR : RefP p0 p1 p2 p3 c0 c1 c2 c3 P)(hx : GS x m)(hm : m < P)(w : Zl):
    dZ 26 #[.agg #[U (p0 : Y), U (p1 : Y), U (p2 : Y), U (p3 : Y), U (c0 : Y), U (c1 : Y), U (c2 : Y), U (c3 : Y)], x] w λe w'=>GS e ((P - m) % P) := by
  have HR : E (RefP p0 p1 p2 p3 c0 c1 c2 c3 P) := hR;have HX : E (GS x m) := hx;have HM : E (m < P) := hm;obtain⟨a, b, c, d, rfl, ha, hb, hc, hd, em⟩ := id hx;clear hR hx hm em ha hb hc hd;go_enter func26, ntmps26;go_wp2_with fail
  have KP := GK w p0 p1 p2 p3 c0 c1 c2 c3 a b c d;generalize pn _ _ = W0 at KP⊢;generalize h2 : w.heap.size + 1 + 1 = k2 at KP⊢;generalize h1 : w.heap.size + 1 = k1 at KP⊢;have Q2 : E (w.heap.size <= k2) := by unfold E; omega
  generalize h0 : w.heap.size = k0 at KP Q2⊢;have H0 := mk1 (h0);refine(qR _ _ HX.out _).mono ?_;rintro e w1 ⟨v, rfl, hb1, rfl⟩;replace KP := KP.call hb1;obtain⟨xc0, xc1, xc2, xc3, xf⟩ := KP.tail.tail.head.at4;have zx := KP.tail.tail.head.lt;by_cases hz : m = 0
  · have hd := decide_eq_true hz
    rw [hd];have HZ := mk1 (hz);obtain⟨rc0, rc1, rc2, rc3, rf⟩ := KP.tail.tail.tail.head.at4;have zr := KP.tail.tail.tail.head.lt;go_wp2;have RF := KP.tail.tail.tail.head.at4.self4 a b c d;unfold set4 at RF;refine Zx (by simp [results, Tryz.results26, go_sem, RF.c0, RF.c1, RF.c2, RF.c3]; rfl) Z ?_;refine⟨_, rfl, by rw [H0.out]; exact aH KP.bl Q2.out, ?_⟩;have h1 := HX.out;rw [HZ.out]at h1⊢;rw [wt, I.mod_self];exact h1
  · have hd := decide_eq_false hz
    rw [hd];obtain⟨fc0, fc1, fc2, fc3, ff⟩ := KP.head.at4;have zf := KP.head.lt;go_wp2_with fail
    refine(qO _ _ _ _ (Four.mk HR.hp0 HR.hp1 HR.hp2 HR.hp3 HR.eP) HX.out _).mono ?_;rintro e w2 ⟨v, rfl, hb2, v2, t, k, rfl, hF, hk, he⟩;have HF : E (GS v2 ((P - m) % P)) := by
      have h1 := neg_val HM.out (by have h3 := HR.hP; have h4 := HR.hP2; have h5 := HM.out; have h6 : 0 < val c0 c1 c2 c3 ∨ val c0 c1 c2 c3 = 0 := S
                                    rcases h6 with h6 | h6
                                    · omega
                                    · have h7 := Four.mk HR.hp0 HR.hp1 HR.hp2 HR.hp3 HR.eP
                                      exact h7.lt) (mk1 hz).out hF.lt hk he
      rw [<-h1]; exact hF
    obtain⟨ra, rb, rc, rd, rfl, -⟩ := id hF;replace KP := KP.call hb2;obtain⟨rc0, rc1, rc2, rc3, rf⟩ := KP.tail.tail.tail.head.at4;have zr := KP.tail.tail.tail.head.lt;go_wp2;have RF := (KP.tail.tail.tail.head.at4.self4 ra rb rc rd).alloc (.cells #[U (ra : Y), U (rb : Y), U (rc : Y), U (rd : Y)] 46);unfold set4 at RF;refine Zx (by simp [results, Tryz.results26, go_sem, RF.c0, RF.c1, RF.c2, RF.c3]; rfl) Z ?_;refine⟨_, rfl, ?_, HF.out⟩;rw [H0.out];exact(aH KP.bl Q2.out).alloc (by simpa [set4]using KP.le) _
def uFq:yZ 54:=yQ
def iFq:gZ 54 8:=gQ
def rl1:G Zm:=[U 13822214165235122497,U 13451932020343611451,U 18446744073709551614,U 18446744073709551615,U 4624529908474429119,U 4994812053365940164,U 1,U 0]
def rv1:Zm:=.agg rl1.toArray
def MH:FL 67 #[iZ 1] rv1:=λw=>(TJ w).mono (by rintro e w' ⟨v,rfl,k,rfl⟩;exact⟨_,Z,k,Z⟩)
def OR:FL 17 #[] rv1:=by
 intro w;go_enter func17,ntmps17;refine RG.M.enter [] 2 kR λa0 b=>?_
 refine Zq <| b.T [.m 0] [(0,RG.z 8)] [] [0] ⟨mk 0 54,Fs⟩ λf e d c=>?_
 refine Zq <| c.T [.c rv1,.u 0] [] [(0,1,rl1)] [0] ⟨cl MH,RG.pt iFq,Fs⟩ λa2 g k=>?_
 refine ag<|Zx (v:=rv1) (gK k.st Z Z (k.at (s:=(.p 0 0))) uFq iFq) k.sl.defers ?_
 exact⟨_,Z,k.st.bel.below,Z⟩
def nuV(bs:Bs):I:=if bs.size=32 then beV bs.toList else 0
def TG(hR:RefP 13822214165235122497 13451932020343611451 18446744073709551614 18446744073709551615 4624529908474429119 4994812053365940164 1 0 N)(s:Fd):FL 65 #[rv1,.string s] (.tuple #[nv (nuV s.data),.bool (rq N s.data).isSome]):=λw =>
 (oV _ _ _ _ _ _ _ _ N s hR w).mono (by
  rintro e w' ⟨v,rfl,g,a,b,c,d,ok,rfl,h1,f,l,i⟩;refine⟨_,Z,g,?_⟩;unfold nuV rq;cases ok with
  | true =>
   let⟨k,j⟩:=h1 Z
   rw[GD (show s.data.size=32/\beV s.data.toList<N from k),GD (show s.data.size=32 from k.1),j.nv];rfl
  | false =>
   rw[Id (show ¬(s.data.size=32/\beV s.data.toList<N) from f Z)];by_cases hs:s.data.size=32
   .rw[GD hs,(l hs).nv];rfl
   rw[Id hs];obtain⟨rfl,rfl,rfl,rfl⟩:=i hs;rfl)
def VX{bs:Bs}(h:rq N bs=J n):n=nuV bs:=by
 unfold rq at h;split at h
 .rename_i hc
  rw[nuV,GD hc.1];exact(ZV.inj h).symm
 cases h
def MK{p1 p2 c1 c2:I}{x:Zm}(hR:RefP p0 p1 p2 k b c1 c2 c P)(hx:GS x m)(d:GS y n):
 dZ 25 #[.agg #[U p0,U p1,U p2,U k,U b,U c1,U c2,U c],x,y] w λe w'=>GS e ((m+n)%P):=
 MJ p0 p1 p2 k b c1 c2 c P x y m n hR.hp0 hR.hp1 hR.hp2 hR.hp3 hR.hc0 hR.hc1 hR.hc2 hR.hc3 hR.eP hR.hP hR.hP2 hx d w
def vP{p1 p2 c1 c2:I}{x:Zm}(hR:RefP p0 p1 p2 k b c1 c2 c P)(hx:GS x m)(d:GS y n):
 dZ 21 #[.agg #[U p0,U p1,U p2,U k,U b,U c1,U c2,U c],x,y] w λe w'=>GS e (m*n%P):=
 MF p0 p1 p2 k b c1 c2 c P x y m n hR.hp0 hR.hp1 hR.hp2 hR.hp3 hR.hc0 hR.hc1 hR.hc2 hR.hc3 hR.eP hR.hP hR.hP2 hx d w
def Pn(k:n<P):(m+(P-n)%P)%P=(m+P-n)%P:=by
 rw[yn,yEF,<-yn,show m+P-n=m+(P-n) by omega]
theorem Eh(p0 p1 p2 f i c1 c2 g P:I)(x y:Zm)(m n:I)(hR:RefP p0 p1 p2 f i c1 c2 g P)(hx:GS x m)(V:GS y n)(hn:n<P)(w:Zl):
 ae prog 27 #[.agg #[.int .u64 p0,.int .u64 p1,.int .u64 p2,.int .u64 f,.int .u64 i,.int .u64 c1,.int .u64 c2,.int .u64 g],x,y] w (Ret λe w'=>Below w.heap.size w w'/\GS e ((m+P-n)%P)):=by
 obtain⟨a,b,c,d,rfl,ha,hb,hc,hd,em⟩:=id hx;obtain⟨p,q,r,s,rfl,hp,hq,hr,hs,en⟩:=id V;have HX:E (GS _ _):=hx;have HY:E (GS _ _):=V;have HR:E (RefP p0 p1 p2 f i c1 c2 g P):=hR;have HN:E (n<P):=hn;clear em en hx V ha hb hc hd hp hq hr hs hR hn;go_enter func27,ntmps27;go_wp2_with fail
 have FR:=((((At8.made w 54 p0 p1 p2 f i c1 c2 g Z).alloc (.cells #[.int .u64 a,.int .u64 b,.int .u64 c,.int .u64 d] 46)).alloc (.cells #[.int .u64 p,.int .u64 q,.int .u64 r,.int .u64 s] 46)).alloc (.cells #[.int .u64 0,.int .u64 0,.int .u64 0,.int .u64 0] 46))
 have X:=(((At4.made (w.alloc (.cells #[.int .u64 p0,.int .u64 p1,.int .u64 p2,.int .u64 f,.int .u64 i,.int .u64 c1,.int .u64 c2,.int .u64 g] 54)) 46 a b c d (Zy _ _)).alloc (.cells #[.int .u64 p,.int .u64 q,.int .u64 r,.int .u64 s] 46)).alloc (.cells #[.int .u64 0,.int .u64 0,.int .u64 0,.int .u64 0] 46))
 have Y:=((At4.made ((w.alloc (.cells #[.int .u64 p0,.int .u64 p1,.int .u64 p2,.int .u64 f,.int .u64 i,.int .u64 c1,.int .u64 c2,.int .u64 g] 54)).alloc (.cells #[.int .u64 a,.int .u64 b,.int .u64 c,.int .u64 d] 46)) 46 p q r s (k:=w.heap.size+1+1) (by simp)).alloc (.cells #[.int .u64 0,.int .u64 0,.int .u64 0,.int .u64 0] 46))
 have T3:=At4.made (((w.alloc (.cells #[.int .u64 p0,.int .u64 p1,.int .u64 p2,.int .u64 f,.int .u64 i,.int .u64 c1,.int .u64 c2,.int .u64 g] 54)).alloc (.cells #[.int .u64 a,.int .u64 b,.int .u64 c,.int .u64 d] 46)).alloc (.cells #[.int .u64 p,.int .u64 q,.int .u64 r,.int .u64 s] 46)) 46 0 0 0 0 (k:=w.heap.size+1+1+1) (by simp);have j:=((((Kept.mk1 (jJ w (.cells #[.int .u64 p0,.int .u64 p1,.int .u64 p2,.int .u64 f,.int .u64 i,.int .u64 c1,.int .u64 c2,.int .u64 g] 54) (.cells #[.int .u64 a,.int .u64 b,.int .u64 c,.int .u64 d] 46) (.cells #[.int .u64 p,.int .u64 q,.int .u64 r,.int .u64 s] 46) (.cells #[.int .u64 0,.int .u64 0,.int .u64 0,.int .u64 0] 46)) (jJ w (.cells #[.int .u64 p0,.int .u64 p1,.int .u64 p2,.int .u64 f,.int .u64 i,.int .u64 c1,.int .u64 c2,.int .u64 g] 54) (.cells #[.int .u64 a,.int .u64 b,.int .u64 c,.int .u64 d] 46) (.cells #[.int .u64 p,.int .u64 q,.int .u64 r,.int .u64 s] 46) (.cells #[.int .u64 0,.int .u64 0,.int .u64 0,.int .u64 0] 46)).size).cons Y.blk).cons X.blk).cons (x:=⟨w.heap.size,4,i,c1,c2,g⟩) ⟨FR.c4,FR.c5,FR.c6,FR.c7,FR.fz⟩).cons (x:=⟨w.heap.size,0,p0,p1,p2,f⟩) ⟨FR.c0,FR.c1,FR.c2,FR.c3,FR.fz⟩;simp only[Int.natCast_zero]at T3;clear FR X Y;generalize pn _ _=W0 at j T3⊢;generalize h3:w.heap.size+1+1+1=k3 at T3⊢;generalize h2:w.heap.size+1+1=A at j⊢;generalize h1:w.heap.size+1=C at j⊢;have T:E (w.heap.size<=k3):=by unfold E;omega
 generalize h0:w.heap.size=l at j T⊢;have M:∀x∈([⟨l,0,p0,p1,p2,f⟩,⟨l,4,i,c1,c2,g⟩,⟨C,0,a,b,c,d⟩,⟨A,0,p,q,r,s⟩]:G Blk),k3≠x.k:=by simp only[fT,ZJ,or_false];rintro x (rfl|rfl|rfl|rfl)<;>simp only<;>omega
 let⟨O,L,Q,K,tf⟩:=id T3
 have zt:=T3.lt;go_region_held3 (λw'=>w'.cell? ⟨l,0,F⟩=J (.int .u64 p0)/\w'.cell? ⟨l,1,F⟩=J (.int .u64 p1)/\w'.cell? ⟨l,2,F⟩=J (.int .u64 p2)/\w'.cell? ⟨l,3,F⟩=J (.int .u64 f)/\w'.cell? ⟨l,4,F⟩=J (.int .u64 i)/\w'.cell? ⟨l,5,F⟩=J (.int .u64 c1)/\w'.cell? ⟨l,6,F⟩=J (.int .u64 c2)/\w'.cell? ⟨l,7,F⟩=J (.int .u64 g)/\w'.cell? ⟨C,0,F⟩=J (.int .u64 a)/\w'.cell? ⟨C,1,F⟩=J (.int .u64 b)/\w'.cell? ⟨C,2,F⟩=J (.int .u64 c)/\w'.cell? ⟨C,3,F⟩=J (.int .u64 d)/\w'.cell? ⟨A,0,F⟩=J (.int .u64 p)/\w'.cell? ⟨A,1,F⟩=J (.int .u64 q)/\w'.cell? ⟨A,2,F⟩=J (.int .u64 r)/\w'.cell? ⟨A,3,F⟩=J (.int .u64 s)/\IS w l [⟨l,0,p0,p1,p2,f⟩,⟨l,4,i,c1,c2,g⟩,⟨C,0,a,b,c,d⟩,⟨A,0,p,q,r,s⟩] w') (first|exact fK j|exact fK j.drew|exact fK (j.set4' T M _ _ _ _)|exact fK (j.set4' T M _ _ _ _).drew) (first|(go_at_call 26;apply(tW p0 p1 p2 f i c1 c2 g P _ _ HR HY HN _).mono;rintro e w1 ⟨v,rfl,z,t⟩;obtain⟨x0,x1,x2,x3,rfl,-⟩:=id t;have h4:E (GS _ _):=t;clear t;replace j:=j.cl z;replace T3:=T3.cl z;clear z;let⟨O,L,Q,K,tf⟩:=id T3;have zt:=T3.lt)|(go_at_call 25;apply(MK HR HX h4).mono;rintro e w2 ⟨v,rfl,u,o⟩;rw[Pn HN.out]at o;obtain⟨a',b',c',d',rfl,h9,h8,h7,h6,W⟩:=id o;clear W;have h5:E (GS _ _):=o;clear o;replace j:=j.cl u;replace T3:=T3.cl u;clear u;let⟨O,L,Q,K,tf⟩:=id T3;have zt:=T3.lt))
 go_wp2;have N:=T3.self4 a' b' c' d';unfold set4 at N;refine Zx (by simp[results,Tryz.results27,go_sem,N.c0,N.c1,N.c2,N.c3];rfl) Z ?_;refine⟨_,Z,?_,h5⟩;rw[(mk1 h0).out];exact aH j.bl T
def Ei(p0 p1 p2 Q A c1 c2 z P:I)(x y:Zm)(m n:I)(hR:RefP p0 p1 p2 Q A c1 c2 z P)(hx:GS x m)(hy:GS y n)(w:Zl):
 dZ 75 #[.agg #[U p0,U p1,U p2,U Q,U A,U c1,U c2,U z],x,y] w λe w'=>GS e (m^n%P):=by
 obtain⟨a,b,c,d,rfl,ha,hb,hc,hd,em⟩:=id hx;obtain⟨p,q,r,s,rfl,hp,hq,hr,hs,en⟩:=id hy;have HX:Hid (GS _ _):=hx;have HY:Hid (GS _ _):=hy;have HR:Hid (RefP p0 p1 p2 Q A c1 c2 z P):=hR;clear em en hx hy ha hb hc hd hp hq hr hs hR;go_enter func75,ntmps75;go_wp2_with fail
 have k:=Us w p0 p1 p2 Q A c1 c2 z a b c d p q r s;generalize pn _ _=W0 at k⊢;generalize h3:w.heap.size+1+1+1=k3 at k⊢;generalize h2:w.heap.size+1+1=k2 at k⊢;generalize h1:w.heap.size+1=k1 at k⊢;have Q3:Hid (w.heap.size<=k3):=by unfold Hid;omega
 generalize h0:w.heap.size=g at k Q3⊢;have H0:Hid (w.heap.size=g):=h0;clear h0 h1 h2 h3;apply(kT (n:=1) dC).mono;rintro e w1 ⟨v,rfl,hj,rfl⟩;replace k:=k.call hj;go_wp2;have KN:=(k.alloc (.cells #[U 1,U 0,U 0,U 0] 46)).cons (At4.made w1 46 1 0 0 0 Z).blk;have Q7:=mk1 (k.le);have T:=k.lts;generalize w1.heap.size=k7 at KN T Q7⊢;have M:∀x∈([⟨g,0,p0,p1,p2,Q⟩,⟨g,4,A,c1,c2,z⟩,⟨k1,0,a,b,c,d⟩,⟨k2,0,p,q,r,s⟩,⟨k3,0,0,0,0,0⟩]:G Blk),k7≠x.k:=λx hx=>pe (T x hx)
 have hu:=M ⟨k2,0,p,q,r,s⟩ (by simp);go_loopg [8] 256 (λgk s8 wr=>gk<=256/\s8=iZ ((gk:Y)-1)/\∃na X nc nd:I,IS w g (⟨k7,0,na,X,nc,nd⟩ :: [⟨g,0,p0,p1,p2,Q⟩,⟨g,4,A,c1,c2,z⟩,⟨k1,0,a,b,c,d⟩,⟨k2,0,p,q,r,s⟩,⟨k3,0,0,0,0,0⟩]) wr/\Hid (GS (.agg #[U na,U X,U nc,U nd]) (m^(n/2^gk)%P)))
 case atStart =>
  refine⟨Zo _,Z,1,0,0,0,KN,?_⟩;have h1:=HR.hP2;have h2:3<top:=dC;rw[show n/2^256=0 from qv HY.lt,rx,ZC S];exact Four.mk dC dC dC dC Z
 case round =>
  obtain⟨hg,rfl,na,X,nc,nd,k,L⟩:=hrel;obtain⟨N,K,O,C,tf⟩:=k.head.at4;have zt:=k.head.lt;by_cases hz:gk=0
  .subst hz;have f:=L;rw[rx,I.div_one]at f;obtain⟨l,u,o,V,rf⟩:=k.tail.tail.tail.tail.tail.head.at4;have W:=k.tail.tail.tail.tail.tail.head.lt;go_wp2;have j:=k.tail.tail.tail.tail.tail.head.at4.self4 na X nc nd;unfold set4 at j;refine Zx (by simp[results,Tryz.results75,go_sem,j.c0,j.c1,j.c2,j.c3];rfl) Z ?_;refine⟨_,Z,?_,(mk1 f).out⟩;rw[H0.out];exact aH k.bl Q3
  .obtain⟨i,hi⟩:∃i,gk=i+1:=⟨gk-1,S⟩
   have e1:(gk:Y)-1=(i:Y):=S;rw[e1];obtain⟨E,hE⟩:=vH (n/2^gk);rw[hE]at L;rw[hi]at hE;have HE:=mk1 (hE);have HI:=mk1 (hi);obtain⟨h8,h9,h4,h7,ff⟩:=k.tail.head.at4;have fb:=k.tail.tail.head;obtain⟨l,j,o,u,fg⟩:=id fb;replace l:wr.cell? ⟨g,4,F⟩=J (U A):=l;replace j:wr.cell? ⟨g,5,F⟩=J (U c1):=j;replace o:wr.cell? ⟨g,6,F⟩=J (U c2):=o;replace u:wr.cell? ⟨g,7,F⟩=J (U z):=u;have zf:=k.tail.head.lt;go_wp2_with fail
   apply(vP HR L L).mono;rintro e w2 ⟨v,rfl,h5,f⟩;rw[Em]at f;obtain⟨ya,yb,yc,yd,rfl,-⟩:=id f;have L:=mk1 (f);replace k:=k.call h5;obtain⟨N,K,O,C,tf⟩:=k.head.at4;have zt:=k.head.lt;obtain⟨k6,hn,hk,k5,ef⟩:=k.tail.tail.tail.tail.head.at4;have ze:=k.tail.tail.tail.tail.head.lt;go_wp2_with fail
   have W:=k.put Q7 M ya yb yc yd;apply(tX _ _ i HY S _).mono;rintro e w3 ⟨v,rfl,V,t,rfl,ht⟩;have k:=W.call V;have HT:=mk1 (ht);have h6:t=0\/t=1:=S;clear V W ht;rcases h6 with rfl|rfl
   .go_wp2;go_roundg (gk-1)
    case measure=>omega
    case rel =>
     refine⟨S,?_,ya,yb,yc,yd,k,?_⟩
     .have:=HI
      congr 1
      omega
     .have h1:=L;rw[Hid,HI.out,CA,C9 n i,HE.out,<-HT.out,qg];exact h1
   .obtain⟨N,K,O,C,tf⟩:=k.head.at4;have zt:=k.head.lt;obtain⟨k8,hw,hm,k4,af⟩:=k.tail.tail.tail.head.at4;have za:=k.tail.tail.tail.head.lt;obtain⟨h8,h9,h4,h7,ff⟩:=k.tail.head.at4;obtain⟨l,j,o,u,fg⟩:=id k.tail.tail.head;replace l:w3.cell? ⟨g,4,F⟩=J (U A):=l;replace j:w3.cell? ⟨g,5,F⟩=J (U c1):=j;replace o:w3.cell? ⟨g,6,F⟩=J (U c2):=o;replace u:w3.cell? ⟨g,7,F⟩=J (U z):=u;have zf:=k.tail.head.lt;go_wp2_with fail
    apply(vP HR L HX).mono;rintro e w4 ⟨v,rfl,he,f⟩;rw[CO]at f;obtain⟨ua,ub,uc,ud,rfl,-⟩:=id f;replace k:=k.call he;obtain⟨N,K,O,C,tf⟩:=k.head.at4;have zt:=k.head.lt;go_wp2;go_roundg (gk-1)
    case measure=>omega
    case rel =>
     refine⟨S,?_,ua,ub,uc,ud,k.put Q7 M ua ub uc ud,?_⟩
     .have:=HI
      congr 1
      omega
     .have h1:=(mk1 f).out;rw[Hid,HI.out,CA,C9 n i,HE.out,<-HT.out];exact h1
def MI(p0 p1 p2 n l c1 c2 j P:I)(x:Zm)(m:I)(hR:RefP p0 p1 p2 n l c1 c2 j P)(hx:GS x m)(w:Zl):
 dZ 23 #[.agg #[U p0,U p1,U p2,U n,U l,U c1,U c2,U j],x] w λe w'=>GS e (m^(P-2)%P):=by
 have g:E (RefP p0 p1 p2 n l c1 c2 j P):=hR;have HX:E (GS x m):=hx;obtain⟨a,b,c,d,rfl,ha,M,X,hd,em⟩:=id hx;clear hR hx em ha M X hd;go_enter func23,ntmps23;go_wp2_with fail
 have f:=GK w p0 p1 p2 n l c1 c2 j a b c d;generalize pn _ _=W0 at f⊢;generalize h2:w.heap.size+1+1=V at f⊢;generalize h1:w.heap.size+1=k1 at f⊢;have K:E (w.heap.size<=V):=by unfold E;omega
 generalize h0:w.heap.size=z at f K⊢;have o:=Four.mk g.hp0 g.hp1 g.hp2 g.hp3 g.eP;apply(qO _ _ P 2 o (Four.mk (a:=2) (b:=0) (c:=0) (d:=0) dC dC dC dC Z) _).mono;rintro e y ⟨v,rfl,C,v2,t,k,rfl,i,hk,he⟩;have L:t=P-2:=by
  have h1:=i.lt;have h2:=o.lt;have p:=g.hP2;have:k=0\/k=1:=S;rcases this with h|h<;>rw[h]at he<;>omega
 have HE:E (GS v2 (P-2)):=by unfold E;rw[<-L];exact i
 obtain⟨ea,eb,ec,ed,rfl,-⟩:=id i;replace f:=f.call C;let⟨hm,hj,hg,h5,xf⟩:=f.tail.tail.head.at4
 have zx:=f.tail.tail.head.lt;let⟨h9,hi,Q,h7,ff⟩:=f.head.at4
 have fb:=f.tail.head;let⟨q,p,r,u,fg⟩:=id fb
 replace q:y.cell? ⟨z,4,F⟩=J (U l):=q;replace p:y.cell? ⟨z,5,F⟩=J (U c1):=p;replace r:y.cell? ⟨z,6,F⟩=J (U c2):=r;replace u:y.cell? ⟨z,7,F⟩=J (U j):=u;have T:=f.head.lt;have n0:=qh T;have n1:=qh zx;go_wp2_with fail
 apply(Ei p0 p1 p2 n l c1 c2 j P _ _ _ _ g HX HE _).mono;rintro e w2 ⟨v,rfl,A,i⟩;replace f:=(f.alloc _).call A;obtain⟨W,qb,qc,N,rfl,-⟩:=id i;let⟨O,h6,h4,h8,rf⟩:=f.tail.tail.tail.head.at4
 have zr:=f.tail.tail.tail.head.lt;go_wp2;have s:=f.tail.tail.tail.head.at4.self4 W qb qc N;unfold set4 at s;refine Zx (by simp[results,Tryz.results23,go_sem,s.c0,s.c1,s.c2,s.c3];rfl) Z ?_;refine⟨_,Z,?_,(mk1 i).out⟩;rw[(mk1 h0).out];exact aH f.bl K
def Ql{v:I}(t:I)(b:r<64)(hv:v<2^r)(c:t<2):bits .or .u64 (v:Y) ((t*2^r:I):Y)=((v+t*2^r:I):Y)/\v+t*2^r<2^64:=by
 have h1:2^r<=2^63:=qp dC S;have k:t*2^r<=1*2^r:=I.mul_le_mul_right _ S;have d:(2:I)^63=9223372036854775808:=dC;refine⟨?_,S⟩;rw[Bx _ _ S S,I.or_comm,ax t,<-(I.two_pow_add_eq_or_of_lt hv t),yGp]
def Gj{Q:I}(k:a<2^64)(e:b<2^64)(f:c<2^64)(hd:d<2^64)(g:i<256)(hv:val a b c d=Q%2^i):wd a b c d (i/64)<2^(i%64):=by
 rw[Lz (i/64) S k e f hd,hv];refine yDv (I.mod_le _ _) ?_;refine I.div_lt_of_lt_mul ?_;rw[<-rn,show 64*(i/64)+i%64=i by omega];exact gD _ (I.pow_pos dC)
def Gm{Q:I}(f:i<256)(hv:val a b c d=Q%2^i)(k:t=Q/2^i%2)(ho:o=wd a b c d (i/64)+t*2^(i%64)):
 val (if i/64=0 then o else a) (if i/64=1 then o else b) (if i/64=2 then o else c) (if i/64=3 then o else d)=Q%2^(i+1):=by
 have h:=H9 a b c d (i/64) o S;have e:(2:I)^i=2^(64*(i/64))*2^(i%64):=by
  rw[<-rn,show 64*(i/64)+i%64=i by omega]
 rw[ho,I.mul_add,<-uj,ax (2^(64*(i/64))) t,uj,<-e]at h;rw[ho,oB,I.mod_mul,<-k,ax (2^i)];omega
def zC{e v p1 p2 f q c1 c2 p l:I}(h:IS w k (⟨e,0,p,i,m,l⟩ :: [⟨k,0,p0,p1,p2,f⟩,⟨k,4,q,c1,c2,n⟩,⟨g,0,a,b,c,d⟩,⟨o,0,0,0,0,0⟩]) W)(hx:W.cell? ⟨e,j,F⟩=J (U v)):W.cell? ⟨k,0,F⟩=J (U p0)/\W.cell? ⟨k,1,F⟩=J (U p1)/\W.cell? ⟨k,2,F⟩=J (U p2)/\W.cell? ⟨k,3,F⟩=J (U f)/\W.cell? ⟨e,j,F⟩=J (U v)/\IS w k (⟨e,0,p,i,m,l⟩ :: [⟨k,0,p0,p1,p2,f⟩,⟨k,4,q,c1,c2,n⟩,⟨g,0,a,b,c,d⟩,⟨o,0,0,0,0,0⟩]) W:=
 ⟨h.tail.head.c0,h.tail.head.c1,h.tail.head.c2,h.tail.head.c3,hx,h⟩
def xY{e f p1 p2 c1 c2 l rd:I}(h:IS w k (⟨f,0,i,j,m,rd⟩ :: [⟨k,0,p0,p1,p2,g⟩,⟨k,4,n,c1,c2,l⟩,⟨e,0,a,b,c,d⟩,⟨o,0,0,0,0,0⟩]) W):W.cell? ⟨k,0,F⟩=J (U p0)/\W.cell? ⟨k,1,F⟩=J (U p1)/\W.cell? ⟨k,2,F⟩=J (U p2)/\W.cell? ⟨k,3,F⟩=J (U g)/\W.cell? ⟨k,4,F⟩=J (U n)/\W.cell? ⟨k,5,F⟩=J (U c1)/\W.cell? ⟨k,6,F⟩=J (U c2)/\W.cell? ⟨k,7,F⟩=J (U l)/\W.cell? ⟨f,0,F⟩=J (U i)/\W.cell? ⟨f,1,F⟩=J (U j)/\W.cell? ⟨f,2,F⟩=J (U m)/\W.cell? ⟨f,3,F⟩=J (U rd)/\W.cell? ⟨e,0,F⟩=J (U a)/\W.cell? ⟨e,1,F⟩=J (U b)/\W.cell? ⟨e,2,F⟩=J (U c)/\W.cell? ⟨e,3,F⟩=J (U d)/\IS w k (⟨f,0,i,j,m,rd⟩ :: [⟨k,0,p0,p1,p2,g⟩,⟨k,4,n,c1,c2,l⟩,⟨e,0,a,b,c,d⟩,⟨o,0,0,0,0,0⟩]) W:=
 ⟨h.tail.head.c0,h.tail.head.c1,h.tail.head.c2,h.tail.head.c3,h.tail.tail.head.c0,h.tail.tail.head.c1,h.tail.tail.head.c2,h.tail.tail.head.c3,h.head.c0,h.head.c1,h.head.c2,h.head.c3,h.tail.tail.tail.head.c0,h.tail.tail.tail.head.c1,h.tail.tail.tail.head.c2,h.tail.tail.tail.head.c3,h⟩
theorem BI(p0 p1 p2 n N c1 c2 M P:I)(x:Zm)(m:I)(hR:RefP p0 p1 p2 n N c1 c2 M P)(kd:P/4%18446744073709551616<18446744073709551615)(hx:GS x m)(w:Zl):
 ae prog 138 #[.agg #[.int .u64 p0,.int .u64 p1,.int .u64 p2,.int .u64 n,.int .u64 N,.int .u64 c1,.int .u64 c2,.int .u64 M],x] w (Ret λe w'=>Below w.heap.size w w'/\RootR P m (m^(P/4+1)%P) e):=by
 obtain⟨a,b,c,d,rfl,ha,hb,hc,hd,em⟩:=id hx;have HX:E (GS _ m):=hx;have HR:E (RefP p0 p1 p2 n N c1 c2 M P):=hR;have b9:E (P/4%18446744073709551616<18446744073709551615):=kd;have k7:E (GS (.agg #[.int .u64 p0,.int .u64 p1,.int .u64 p2,.int .u64 n]) P):=Four.mk hR.hp0 hR.hp1 hR.hp2 hR.hp3 hR.eP;obtain⟨R,h7⟩:∃R,m^(P/4+1)%P=R:=⟨_,Z⟩
 have kg:R<P:=by
  rw[<-h7];refine gD _ ?_;have:=hR.hP2;omega
 rw[h7];have bc:E (m^(P/4+1)%P=R):=h7;have kc:E (R<P):=kg;clear em hx ha hb hc hd hR h7 kg kd;go_enter func138,ntmps138;go_wp2;have K0:=GK w p0 p1 p2 n N c1 c2 M a b c d;have K1:=(K0.alloc (.cells #[.int .u64 0,.int .u64 0,.int .u64 0,.int .u64 0] 46)).cons (At4.made _ 46 0 0 0 0 Z).blk;have hz:(((w.alloc (.cells #[.int .u64 p0,.int .u64 p1,.int .u64 p2,.int .u64 n,.int .u64 N,.int .u64 c1,.int .u64 c2,.int .u64 M] 54)).alloc (.cells #[.int .u64 a,.int .u64 b,.int .u64 c,.int .u64 d] 46)).alloc (.cells #[.int .u64 0,.int .u64 0,.int .u64 0,.int .u64 0] 46)).heap.size=w.heap.size+1+1+1:=by simp
 rw[hz]at K1;clear K0 hz;generalize pn _ _=W0 at K1⊢;generalize h3:w.heap.size+1+1+1=V at K1⊢;generalize h2:w.heap.size+1+1=X at K1⊢;generalize h1:w.heap.size+1=O at K1⊢;have Q2:E (w.heap.size<=X):=by unfold E;omega
 have Q3:E (w.heap.size<=V):=by unfold E;omega
 generalize h0:w.heap.size=g at K1 Q2 Q3⊢;have H0:E (w.heap.size=g):=h0;have ke:V≠g:=S;have ky:V≠O:=S;have b3:V≠X:=S;clear h0 h1 h2 h3;have ka:∀x∈([⟨g,0,p0,p1,p2,n⟩,⟨g,4,N,c1,c2,M⟩,⟨O,0,a,b,c,d⟩,⟨X,0,0,0,0,0⟩]:G Blk),V≠x.k:=by simp only[fT,ZJ,or_false];rintro x (rfl|rfl|rfl|rfl);exact ke;exact ke;exact ky;exact b3
 go_loopg [7] 254 (λgk s7 wr=>∃i q z A u:I,i+gk=254/\s7=.int .i64 i/\IS w g (⟨V,0,q,z,A,u⟩ :: [⟨g,0,p0,p1,p2,n⟩,⟨g,4,N,c1,c2,M⟩,⟨O,0,a,b,c,d⟩,⟨X,0,0,0,0,0⟩]) wr/\E (GS (.agg #[.int .u64 q,.int .u64 z,.int .u64 A,.int .u64 u]) (P/4%2^i)))
 case atStart =>
  refine⟨0,0,0,0,0,Z,Z,K1,?_⟩;rw[rx,yFF];exact Four.mk dC dC dC dC Z
 case round =>
  clear K1;obtain⟨i,q,z,A,u,hi,rfl,k,T⟩:=hrel;by_cases bk:i<254
  .have p:val q z A u=P/4%2^i/\q<18446744073709551616/\z<18446744073709551616/\A<18446744073709551616/\u<18446744073709551616:=by
    obtain⟨a',b',c',d',e',h1,h2,h3,h4,h5⟩:=T.out;obtain⟨rfl,rfl,rfl,rfl⟩:a'=q/\b'=z/\c'=A/\d'=u:=by
     simp only[ZM.injEq,zi.injEq,sw.injEq,gM.injEq,true_and,and_true,By]at e';exact⟨e'.1.symm,e'.2.1.symm,e'.2.2.1.symm,e'.2.2.2.symm⟩
    exact⟨h5.symm,h1,h2,h3,h4⟩
   have kh:=Gj p.2.1 p.2.2.1 p.2.2.2.1 p.2.2.2.2 (i:=i) S p.1;have xw:=k.head.at4.wd (i/64) S;obtain⟨t,ht⟩:∃t,P/2^(i+2)%2=t:=⟨_,Z⟩
   have hp:t=P/4/2^i%2:=by rw[<-ht,I.div_div_eq_div_mul,show 4*2^i=2^(i+2) by rw[rn,ax]]
   obtain⟨o,ho⟩:∃o,wd q z A u (i/64)+t*2^(i%64)=o:=⟨_,Z⟩
   have k5:=Gm (i:=i) S p.1 hp ho.symm;obtain⟨hor,C⟩:=Ql t (r:=(i%64)) S kh S;rw[ho]at hor C;have kk:E (GS (.agg #[.int .u64 ((if i/64=0 then o else q:I):Y),.int .u64 ((if i/64=1 then o else z:I):Y),.int .u64 ((if i/64=2 then o else A:I):Y),.int .u64 ((if i/64=3 then o else u:I):Y)]) (P/4%2^(i+1))):=by
    refine Four.mk ?_ ?_ ?_ ?_ k5.symm
    .split;exact C;exact p.2.1
    .split;exact C;exact p.2.2.1
    .split;exact C;exact p.2.2.2.1
    .split;exact C;exact p.2.2.2.2
   obtain⟨y,hy⟩:∃y,t*2^(i%64)=y:=⟨_,Z⟩
   have bo:y<18446744073709551616:=S;rw[hy]at hor;obtain⟨v,hv⟩:∃v,wd q z A u (i/64)=v:=⟨_,Z⟩
   rw[hv]at hor xw;obtain⟨j,hj⟩:∃j,i/64=j:=⟨_,Z⟩
   obtain⟨r,hr⟩:∃r,i%64=r:=⟨_,Z⟩
   obtain⟨L,hm⟩:∃L,i+2=L:=⟨_,Z⟩
   rw[hj]at xw kk;have bt:cW.wrap ((t:Y)*2^r)=(y:Y):=by
    rw[<-hr,<-hy,sg,xL];have:=wrapN (a:=(t*2^(i%64))) S;rw[sg,xL]at this;exact this
   have b2:E (∀w,ae prog 79 #[.agg #[.int .u64 p0,.int .u64 p1,.int .u64 p2,.int .u64 n],.int .i64 L] w (Ret λe w'=>Below w.heap.size w w'/\∃t:I,e=.int .u64 t/\t=P/2^L%2)):=λw=>tX _ P L k7.out S w
   have HT:E (P/2^L%2=t):=by unfold E;rw[<-hm];exact ht
   have e1:(i:Y).tdiv 64=(j:Y):=by rw[yB8 S];omega
   have e2:(i:Y).tmod 64=(r:Y):=by rw[yDx S];omega
   have e3:(j:Y)<4:=S;have e4:ZN.wrap (j:Y)=(j:Y):=yS S;have e6:(i:Y)+2=(L:Y):=S;have e7:ZN.wrap (L:Y)=(L:Y):=yS S;have e9:r<64:=S;have bf:(i:Y)<254:=S;have T1:=λW (h:At4 W V q z A u)=>At4.setq h j o S
   have hk:j<4:=S;have XJ:=λW (h:At4 W V q z A u)=>At4.wd h j hk
   rw[<-hj,hv,hj]at XJ;have HJ:E (j<4):=hk;clear hy hv hj hr ho k5 p ht hp kh hm T hk
   go_upto_region 5 with fail
   refine anyTill.begin (λw'=>w'.cell? ⟨g,0,F⟩=J (.int .u64 p0)/\w'.cell? ⟨g,1,F⟩=J (.int .u64 p1)/\w'.cell? ⟨g,2,F⟩=J (.int .u64 p2)/\w'.cell? ⟨g,3,F⟩=J (.int .u64 n)/\w'.cell? ⟨V,j,F⟩=J (.int .u64 v)/\IS w g (⟨V,0,q,z,A,u⟩ :: [⟨g,0,p0,p1,p2,n⟩,⟨g,4,N,c1,c2,M⟩,⟨O,0,a,b,c,d⟩,⟨X,0,0,0,0,0⟩]) w') 16 mixed (zC k.drew (XJ _ k.head.at4.drew)) (λs=>?_);refine anyTill.tq 0 s ?_;refine anyTill.tq 1 s ?_;refine anyTill.tq 2 s ?_;refine anyTill.tq 3 s ?_;refine anyTill.tq 4 s ?_;refine anyTill.tq 5 s ?_;refine anyTill.tq 6 s ?_;refine anyTill.tq 7 s ?_;refine anyTill.tq 8 s ?_;refine anyTill.tq 9 s ?_;refine anyTill.tq 11 s ?_;refine anyTill.tq 12 s ?_;try simp only[Zu,Zt]
   refine anyTill.step (i:=10) Z kR (λK Q=>?_);go_simp;refine(b2 _).mono ?_;rintro e w1 ⟨v',rfl,l,t',rfl,hn⟩;rw[HT.out]at hn;subst hn;have f:=k.drew.call l;refine Q.out _ _ (λ_=>zC f (XJ _ f.head.at4)) ?_;try simp only[ah,Zr,Zu,Zt]
   have cj:=XJ _ f.head.at4;have cf:=f.head.f;have cz:=f.head.lt;refine anyTill.step (i:=13) Z kR (λK Q=>?_);go_simp;refine Q.out _ _ (λ_=>zC f (XJ _ f.head.at4)) ?_;try simp only[ah,Zr,Zu,Zt]
   refine anyTill.step (i:=14) Z kR (λK Q=>?_);go_simp;refine Q.out _ _ (λ_=>zC f (XJ _ f.head.at4)) ?_;try simp only[ah,Zr,Zu,Zt]
   refine anyTill.step (i:=15) Z kR (λK Q=>?_);go_simp;refine Q.out _ _ (λ_=>zC f (XJ _ f.head.at4)) ?_;try simp only[ah,Zr,Zu,Zt]
   refine anyTill.step (i:=16) Z kR (λK Q=>?_);go_simp;refine Q.out _ _ (λh=>zd h) ?_;try simp only[ah,Zr,Zu,Zt]
   refine anyTill.done kR ?_ _;go_wp2;go_roundg (gk-1)
   case measure=>omega
   case rel =>
    refine⟨i+1,_,_,_,_,S,Z,?_,kk⟩;exact(f.tail.set (j:=V) (i:=j) Q3.out ka _).cons (T1 _ f.head.at4).blk
  .have he:i=254:=S;subst he;have p:=T.out;have b8:=k7.lt;rw[ZC (show P/4<2^254 by unfold top at b8;omega)]at p;have hq:val q z A u=P/4/\q<18446744073709551615/\z<18446744073709551616/\A<18446744073709551616/\u<18446744073709551616:=by
    obtain⟨a',b',c',d',e',h1,h2,h3,h4,h5⟩:=p;obtain⟨rfl,rfl,rfl,rfl⟩:a'=q/\b'=z/\c'=A/\d'=u:=by
     simp only[ZM.injEq,zi.injEq,sw.injEq,gM.injEq,true_and,and_true,By]at e';exact⟨e'.1.symm,e'.2.1.symm,e'.2.2.1.symm,e'.2.2.2.symm⟩
    refine⟨h5.symm,?_,h2,h3,h4⟩;have s:=b9.out;rw[h5]at s;unfold val at s;omega
   obtain⟨qe,hu⟩:∃qe,q+1=qe:=⟨_,Z⟩
   have HE:E (GS (.agg #[.int .u64 qe,.int .u64 z,.int .u64 A,.int .u64 u]) (P/4+1)):=by
    refine Four.mk S hq.2.2.1 hq.2.2.2.1 hq.2.2.2.2 ?_;rw[<-hq.1,<-hu];unfold val;omega
   have be:(q:Y)+1=(qe:Y):=S;have hw:=wrapN (a:=qe) S;obtain⟨bh,bj,bu,bn,qf⟩:=k.head.at4;have zq:=k.head.lt;obtain⟨bz,bv,br,bm,xf⟩:=k.tail.tail.tail.head.at4;have zx:=k.tail.tail.tail.head.lt;obtain⟨b5,ba,kn,kz,ff⟩:=k.tail.head.at4;have fb:=k.tail.tail.head;have kw:=fb.c0;have kv:=fb.c1;have b4:=fb.c2;have bd:=fb.c3;have zf:=k.tail.head.lt;go_wp2_with fail
   refine(Ei p0 p1 p2 n N c1 c2 M P _ _ _ _ HR.out HX.out HE.out _).mono ?_;rintro e w3 ⟨v,rfl,kx,p⟩;have K:=(k.tail.set (j:=V) (i:=0) Q3.out ka (.int .u64 qe)).call kx;obtain⟨ra,rb,rc,rd,rfl,-⟩:=id p;rw[bc.out]at p;have T:E (GS _ R):=p
   go_upto_region 8 with fail
   have k:IS w g (⟨w3.heap.size,0,ra,rb,rc,rd⟩ :: [⟨g,0,p0,p1,p2,n⟩,⟨g,4,N,c1,c2,M⟩,⟨O,0,a,b,c,d⟩,⟨X,0,0,0,0,0⟩]) _:=(K.alloc (.cells #[.int .u64 ra,.int .u64 rb,.int .u64 rc,.int .u64 rd] 46)).cons (At4.made w3 46 ra rb rc rd Z).blk;have ku:=pe K.head.lt;have kr:=pe K.tail.tail.head.lt;have kj:=pe K.tail.tail.tail.head.lt;have Q8:=mk1 (K.le);clear K;generalize pn _ _=W4 at k⊢;generalize w3.heap.size=k8 at k ku kr kj Q8⊢;by_cases h8:R*R%P=m
   .have kp:=Ts a b c d;go_region_held3 (λw'=>w'.cell? ⟨g,0,F⟩=J (.int .u64 p0)/\w'.cell? ⟨g,1,F⟩=J (.int .u64 p1)/\w'.cell? ⟨g,2,F⟩=J (.int .u64 p2)/\w'.cell? ⟨g,3,F⟩=J (.int .u64 n)/\w'.cell? ⟨g,4,F⟩=J (.int .u64 N)/\w'.cell? ⟨g,5,F⟩=J (.int .u64 c1)/\w'.cell? ⟨g,6,F⟩=J (.int .u64 c2)/\w'.cell? ⟨g,7,F⟩=J (.int .u64 M)/\w'.cell? ⟨k8,0,F⟩=J (.int .u64 ra)/\w'.cell? ⟨k8,1,F⟩=J (.int .u64 rb)/\w'.cell? ⟨k8,2,F⟩=J (.int .u64 rc)/\w'.cell? ⟨k8,3,F⟩=J (.int .u64 rd)/\w'.cell? ⟨O,0,F⟩=J (.int .u64 a)/\w'.cell? ⟨O,1,F⟩=J (.int .u64 b)/\w'.cell? ⟨O,2,F⟩=J (.int .u64 c)/\w'.cell? ⟨O,3,F⟩=J (.int .u64 d)/\IS w g (⟨k8,0,ra,rb,rc,rd⟩ :: [⟨g,0,p0,p1,p2,n⟩,⟨g,4,N,c1,c2,M⟩,⟨O,0,a,b,c,d⟩,⟨X,0,0,0,0,0⟩]) w') (first|exact xY k|exact xY k.drew) (first|(go_at_call 21;refine(vP HR.out T.out T.out).mono ?_;rintro e w5 ⟨v,rfl,l,Q⟩;rw[h8]at Q;obtain rfl:=Q.inj HX.out;clear Q;(first|have f:=k.drew.call l|have f:=k.call l);clear k l;have k:=f;clear f))
    have k6:=mk1 h8
    rename_i hHeld
    obtain⟨L,bp,bq,bi,e',km,-⟩:=id T.out;obtain⟨rfl,-⟩:L=ra/\True:=by
     simp only[ZM.injEq,zi.injEq,sw.injEq,gM.injEq,true_and,and_true,By]at e';exact⟨e'.1.symm,Fs⟩
    have C:R%2=L%2:=by
     obtain⟨x1,x2,x3,s,e',-,-,-,-,h5⟩:=id T.out;simp only[ZM.injEq,zi.injEq,sw.injEq,gM.injEq,true_and,and_true,By]at e';rw[h5,<-e'.1];unfold val;omega
    have h9:=and_one (v:=L) km;obtain⟨b6,ko,b7,kl,tf⟩:=k.head.at4;have zt:=k.head.lt;obtain⟨ki,kf,k9,kb,uf⟩:=k.tail.tail.tail.tail.head.at4;have zu:=k.tail.tail.tail.tail.head.lt;have h2:L%2=0\/L%2=1:=S;rcases h2 with h|h
    .rw[h]at h9 C;have hg:E (GS (.agg #[.int .u64 L,.int .u64 rb,.int .u64 rc,.int .u64 rd]) (even P R)):=by
      have h1:even P R=R:=by unfold even;rw[Id S]
      rw[E,h1];exact T.out
     go_wp2;have s:=k.tail.tail.tail.tail.head.at4.self4 L rb rc rd;unfold set4 at s;refine Zx (by simp[results,Tryz.results138,go_sem,s.c0,s.c1,s.c2,s.c3];rfl) Z ?_;refine⟨_,Z,?_,RootR.yes k6.out hg.out⟩;rw[H0.out];exact aH k.bl Q2.out
    .rw[h]at h9 C;have HO:=mk1 (C);obtain⟨b5,ba,kn,kz,ff⟩:=k.tail.head.at4;have fb:=k.tail.tail.head;have kw:=fb.c0;have kv:=fb.c1;have b4:=fb.c2;have bd:=fb.c3;have zf:=k.tail.head.lt;go_wp2_with fail
     refine(tW p0 p1 p2 n N c1 c2 M P _ _ HR.out T.out kc.out _).mono ?_;rintro e w8 ⟨v,rfl,kt,k4⟩;obtain⟨sa,sb,sc,sd,rfl,-⟩:=id k4;have hg:E (GS (.agg #[.int .u64 sa,.int .u64 sb,.int .u64 sc,.int .u64 sd]) (even P R)):=by
      have h1:(P-R)%P=even P R:=by
       rw[even,GD HO.out];exact ZC (by have:=kc.out;have:=HO.out;omega)
      rw[E,<-h1];exact k4
     replace k:=k.call kt;obtain⟨b6,ko,b7,kl,tf⟩:=k.head.at4;have zt:=k.head.lt;obtain⟨ki,kf,k9,kb,uf⟩:=k.tail.tail.tail.tail.head.at4;have zu:=k.tail.tail.tail.tail.head.lt;go_wp2;have s:=(k.tail.tail.tail.tail.head.at4.other4 kj (.int .u64 sa) (.int .u64 sb) (.int .u64 sc) (.int .u64 sd)).self4 sa sb sc sd;unfold set4 at s;refine Zx (by simp[results,Tryz.results138,go_sem,s.c0,s.c1,s.c2,s.c3];rfl) Z ?_;refine⟨_,Z,?_,RootR.yes k6.out hg.out⟩;rw[H0.out];exact aH (aH k.bl Q8.out) Q2.out
   .go_region_held3 (λw'=>w'.cell? ⟨g,0,F⟩=J (.int .u64 p0)/\w'.cell? ⟨g,1,F⟩=J (.int .u64 p1)/\w'.cell? ⟨g,2,F⟩=J (.int .u64 p2)/\w'.cell? ⟨g,3,F⟩=J (.int .u64 n)/\w'.cell? ⟨g,4,F⟩=J (.int .u64 N)/\w'.cell? ⟨g,5,F⟩=J (.int .u64 c1)/\w'.cell? ⟨g,6,F⟩=J (.int .u64 c2)/\w'.cell? ⟨g,7,F⟩=J (.int .u64 M)/\w'.cell? ⟨k8,0,F⟩=J (.int .u64 ra)/\w'.cell? ⟨k8,1,F⟩=J (.int .u64 rb)/\w'.cell? ⟨k8,2,F⟩=J (.int .u64 rc)/\w'.cell? ⟨k8,3,F⟩=J (.int .u64 rd)/\w'.cell? ⟨O,0,F⟩=J (.int .u64 a)/\w'.cell? ⟨O,1,F⟩=J (.int .u64 b)/\w'.cell? ⟨O,2,F⟩=J (.int .u64 c)/\w'.cell? ⟨O,3,F⟩=J (.int .u64 d)/\IS w g (⟨k8,0,ra,rb,rc,rd⟩ :: [⟨g,0,p0,p1,p2,n⟩,⟨g,4,N,c1,c2,M⟩,⟨O,0,a,b,c,d⟩,⟨X,0,0,0,0,0⟩]) w') (first|exact xY k|exact xY k.drew) (first|(go_at_call 21;refine(vP HR.out T.out T.out).mono ?_;rintro e w5 ⟨v,rfl,l,Q⟩;obtain⟨ta,tb,tc,td,rfl,C⟩:=four_ne Q HX.out h8;have L:=Qj C;clear Q;(first|have f:=k.drew.call l|have f:=k.call l);clear k l;have k:=f;clear f))
    rename_i hHeld
    obtain⟨ki,kf,k9,kb,uf⟩:=k.tail.tail.tail.tail.head.at4;have zu:=k.tail.tail.tail.tail.head.lt;go_wp2;have s:At4 (set4 w5 X (.int .u64 0) (.int .u64 0) (.int .u64 0) (.int .u64 0)) X 0 0 0 0:=k.tail.tail.tail.tail.head.at4.self4 0 0 0 0;unfold set4 at s;refine Zx (by simp[results,Tryz.results138,go_sem,s.c0,s.c1,s.c2,s.c3];rfl) Z ?_;refine⟨_,Z,?_,RootR.no (mk1 h8).out⟩;rw[H0.out];exact aH k.bl Q2.out
section
structure Ord(N:I):Prop where
 gap:Gap 4624529908474429119 4994812053365940164 1 N
 ref:RefP 13822214165235122497 13451932020343611451 18446744073709551614 18446744073709551615 4624529908474429119 4994812053365940164 1 0 N
 le:N<=top
 n2:2<=N%18446744073709551616
variable {N:Nat}
def Ord.pos(O:Ord N):0<N:=oN O.n2
def Ord.four(O:Ord N)(h:a<N):GS (nv a) a:=fN (Zn h O.le)
def sMi(N a b:I):I:=(a+N-b)%N
def sTi(N a b:I):I:=a*b%N
def sIn(N a:I):I:=a^(N-2)%N
def Mi(O:Ord N)(c:a<N)(k:b<N):FL 195 #[gv1,nv a,nv b] (nv (sMi N a b)):=λw =>
 (wT O.gap (O.four c) (O.four k) c k).mono (by rintro e w' ⟨v,rfl,k,d⟩;exact⟨_,Z,k,d.nv⟩)
def Mh(O:Ord N)(c:a<N)(k:b<N):FL 164 #[gv1,nv a,nv b] (nv (sTi N a b)):=λw =>
 (rE O.gap (O.four c) (O.four k)).mono (by rintro e w' ⟨v,rfl,k,d⟩;exact⟨_,Z,k,d.nv⟩)
def Tu(O:Ord N)(k:a<N):FL 157 #[gv1,nv a] (nv (sIn N a)):=λw =>
 (xN _ _ _ N _ a O.gap O.n2 (O.four k) w).mono (by rintro e w' ⟨v,rfl,b,c⟩;exact⟨_,Z,b,c.nv⟩)
def TQ(O:Ord N)(c:a<N)(k:b<N):FL 27 #[rv1,nv a,nv b] (nv (sMi N a b)):=λw =>
 (Eh _ _ _ _ _ _ _ _ N _ _ a b O.ref (O.four c) (O.four k) k w).mono (by rintro e w' ⟨v,rfl,k,d⟩;exact⟨_,Z,k,d.nv⟩)
def CL(O:Ord N)(c:a<N)(k:b<N):FL 21 #[rv1,nv a,nv b] (nv (sTi N a b)):=λw =>
 (vP O.ref (O.four c) (O.four k)).mono (by rintro e w' ⟨v,rfl,k,d⟩;exact⟨_,Z,k,d.nv⟩)
def ML(O:Ord N)(k:a<N):FL 23 #[rv1,nv a] (nv (sIn N a)):=λw =>
 (MI _ _ _ _ _ _ _ _ N _ a O.ref (O.four k) w).mono (by rintro e w' ⟨v,rfl,b,c⟩;exact⟨_,Z,b,c.nv⟩)
def Nb{x y z u:I}(h:nv a=.agg #[U x,U y,U z,U u]):be32 x y z u=bx a:=by
 have h1:wn a=[U x,U y,U z,U u]:=by
  unfold nv at h;injection h with h
  exact congrArg R.toList h
 unfold wn at h1;simp only[sw.injEq,gM.injEq,true_and,and_true,Y.natCast_inj]at h1;obtain⟨rfl,rfl,rfl,rfl⟩:=h1;rfl
def cb(b:Bs):G Zm:=b.toList.map encB
def rB(b:Bs):(cb b).length=b.size:=by unfold cb;rw[ZI,ZE]
def uO{b:Bs}(h:hZ w g 0 b):w.rangeAt g 0 (cb b)/\w.there g 0 (cb b).length:=by
 refine⟨λj v hv=>?_,λj k=>?_⟩
 .have k:j<b.size:=by rw[<-rB];exact(Zz.1 hv).1
  rw[(h j k).1];unfold cb at hv;rw[rm,qi,ZS k]at hv;rw[getElem!_pos b j k];exact hv
 rw[rB]at k;exact⟨by rw[(h j k).1];rfl,(h j k).2⟩
theorem cb_holds{b:Bs}(h1:w.rangeAt g 0 (cb b))(c:w.there g 0 (cb b).length):hZ w g 0 b:=λj k=>by
 refine⟨h1 j _ ?_,(c j (by rw[rB];exact k)).2⟩;rw[cb,rm,qi,ZS k,getElem!_pos b j k];rfl
def OX(f:FuncId)(args:R Zm)(b:Bs)(n:I):Prop:=∀w,cZ f args w (Ret λe w'=>∃k,Made w k (cb b) w'/\e=sZ k n n)
def Mj(O:Ord N)(i:a<N):OX 96 #[nv a] (bx a) 32:=λw =>
 (Cr _ a w (O.four i)).mono (by
  rintro e w' ⟨v,rfl,d,g,x,y,z,u,rfl,b,f,k⟩;rw[Nb f]at k;let⟨h1,c⟩:=uO k
  exact⟨_,Z,g,⟨d,b,Holds.lt k (by rw[dJ];omega),h1,c⟩,Z⟩)
end
def YU{p q:I}:(binOp .eql 93 (.agg #[U a,U b,U c,U d]) (.agg #[U p,U q,U r,U s])).run prog w=.ok (.bool (decide (a=p/\b=q/\c=r/\d=s))) w:=by
 go_simp;rw[Jf 9997,lp];by_cases h1:a=p/\b=q/\c=r/\d=s
 .rw[decide_eq_true h1];obtain⟨rfl,rfl,rfl,rfl⟩:=h1;simp
 have k:(decide (a=p) && (decide (b=q) && (decide (c=r) && decide (d=s))))=D:=by
  rw[<-Hc.not_eq_true,ZD,ZD,ZD];simpa using h1
 rw[decide_eq_false h1,k];simp
def eqS(k:a<top)(c:b<top):(binOp .eql 93 (nv a) (nv b)).run prog w=.ok (.bool (decide (a=b))) w:=by
 refine(YU).trans ?_;simp only[vF k c]
def u40:yZ 93:=yQ
def i40:gZ 93 4:=gQ
def u38:yZ 81:=yQ
def i38:gZ 81 4:=gQ
def u44:yZ 46:=yQ
def i44:gZ 46 4:=gQ
def FS(O:Ord N)(a b:I)(c:a<N)(d:b<N):FL 132 #[(nv a),(nv b)] (nv (sMi N a b)):=by
 intro w;go_enter func132,ntmps132;refine RG.M.enter [(0,.v (nv a)),(1,.v (nv b))] 12 kR λa0 k=>?_
 refine Zq <| k.T [.m 0,.m 1,.m 2] [(0,wn a),(1,wn b),(2,RG.z 4)] [] [2,3,4] ⟨mk 0 93,mk 1 93,mk 2 93,Fs⟩ λj g m l i e=>?_
 refine Zq <| e.D [.c gv1,.s (.p 0 0),.x (nv a),.s (.p 1 0),.x (nv b),.c (nv (sMi N a b)),.x (nv (sMi N a b)),.u 2] [] [(2,7,wn (sMi N a b))] [4] ⟨cl jK,st,ld u38 i38,st,ld u38 i38,cl (Mi O c d),st,RG.pt i40,Fs⟩ λa2 n f=>?_
 exact ag (f.rr 2 Z u40 i40)
def kA(O:Ord N)(a b:I)(c:a<N)(d:b<N):FL 113 #[(nv a),(nv b)] (nv (sTi N a b)):=by
 intro w;go_enter func113,ntmps113;refine RG.M.enter [(0,.v (nv a)),(1,.v (nv b))] 12 kR λa0 k=>?_
 refine Zq <| k.T [.m 0,.m 1,.m 2] [(0,wn a),(1,wn b),(2,RG.z 4)] [] [2,3,4] ⟨mk 0 93,mk 1 93,mk 2 93,Fs⟩ λj g m l i e=>?_
 refine Zq <| e.D [.c gv1,.s (.p 0 0),.x (nv a),.s (.p 1 0),.x (nv b),.c (nv (sTi N a b)),.x (nv (sTi N a b)),.u 2] [] [(2,7,wn (sTi N a b))] [4] ⟨cl jK,st,ld u38 i38,st,ld u38 i38,cl (Mh O c d),st,RG.pt i40,Fs⟩ λa2 n f=>?_
 exact ag (f.rr 2 Z u40 i40)
def xZ(O:Ord N)(a:I)(b:a<N):FL 125 #[(nv a)] (nv (sIn N a)):=by
 intro w;go_enter func125,ntmps125;refine RG.M.enter [(0,.v (nv a))] 8 kR λa0 k=>?_
 refine Zq <| k.T [.m 0,.m 1] [(0,wn a),(1,RG.z 4)] [] [1,2] ⟨mk 0 93,mk 1 93,Fs⟩ λg e i f d=>?_
 refine Zq <| d.D [.c gv1,.s (.p 0 0),.x (nv a),.c (nv (sIn N a)),.x (nv (sIn N a)),.u 1] [] [(1,5,wn (sIn N a))] [2] ⟨cl jK,st,ld u38 i38,cl (Tu O b),st,RG.pt i40,Fs⟩ λa2 j c=>?_
 exact ag (c.rr 1 Z u40 i40)
def Po(v:Zm)(m:I)(ok:Hc)(w:Zl)(c:∀w',BelX w.heap.size [] w w'->cZ 85 #[gv1,v] w' (Ret λe b=>kZ w' b/\e=.tuple #[nv m,.bool ok])):
 eZ 46 #[v] w (.tuple #[nv m,.bool ok]):=by
 go_enter func46,ntmps46;refine RG.M.enter [(0,.v v)] 15 kR λa0 g=>?_
 refine Zq <| g.T [.m 0,.x fZ] [(0,RG.z 4)] [] [0,2,3] ⟨mk 0 93,st,Fs⟩ λj o i d=>?_
 refine Zq <| d.T [.c gv1,.x v,.c (.tuple #[nv m,.bool ok]),.x (.tuple #[nv m,.bool ok]),.x (nv m),.x (.bool ok),.m 1,.u 1,.x (.bool ok)] [(6,RG.z 4)] [(1,7,wn m)] [2,3,4,5] ⟨cl jK,st,clB (λ_ _=>kR) c,st,st,st,mk 1 81,RG.pt i38,st,Fs⟩ λq a2 p f=>?_
 refine Zq <| f.T [.x (nv m),.x (nv m),.x (.bool ok),.u 0,.x (.bool ok)] [] [(0,3,wn m)] [2,3] ⟨ld u38 i38,st,st,RG.pt i40,st,Fs⟩ λn l k=>?_
 refine ag<|Zx (v:=.tuple #[nv m,.bool ok]) (jF k.st 2 3 Z 0 Z (k.at (s:=.p 0 0)) (k.av (v:=.bool ok) kR) u40 i40) k.sl.defers ?_
 exact⟨_,Z,k.st.bel.below,Z⟩
def Ih{v:Zm}{bs:Bs}(O:Ord N)(hv:Arg w v bs):eZ 46 #[v] w (.tuple #[nv ((rq N bs).getD 0),.bool (rq N bs).isSome]):=by
 refine Po v _ _ w λw' b=>?_
 have h:=Ip O.gap (hv.below b.below);cases k:rq N bs with
 | none=>rw[k]at h;exact h
 | some n=>rw[k]at h;exact h
def tI(O:Ord N)(d:a<N):OX 130 #[nv a] (bx a) 32:=by
 intro w;go_enter func130,ntmps130;refine RG.M.enter [(0,.v (nv a))] 6 kR λa0 c=>?_
 refine Zq <| c.T [.m 0,.x nZ] [(0,wn a)] [] [1,2] ⟨mk 0 93,st,Fs⟩ λg i f e=>?_
 refine Zq <| e.t [.s 3 [] (.p 0 0),.x 4 [(3,0)] (nv a),⟨J 5,[(4,1)],.s 1 32 32,.make 1⟩,.s 2 [(5,2)] (.s 1 32 32)] [(2,cb (bx a))] [] [wn a,cb (bx a)] [(2,.s 1 32 32)] ⟨st,ld u38 i38,RG.cm 1 (λw _=>Mj O d w) λ_ _=>kR,st,Fs⟩ λj a2 l k=>?_
 refine ag<|Zx (v:=_) (mD Z (k.at (s:=.s 1 32 32))) k.sl.defers ?_
 exact⟨_,Z,_,k.st.made (b:=1) Z,Z⟩
def Iz(O:Ord N)(s:Fd):FL 16 #[.string s] (.tuple #[nv (nuV s.data),.bool (rq N s.data).isSome]):=by
 intro w;have k:=TG O.ref s;let⟨m,f⟩:∃m,m=nuV s.data:=⟨_,Z⟩
 let⟨ok,d⟩:∃b,b=(rq N s.data).isSome:=⟨_,Z⟩
 rw[<-f,<-d]at k⊢;go_enter func16,ntmps16;refine RG.M.enter [(0,.v (.string s))] 9 kR λa0 e=>?_
 refine Zq <| e.T [.m 0,.x fZ] [(0,RG.z 4)] [] [0,2,3] ⟨mk 0 46,st,Fs⟩ λl j i g=>?_
 refine Zq <| g.T [.c rv1,.x (.string s),.c (.tuple #[nv m,.bool ok]),.x (nv m),.x (.bool ok),.u 0,.x (.bool ok)] [] [(0,5,wn m)] [2,3] ⟨cl OR,st,cl k,st,st,RG.pt i44,st,Fs⟩ λa2 n c=>?_
 refine ag<|Zx (v:=.tuple #[nv m,.bool ok]) (jF c.st 2 3 Z 0 Z (c.at (s:=.p 0 0)) (c.av (v:=.bool ok) kR) u44 i44) c.sl.defers ?_
 exact⟨_,Z,c.st.bel.below,Z⟩
namespace SP
def EI{t:ZR}:FE enc (w.alloc (.cells #[U 0,U 0,U 0,U 0,U 0] t)) w.heap.size 0 (#[0,0,0,0,0]:St):=by
 have h:=Holds.new (enc:=enc) w t (#[0,0,0,0,0]:St);have e:yGD enc (#[0,0,0,0,0]:St)=#[U 0,U 0,U 0,U 0,U 0]:=by simp[enc,u]
 rw[e]at h;exact h
attribute [local go_sem] dD eE dW
theorem Am(b off:I)(d:St)(w:Zl)(hd:d.size=25)(hH:FE enc w b off d):
 ae prog 236 #[.pointer (J ⟨b,off,F⟩)] w λe w'=>e=.returned (.tuple #[])/\Only b off 25 w w'/\FE enc w' b off (wW d):=by
 have X:=Holds.lt hH S;go_enter func236,ntmps236;go_wp2;generalize o:(w.alloc _)=W1;go_loopg [7] 5 (λg s7 wr=>∃k l,k+g=5/\s7=.int .i64 (k:I)/\FE enc wr w.heap.size 0 l/\Only w.heap.size 0 5 W1 wr/\E (l=mS d k))
 case atStart =>
  refine⟨0,#[0,0,0,0,0],Z,Z,?_,Only.refl _ _ _ _,Z⟩;rw[<-o];exact EI (w:=w) (t:=295)
 case round =>
  obtain⟨k,l,hk,rfl,W,n,r⟩:=hrel;have j:FE enc wr b off d:=Holds.other (by rw[<-o];exact Holds.below hH ((ZF _ _).alloc (Zo _) _) X) n S S;by_cases y:k<5
  .obtain⟨a,s⟩:∃x,d[k]! = x:=⟨_,Z⟩
   obtain⟨x1,u⟩:∃x,d[k+5]! = x:=⟨_,Z⟩
   obtain⟨x2,p⟩:∃x,d[k+10]! = x:=⟨_,Z⟩
   obtain⟨C,t⟩:∃x,d[k+15]! = x:=⟨_,Z⟩
   obtain⟨A,q⟩:∃x,d[k+20]! = x:=⟨_,Z⟩
   obtain⟨x5,v⟩:∃x,l[k]! = x:=⟨_,Z⟩
   have O:l.size=5:=by rw[r.out,wX]
   obtain⟨V,f0⟩:=aX j (i:=k) S s;obtain⟨c1,f1⟩:=aX j (i:=(k+5)) S u;obtain⟨c2,f2⟩:=aX j (i:=(k+10)) S p;obtain⟨c3,f3⟩:=aX j (i:=(k+15)) S t;obtain⟨c4,Q⟩:=aX j (i:=(k+20)) S q;obtain⟨L,K⟩:=aX W (i:=k) S v;rw[Zs]at L K;have M:E (G9 d k=a ^^^ x1 ^^^ x2 ^^^ C ^^^ A):=by rw[<-s,<-u,<-p,<-t,<-q];rfl
   clear s u p t q v j;have k5:(k:Y)<5:=S;have b0:(k:Y)<25:=S;have b1:(k:Y)+5<25:=S;have b2:(k:Y)+10<25:=S;have P:(k:Y)+15<25:=S;have b4:(k:Y)+20<25:=S;have p1:0<=(k:Y)+5:=S;have p2:0<=(k:Y)+10:=S;have N:0<=(k:Y)+15:=S;have p4:0<=(k:Y)+20:=S;have T:((k:Y)+5).toNat=k+5:=S;have e2:((k:Y)+10).toNat=k+10:=S;have e3:((k:Y)+15).toNat=k+15:=S;have e4:((k:Y)+20).toNat=k+20:=S;have v1:ZN.wrap ((k:Y)+5)=(k:Y)+5:=po _ S;have v2:ZN.wrap ((k:Y)+10)=(k:Y)+10:=po _ S;have v3:ZN.wrap ((k:Y)+15)=(k:Y)+15:=po _ S;have v4:ZN.wrap ((k:Y)+20)=(k:Y)+20:=po _ S;go_wp2_with fail
   go_still_tail 35,mixed;go_wp2;go_roundg (gk-1)
   case measure=>omega
   case rel =>
    refine⟨k+1,l.setIfInBounds k (a ^^^ x1 ^^^ x2 ^^^ C ^^^ A),S,by go_num,?_,?_,?_⟩
    .have:=Holds.set W (i:=k) S (a ^^^ x1 ^^^ x2 ^^^ C ^^^ A);rw[Zs]at this;exact Holds.drew this
    .exact(n.setCell (pj _) S _).drew
    .show _=(mS d k).setIfInBounds k (G9 d k);rw[M.out,r.out]
  .have t:k=5:=S;subst t;have HS:E (l=mS d 5):=r;have N:Only b off 25 w wr:=by
    rw[<-o]at n;exact Only.of_below n.fresh Z X
   clear hk y r n o;go_wp2;go_loopg [46] 5 (λg s46 A=>∃k q,k+g=5/\s46=.int .i64 (k:I)/\FE enc A b off q/\Only b off 25 wr A/\E (q=lF l d k))
   case atStart=>exact⟨0,d,Z,Z,j,Only.refl _ _ _ _,Z⟩
   case round =>
    obtain⟨k,q,hk,rfl,hD,n,r⟩:=hrel;by_cases y:k<5
    .have O:l.size=5:=by rw[HS.out,wX]
     have v:=Holds.other W n S S;obtain⟨C,u⟩:∃x,l[(k+4)%5]! = x:=⟨_,Z⟩
     obtain⟨a,s⟩:∃x,l[(k+1)%5]! = x:=⟨_,Z⟩
     obtain⟨V,f0⟩:=aX v (i:=((k+4)%5)) S u;obtain⟨c1,f1⟩:=aX v (i:=((k+1)%5)) S s;rw[Zs]at V c1;have HD:E (bT l k=C ^^^ rol a 1):=by rw[<-u,<-s];rfl
     clear u s f0 f1;have k5:(k:Y)<5:=S;go_wp2_with fail
     go_quiet ((go_at_call 243;exact Calls.quiet_of_same (D5 _ 1 _ dC)));clear V c1;go_wp2;have h2:=n.drewN nq;have Q:q.size=25:=by rw[r.out,tD,hd]
     go_loopg [6] 5 (λg s6 A=>∃m p,m+g=5/\s6=.int .i64 ((k+5*m:I):Y)/\FE enc A b off p/\Only b off 25 wr A/\E (p=nJ (C ^^^ rol a 1) k q m))
     case atStart=>exact⟨0,q,Z,Z,Holds.drewN hD nq,(Only.refl _ _ _ _).drewN _,Z⟩
     case round =>
      obtain⟨m,p,hm,rfl,P,K,L⟩:=hrel;by_cases h0:m<5
      .have h3:p.size=25:=by rw[L.out,uG,Q]
       obtain⟨z,M⟩:∃x,p[k+5*m]! = x:=⟨_,Z⟩
       obtain⟨c,f⟩:=aX P (i:=(k+5*m)) S M;have HZ:E (p[k+5*m]! = z):=M;clear M;have r1:((k+5*m:I):Y)<25:=S;generalize T:k+5*m=i at *;have Hi:E (k+5*m=i):=T;clear T;go_wp2_with fail
       go_still_tail 9,mixed;go_wp2;go_roundg (gk-1)
       case measure=>omega
       case rel =>
        refine⟨m+1,p.setIfInBounds i (z ^^^ (C ^^^ rol a 1)),S,?_,?_,?_,?_⟩
        .rw[<-Hi.out];go_num
        .exact Holds.drew (Holds.set P S _)
        .exact(K.setCell (yDc _ _) S _).drew
        .show _=bL (nJ (C ^^^ rol a 1) k q m) (k+5*m) (C ^^^ rol a 1);rw[<-L.out,Hi.out,<-HZ.out];rfl
      .have M:m=5:=S;subst M;have r1:(25:Y)<=((k+5*5:I):Y):=S;generalize T:k+5*5=i at *;go_wp2;go_roundg (4-k)
       case measure=>omega
       case rel =>
        refine⟨k+1,p,S,by go_num,P,n.trans K,?_⟩;show _=nJ (bT l k) k (lF l d k) 5;rw[<-r.out,HD.out];exact L
    .have t:k=5:=S;subst t;go_wp2
     go_end0
     refine⟨Z,N.trans n,?_⟩;have:wW d=q:=by rw[r.out,HS.out];rfl
     rw[this];exact hD
end SP
namespace SP
attribute [local go_sem] dD eE dW
def MZ(h:t<24):(wrap64 ((wrap64 (((t:Y)+1)*((t:Y)+2))).tdiv 2)).tmod 64=(Aa t:Y):=by
 have H:∀j:B 24,(wrap64 ((wrap64 (((j.val:Y)+1)*((j.val:Y)+2))).tdiv 2)).tmod 64=(Aa j.val:Y):=dK;exact H ⟨t,h⟩
theorem xO(b off:I)(d:St)(w:Zl)(hd:d.size=25)(K:FE enc w b off d):
 cZ 237 #[oZ b off] w λe w'=>e=.returned (.tuple #[])/\Only b off 25 w w'/\FE enc w' b off (tQ d):=by
 obtain⟨x1,j⟩:∃x,d[1]! = x:=⟨_,Z⟩
 obtain⟨c1,f1⟩:=aX K (i:=1) S j;go_enter func237,ntmps237;go_wp2;go_loopg [2,3,4,12] 24 (λg sx M sm st wr=>∃t T,t+g=24/\st=iZ (t:I)/\sx=iZ (T.x:I)/\M=iZ (T.y:I)/\sm=U (u T.m)/\FE enc wr b off T.d/\Only b off 25 w wr/\E (T=xP d t))
 case atStart=>exact⟨0,xP d 0,Z,Z,Z,Z,by rw[<-j];rfl,K,Only.refl _ _ _ _,Z⟩
 case round =>
  obtain⟨t,⟨x,y,m,C⟩,Q,rfl,rfl,rfl,rfl,p,a,v⟩:=hrel;have o:=Ic (d:=d) hd t;rw[<-v.out]at o;obtain⟨hx,N,hs⟩:=o;dsimp only at hx N hs p;by_cases r:t<24
  .obtain⟨i,O⟩:=vH (y+5*((2*x+3*y)%5));obtain⟨z,A⟩:∃z,C[i]! = z:=⟨_,Z⟩
   obtain⟨c,f⟩:=aX p (i:=i) S A;have L:=mk1 (O);go_wp2_with fail
   rw[MZ (t:=t) r];apply(D5 m (Aa t) _ (gD _ dC)).mono;rintro e w' ⟨rfl,rfl⟩;go_wp2_with fail
   obtain⟨q,s⟩:=vH ((2*x+3*y)%5);have l:(2*(x:Y)+3*(y:Y))%5=(q:Y):=S;rw[l];have k:=mk1 (s);have P:((y:Y)+5*(q:Y)).toNat=i:=by have:=L;have:=k;omega
   go_region
   go_wp2;go_roundg (gk-1)
   case measure=>omega
   case rel =>
    refine⟨t+1,⟨y,q,z,C.setIfInBounds i (rol m (Aa t))⟩,S,by go_num,Z,Z,Z,?_,?_,?_⟩
    .exact Holds.drew (Holds.set p S _)
    .exact(a.setCell (yDc _ _) S _).drew
    .show _=Fw t (xP d t);rw[<-v.out];simp only[Fw,k.out];have e:y+5*q=i:=by have:=L;have:=k;omega
     rw[e,(mk1 A).out]
  .have k:t=24:=S;subst k;go_wp2
   go_end0
   refine⟨Z,a,?_⟩;show FE enc _ b off (xP d 24).d;rw[<-v.out];exact p
end SP
namespace SP
attribute [local go_sem] dD eE dW sN
theorem Ey(b off:I)(d:St)(w:Zl)(hd:d.size=25)(hH:FE enc w b off d):
 ae prog 238 #[.pointer (J ⟨b,off,F⟩)] w λe w'=>e=.returned (.tuple #[])/\Only b off 25 w w'/\FE enc w' b off (chi d):=by
 go_enter func238,ntmps238;go_wp2;go_loopg [2] 5 (λg si wr=>∃k j,k+g=5/\si=.int .i64 ((5*k:I):Y)/\FE enc wr b off j/\Only b off 25 w wr/\E (j=AU d k))
 case atStart=>exact⟨0,d,Z,Z,hH,Only.refl _ _ _ _,Z⟩
 case round =>
  obtain⟨k,j,hk,rfl,y,hO,HE⟩:=hrel;have hs:j.size=25:=by rw[HE.out,AS,hd]
  by_cases hp:k<5
  .obtain⟨i,hi⟩:=vH (5*k);rw[hi];have Hi:E (5*k=i):=hi;obtain⟨s,N⟩:∃x,j[i]! = x:=⟨_,Z⟩
   obtain⟨x1,h2⟩:∃x,j[i+1]! = x:=⟨_,Z⟩
   obtain⟨x2,C⟩:∃x,j[i+2]! = x:=⟨_,Z⟩
   obtain⟨p,O⟩:∃x,j[i+3]! = x:=⟨_,Z⟩
   obtain⟨m,L⟩:∃x,j[i+4]! = x:=⟨_,Z⟩
   obtain⟨c0,f0⟩:=aX y (i:=i) S N;obtain⟨c1,f1⟩:=aX y (i:=(i+1)) S h2;obtain⟨c2,f2⟩:=aX y (i:=(i+2)) S C;obtain⟨c3,f3⟩:=aX y (i:=(i+3)) S O;obtain⟨c4,f4⟩:=aX y (i:=(i+4)) S L;have V:E (j[i]! = s):=N;have q:E (j[i+1]! = x1):=h2;have l:E (j[i+2]! = x2):=C;have f:E (j[i+3]! = p):=O;have c:E (j[i+4]! = m):=L;have Q0:=V;have Q1:=q;have Q2:=l;have Q3:=f;have Q4:=c;have b1:(i:Y)+1<25:=S;have p1:0<=(i:Y)+1:=S;have e1:((i:Y)+1).toNat=i+1:=S;have v1:ZN.wrap ((i:Y)+1)=(i:Y)+1:=po _ S;have b2:(i:Y)+2<25:=S;have p2:0<=(i:Y)+2:=S;have e2:((i:Y)+2).toNat=i+2:=S;have v2:ZN.wrap ((i:Y)+2)=(i:Y)+2:=po _ S;have b3:(i:Y)+3<25:=S;have p3:0<=(i:Y)+3:=S;have e3:((i:Y)+3).toNat=i+3:=S;have v3:ZN.wrap ((i:Y)+3)=(i:Y)+3:=po _ S;have b4:(i:Y)+4<25:=S;have p4:0<=(i:Y)+4:=S;have e4:((i:Y)+4).toNat=i+4:=S;have v4:ZN.wrap ((i:Y)+4)=(i:Y)+4:=po _ S;go_wp2_with fail
   go_quiet (fail);clear c1 c2 c3 c4 f1 f2 f3 f4 b1 p1 e1 v1 b2 p2 e2 v2 b3 p3 e3 v3 b4 p4 e4 v4;go_wp2_with fail
   go_region
   go_wp2_with fail
   generalize a:zy _ _ _=W0;have hq:(bL j i (~~~x1 &&& x2)).size=25:=by rw[cF];omega
   have X:FE enc W0 b off (bL j i (~~~x1 &&& x2)):=by rw[<-a];exact Holds.xor (Holds.drewN y _) S V _
   have h9:Only b off 25 w W0:=by rw[<-a];exact(hO.drewN _).setCell (o:=off+i) S S _
   generalize n:bL j i (~~~x1 &&& x2)=r at *;have h6:E (bL j i (~~~x1 &&& x2)=r):=n;have q:E (r[i+1]! = x1):=by show _=_;rw[<-n,bY S];exact q
   have l:E (r[i+2]! = x2):=by show _=_;rw[<-n,bY S];exact l
   have f:E (r[i+3]! = p):=by show _=_;rw[<-n,bY S];exact f
   have c:E (r[i+4]! = m):=by show _=_;rw[<-n,bY S];exact c
   obtain⟨c1,f1⟩:=aX X (i:=(i+1)) S q;clear n a c0 f0;have b1:(i:Y)+1<25:=S;have p1:0<=(i:Y)+1:=S;have e1:((i:Y)+1).toNat=i+1:=S;have v1:ZN.wrap ((i:Y)+1)=(i:Y)+1:=po _ S;go_region
   go_wp2_with fail
   generalize T:zy _ _ _=W1;have ht:(bL r (i+1) (~~~x2 &&& p)).size=25:=by rw[cF];omega
   have W:FE enc W1 b off (bL r (i+1) (~~~x2 &&& p)):=by rw[<-T];exact Holds.xor X S q _
   have hc:Only b off 25 w W1:=by rw[<-T];exact(h9).setCell (o:=off+(i+1)) S S _
   generalize t:bL r (i+1) (~~~x2 &&& p)=u at *;have h4:E (bL r (i+1) (~~~x2 &&& p)=u):=t;have l:E (u[i+2]! = x2):=by show _=_;rw[<-t,bY S];exact l
   have f:E (u[i+3]! = p):=by show _=_;rw[<-t,bY S];exact f
   have c:E (u[i+4]! = m):=by show _=_;rw[<-t,bY S];exact c
   obtain⟨c2,f2⟩:=aX W (i:=(i+2)) S l;clear b1 p1 e1 v1;have b2:(i:Y)+2<25:=S;have p2:0<=(i:Y)+2:=S;have e2:((i:Y)+2).toNat=i+2:=S;have v2:ZN.wrap ((i:Y)+2)=(i:Y)+2:=po _ S;go_region
   go_wp2_with fail
   generalize Q:zy _ _ _=W2;have hn:(bL u (i+2) (~~~p &&& m)).size=25:=by rw[cF];omega
   have M:FE enc W2 b off (bL u (i+2) (~~~p &&& m)):=by rw[<-Q];exact Holds.xor W S l _
   have h5:Only b off 25 w W2:=by rw[<-Q];exact(hc).setCell (o:=off+(i+2)) S S _
   generalize z:bL u (i+2) (~~~p &&& m)=v at *;have hj:E (bL u (i+2) (~~~p &&& m)=v):=z;have f:E (v[i+3]! = p):=by show _=_;rw[<-z,bY S];exact f
   have c:E (v[i+4]! = m):=by show _=_;rw[<-z,bY S];exact c
   obtain⟨c3,f3⟩:=aX M (i:=(i+3)) S f;clear b2 p2 e2 v2;have b3:(i:Y)+3<25:=S;have p3:0<=(i:Y)+3:=S;have e3:((i:Y)+3).toNat=i+3:=S;have v3:ZN.wrap ((i:Y)+3)=(i:Y)+3:=po _ S;go_region
   go_wp2_with fail
   generalize h0:zy _ _ _=W3;have hm:(bL v (i+3) (~~~m &&& s)).size=25:=by rw[cF];omega
   have h3:FE enc W3 b off (bL v (i+3) (~~~m &&& s)):=by rw[<-h0];exact Holds.xor M S f _
   have he:Only b off 25 w W3:=by rw[<-h0];exact(h5).setCell (o:=off+(i+3)) S S _
   generalize K:bL v (i+3) (~~~m &&& s)=A at *;have hb:E (bL v (i+3) (~~~m &&& s)=A):=K;have c:E (A[i+4]! = m):=by show _=_;rw[<-K,bY S];exact c
   obtain⟨c4,f4⟩:=aX h3 (i:=(i+4)) S c;clear b3 p3 e3 v3;have b4:(i:Y)+4<25:=S;have p4:0<=(i:Y)+4:=S;have e4:((i:Y)+4).toNat=i+4:=S;have v4:ZN.wrap ((i:Y)+4)=(i:Y)+4:=po _ S;go_region
   go_wp2;generalize P:zy _ _ _=W4;have hr:(bL A (i+4) (~~~s &&& x1)).size=25:=by rw[cF];omega
   have h8:FE enc W4 b off (bL A (i+4) (~~~s &&& x1)):=by rw[<-P];exact Holds.xor h3 S c _
   have ha:Only b off 25 w W4:=by rw[<-P];exact(he).setCell (o:=off+(i+4)) S S _
   generalize hg:bL A (i+4) (~~~s &&& x1)=d4 at *;have h7:E (bL A (i+4) (~~~s &&& x1)=d4):=hg;go_roundg (gk-1)
   case measure=>omega
   case rel =>
    refine⟨k+1,d4,S,?_,?_,?_,?_⟩
    .rw[<-Hi.out];go_num
    .exact h8
    .exact ha.drewN 4
    .show d4=rowAt (AU d k) (5*k);rw[<-HE.out,Hi.out];unfold rowAt;rw[Q0.out,Q1.out,Q2.out,Q3.out,Q4.out,h6.out,h4.out,hj.out,hb.out,h7.out]
  .have c:k=5:=S;subst c;go_wp2
   go_end0
   refine⟨Z,hO,?_⟩;show FE enc _ b off (AU d 5);rw[<-HE.out];exact y
end SP
namespace SP
attribute [local go_sem] dD eE dW rN
def J3(k:j<7):∃p:I,wrap64 (wrap64 ((2:Y)^j)-1)=(p:Y)/\p<=63/\E (2^j-1=p):=by
 have H:∀j:B 7,wrap64 (wrap64 ((2:Y)^j.val)-1)=((2^j.val-1:I):Y)/\2^j.val-1<=63:=dK;exact⟨_,(H ⟨j,k⟩).1,(H ⟨j,k⟩).2,Z⟩
def tN(r:I)(w:Zl)(m:r<256):
 cZ 239 #[iZ r] w λe w'=>e=.returned (.tuple #[U (u (rcC r)),iZ (rcN r:Y)])/\w'=w:=by
 go_enter func239,ntmps239;go_wp2
 go_loop [0,2,6] (λs0 s2 s6=>∃j:I,j<=7/\∃(c:BitVec 64) (q:I),s6=iZ j/\s2=U (u c)/\s0=iZ q/\q<256/\E (zL r j=(c,q))) (λ_ _ s6=>7-(intOf s6).toNat)
 exact⟨0,dC,0,r,Z,Z,Z,m,Z⟩;obtain⟨j,v,c,q,rfl,rfl,rfl,g,l⟩:=hrel;by_cases f:j<7
 .have x:=ME g;have a2:=MD g;let⟨p,s,t,o⟩:=J3 f
  have i:E (zL r (j+1)=(c ||| AI 64 (q%2) <<< p,nS q)):=by
   show((zL r j).1 ||| AI 64 ((zL r j).2%2) <<< (2^j-1),nS (zL r j).2)=_;rw[l.out,o.out]
  have hs:=BG (AI 64 (q%2)) p;have b:=zM g;by_cases k:255<2*q
  .have d:E (nS q=2*q ^^^ 369):=GD k;rw[d.out]at b;generalize 2*q ^^^ 369=n at *;go_wp2
   go_round
   case rel=>exact⟨j+1,S,_,n,by go_num,Z,Z,b,by rw[i.out,d.out];rfl⟩
   case measure=>simp[intOf];omega
  have d:E (nS q=2*q):=Id k;go_wp2
  go_round
  case rel=>exact⟨j+1,S,_,2*q,by go_num,Z,by go_num,S,by rw[i.out,d.out];rfl⟩
  case measure=>simp[intOf];omega
 have k:j=7:=S;subst k;go_wp2
 go_ret2
 unfold rcC rcN;rw[l.out];exact⟨Z,Z⟩
theorem xB(b off:I)(d:St)(w:Zl)(hd:d.size=25)(N:FE enc w b off d):
 cZ 226 #[oZ b off] w λe w'=>e=.returned (.tuple #[])/\Only b off 25 w w'/\FE enc w' b off (perm d):=by
 go_enter func226,ntmps226;go_wp2;go_loopg [2,3,4] 24 (λg sc K C wr=>∃(k:I) (c:BitVec 64) (f:St),k+g=24/\C=iZ k/\sc=U (u c)/\K=iZ (Bi k:I)/\FE enc wr b off f/\Only b off 25 w wr/\E (f=pF d k))
 case atStart=>exact⟨0,0,d,Z,Z,Z,Z,N,Only.refl _ _ _ _,Z⟩
 case round =>
  obtain⟨k,c,f,X,rfl,rfl,rfl,v,y,t⟩:=hrel;have hs:f.size=25:=by rw[t.out,pD (d:=d) hd]
  by_cases z:k<24
  .have M:(k:Y)<24:=S;go_wp2_with fail
   apply(Am b off f _ hs v).mono;rintro e V ⟨rfl,l,m⟩;go_wp2_with fail
   apply(xO b off _ _ (by rw[kQ,hs]) m).mono;rintro e w2 ⟨rfl,s,p⟩;go_wp2_with fail
   apply(Ey b off _ _ (mX (by rw[kQ,hs])) p).mono;rintro e W ⟨rfl,n,j⟩;have O:E (Bi (k+1)=rcN (Bi k)):=rfl;have P:E (pF d (k+1)=pU (pF d k) (rcC (Bi k))):=rfl;have q:=PV k;generalize Bi k=r at *;go_wp2_with fail
   apply(tN r _ q).mono;rintro e T ⟨rfl,rfl⟩;have a:(chi (tQ (wW f))).size=25:=by rw[ET,mX (by rw[kQ,hs])]
   obtain⟨x,hx⟩:∃x,(chi (tQ (wW f)))[0]! = x:=⟨_,Z⟩
   obtain⟨L,A⟩:=aX j (i:=0) S hx;rw[qg]at L A;have Q:E ((chi (tQ (wW f)))[0]! = x):=hx;clear hx;go_wp2_with fail
   go_region
   go_wp2;go_roundg (gk-1)
   case measure=>omega
   case rel =>
    refine⟨k+1,rcC r,pU f (rcC r),S,by go_num,Z,by rw[O.out],?_,?_,?_⟩
    .exact Holds.drew (Holds.xor (i:=0) j S Q (rcC r))
    .exact((((y.trans l).trans s).trans n).setCell (o:=off) S S _).drew
    .rw[P.out,t.out];rfl
  .have j:k=24:=S;subst j;go_wp2
   go_end0
   refine⟨Z,y,?_⟩;rw[perm,<-t.out];exact v
end SP
namespace SP
def encI(n:I):Zm:=iZ n
def AP(a:St)(x:I)(c:St):I->St
 | 0=>c
 | y+1=>bL (AP a x c y) x a[x+5*y]!
def qD(a:St):I->St
 | 0=>ZA 5 0
 | x+1=>AP a x (qD a x) 5
def Ak(a:St)(k:R I)(x:I)(v:BitVec 64)(m:St):I->St
 | 0=>m
 | y+1=>(Ak a k x v m y).setIfInBounds (y%5+5*((2*x+3*y)%5)) (rol (a[x+5*y]! ^^^ v) k[x+5*y]!)
def pK(a:St)(k:R I)(c:St):I->St
 | 0=>ZA 25 0
 | x+1=>Ak a k x (bT c x) (pK a k c x) 5
def zX(m:St)(x:I)(o:St):I->St
 | 0=>o
 | y+1=>(zX m x o y).setIfInBounds (x+5*y) (m[x+5*y]! ^^^ (~~~m[(x+1)%5+5*y]! &&& m[(x+2)%5+5*y]!))
def rL(m:St):I->St
 | 0=>ZA 25 0
 | x+1=>zX m x (rL m x) 5
def fE(a:St)(k:R I)(c:BitVec 64):St:=bL (rL (pK a k (qD a 5) 5) 5) 0 c
def AO(a:St)(x:I)(c:St)(y:I):(AP a x c y).size=c.size:=by
 induction y with
 | zero=>rfl
 | succ y ih=>simp[AP,cF,ih]
def Ha(a:St)(x:I):(qD a x).size=5:=by
 induction x with
 | zero=>simp[qD]
 | succ x ih=>simp[qD,AO,ih]
def Ai(a:St)(k:R I)(x:I)(v:BitVec 64)(m:St)(y:I):(Ak a k x v m y).size=m.size:=by
 induction y with
 | zero=>rfl
 | succ y ih=>simp[Ak,ih]
def GF(a:St)(k:R I)(c:St)(x:I):(pK a k c x).size=25:=by
 induction x with
 | zero=>simp[pK]
 | succ x ih=>simp[pK,Ai,ih]
def zW(m:St)(x:I)(o:St)(y:I):(zX m x o y).size=o.size:=by
 induction y with
 | zero=>rfl
 | succ y ih=>simp[zX,ih]
def zV(m:St)(x:I):(rL m x).size=25:=by
 induction x with
 | zero=>simp[rL]
 | succ x ih=>simp[rL,zW,ih]
def Bh{a:St}{k:R I}{c:BitVec 64}:(fE a k c).size=25:=by simp[fE,cF,zV]
structure Of where
 x:I
 y:I
 o:R I
def lV:I->Of
 | 0=>{ x:=1,y:=0,o:=ZA 25 0 }
 | t+1=>{ x:=(lV t).y,y:=(2*(lV t).x+3*(lV t).y)%5,o:=(lV t).o.setIfInBounds ((lV t).x%5+5*((lV t).y%5)) (Aa t) }
def cU:R I:=(lV 24).o
def Qt(t:I):(lV t).x<5/\(lV t).y<5/\(lV t).o.size=25:=by
 induction t with
 | zero=>exact⟨show 1<5 by decide,show 0<5 by decide,show(ZA 25 0).size=25 by simp⟩
 | succ t ih =>
  let⟨h1,k,b⟩:=ih
  refine⟨k,?_,?_⟩
  .show(2*(lV t).x+3*(lV t).y)%5<5;omega
  show((lV t).o.setIfInBounds _ _).size=25;rw[rh,b]
def Ea:I->I
 | 0=>1
 | i+1=>nS (Ea i)
def Rc(t:I):BitVec 64:=AI 64 (Ea t%2)
def ER(r:I):I->BitVec 64
 | 0=>0
 | j+1=>ER r j ||| Rc (j+7*r) <<< (2^j-1)
def G8(r:I):BitVec 64:=ER r 7
def Eb(d:St):I->St
 | 0=>d
 | k+1=>fE (Eb d k) cU (G8 k)
def UR:∀k:B 24,G8 k.val=rcC (Bi k.val):=dK
def zZ:cU=#[0,1,62,28,27,36,44,6,55,20,3,10,43,25,39,41,45,15,21,8,18,2,61,56,14]:=dK
def Mt(x:BitVec 64):rol x 0=x:=by
 rw[rol,BitVec.shiftLeft_zero,wt,BitVec.ushiftRight_eq_zero (Zo 64),BitVec.or_zero]
def zx(x:BitVec 64):0 ^^^ x=x:=BitVec.zero_xor
def QO(a0 y a2 t v u x s r w e f o q c g d i k m p l n b j:BitVec 64):qD #[a0,y,a2,t,v,u,x,s,r,w,e,f,o,q,c,g,d,i,k,m,p,l,n,b,j] 5=#[0 ^^^ a0 ^^^ u ^^^ e ^^^ g ^^^ p,0 ^^^ y ^^^ x ^^^ f ^^^ d ^^^ l,0 ^^^ a2 ^^^ s ^^^ o ^^^ i ^^^ n,0 ^^^ t ^^^ r ^^^ q ^^^ k ^^^ b,0 ^^^ v ^^^ w ^^^ c ^^^ m ^^^ j]:=kR
def LK(a0 y a2 t v u x s r w e f o q c g d i k m p l n b j:BitVec 64):mS #[a0,y,a2,t,v,u,x,s,r,w,e,f,o,q,c,g,d,i,k,m,p,l,n,b,j] 5=#[a0 ^^^ u ^^^ e ^^^ g ^^^ p,y ^^^ x ^^^ f ^^^ d ^^^ l,a2 ^^^ s ^^^ o ^^^ i ^^^ n,t ^^^ r ^^^ q ^^^ k ^^^ b,v ^^^ w ^^^ c ^^^ m ^^^ j]:=kR
def US(a0 y a2 t v u x s r w e f o q c g d i k m p l n b j:BitVec 64):qD #[a0,y,a2,t,v,u,x,s,r,w,e,f,o,q,c,g,d,i,k,m,p,l,n,b,j] 5=mS #[a0,y,a2,t,v,u,x,s,r,w,e,f,o,q,c,g,d,i,k,m,p,l,n,b,j] 5:=by
 rw[QO,LK];simp only[zx]
def Qw(S:St)(a0 y a2 t v u x s r w e f o q c g d i k m p l n b j:BitVec 64):pK #[a0,y,a2,t,v,u,x,s,r,w,e,f,o,q,c,g,d,i,k,m,p,l,n,b,j] #[0,1,62,28,27,36,44,6,55,20,3,10,43,25,39,41,45,15,21,8,18,2,61,56,14] S 5=#[rol (a0 ^^^ bT S 0) 0,rol (x ^^^ bT S 1) 44,rol (o ^^^ bT S 2) 43,rol (k ^^^ bT S 3) 21,rol (j ^^^ bT S 4) 14,rol (t ^^^ bT S 3) 28,rol (w ^^^ bT S 4) 20,rol (e ^^^ bT S 0) 3,rol (d ^^^ bT S 1) 45,rol (n ^^^ bT S 2) 61,rol (y ^^^ bT S 1) 1,rol (s ^^^ bT S 2) 6,rol (q ^^^ bT S 3) 25,rol (m ^^^ bT S 4) 8,rol (p ^^^ bT S 0) 18,rol (v ^^^ bT S 4) 27,rol (u ^^^ bT S 0) 36,rol (f ^^^ bT S 1) 10,rol (i ^^^ bT S 2) 15,rol (b ^^^ bT S 3) 56,rol (a2 ^^^ bT S 2) 62,rol (r ^^^ bT S 3) 55,rol (c ^^^ bT S 4) 39,rol (g ^^^ bT S 0) 41,rol (l ^^^ bT S 1) 2]:=kR
def PO(S:St)(a0 y a2 t v u x s r w e f o q c g d i k m p l n b j:BitVec 64):tQ (lF S #[a0,y,a2,t,v,u,x,s,r,w,e,f,o,q,c,g,d,i,k,m,p,l,n,b,j] 5)=#[a0 ^^^ bT S 0,rol (x ^^^ bT S 1) 44,rol (o ^^^ bT S 2) 43,rol (k ^^^ bT S 3) 21,rol (j ^^^ bT S 4) 14,rol (t ^^^ bT S 3) 28,rol (w ^^^ bT S 4) 20,rol (e ^^^ bT S 0) 3,rol (d ^^^ bT S 1) 45,rol (n ^^^ bT S 2) 61,rol (y ^^^ bT S 1) 1,rol (s ^^^ bT S 2) 6,rol (q ^^^ bT S 3) 25,rol (m ^^^ bT S 4) 8,rol (p ^^^ bT S 0) 18,rol (v ^^^ bT S 4) 27,rol (u ^^^ bT S 0) 36,rol (f ^^^ bT S 1) 10,rol (i ^^^ bT S 2) 15,rol (b ^^^ bT S 3) 56,rol (a2 ^^^ bT S 2) 62,rol (r ^^^ bT S 3) 55,rol (c ^^^ bT S 4) 39,rol (g ^^^ bT S 0) 41,rol (l ^^^ bT S 1) 2]:=kR
def Un(S:St)(a0 y a2 t v u x s r w e f o q c g d i k m p l n b j:BitVec 64):pK #[a0,y,a2,t,v,u,x,s,r,w,e,f,o,q,c,g,d,i,k,m,p,l,n,b,j] cU S 5=tQ (lF S #[a0,y,a2,t,v,u,x,s,r,w,e,f,o,q,c,g,d,i,k,m,p,l,n,b,j] 5):=by
 rw[zZ,Qw,PO,Mt]
def Uc{a0 y a2 t v u x s r w e f o q c g d i k m p l n b j:BitVec 64}:rL #[a0,y,a2,t,v,u,x,s,r,w,e,f,o,q,c,g,d,i,k,m,p,l,n,b,j] 5=chi #[a0,y,a2,t,v,u,x,s,r,w,e,f,o,q,c,g,d,i,k,m,p,l,n,b,j]:=kR
def Up{l:G α}(h:l.length=25):∃a0 z a2 u w v y t s x e f p r c g d i k n q m o b j,l=[a0,z,a2,u,w,v,y,t,s,x,e,f,p,r,c,g,d,i,k,n,q,m,o,b,j]:=by
 match l,h with
 | [a0,z,a2,u,w,v,y,t,s,x,e,f,p,r,c,g,d,i,k,n,q,m,o,b,j],_=>exact⟨_,_,_,_,_,_,_,_,_,_,_,_,_,_,_,_,_,_,_,_,_,_,_,_,_,Z⟩
def SH{d:R α}(h:d.size=25):∃a0 a a2 v x w z u t y f g q s c i e j k o r n p b m,d=#[a0,a,a2,v,x,w,z,u,t,y,f,g,q,s,c,i,e,j,k,o,r,n,p,b,m]:=by
 let⟨l⟩:=d
 obtain⟨a0,a,a2,v,x,w,z,u,t,y,f,g,q,s,c,i,e,j,k,o,r,n,p,b,m,rfl⟩:=Up h;exact⟨_,_,_,_,_,_,_,_,_,_,_,_,_,_,_,_,_,_,_,_,_,_,_,_,_,Z⟩
def Qi{m:St}(h:m.size=25):rL m 5=chi m:=by
 obtain⟨a0,z,a2,u,w,v,y,t,s,x,e,f,p,r,c,g,d,i,k,n,q,l,o,b,j,rfl⟩:=SH h;exact Uc
def round_eq{d:St}(h:d.size=25)(c:BitVec 64):fE d cU c=pU d c:=by
 have o:pK d cU (qD d 5) 5=tQ (wW d):=by
  obtain⟨a0,A,a2,w,y,x,a,v,u,z,g,i,r,t,e,j,f,l,k,p,s,n,q,b,m,rfl⟩:=SH h;rw[US,Un];rfl
 unfold fE pU;rw[o,Qi (mX (by rw[kQ,h]))]
def Mz{d:St}(h:d.size=25)(b:k<=24):Eb d k=pF d k:=by
 induction k with
 | zero=>rfl
 | succ k ih =>
  show fE (Eb d k) cU (G8 k)=pU (pF d k) (rcC (Bi k));rw[ih S,UR ⟨k,S⟩,round_eq (pD h k)]
def GA:∀i,i<25->cU[i]! < 64:=by
 intro i k;have H:∀j:B 25,cU[j.val]! < 64:=dK;exact H ⟨i,k⟩
def nH:cU.size=25:=by rw[zZ];rfl
end SP
namespace SP
open Go.Sort
def eI:St:=ZA 25 0
def mJ(bs:Bs):Bs:=front (perm (iM bs eI 25)) 200
def sH(bs:Bs):I->St
 | 0=>eI
 | i+1=>(sH bs i).setIfInBounds (i/8) ((sH bs i)[i/8]! ||| wide bs[i]! <<< (8*(i%8)))
def mK{bs:Bs}:(sH bs i).size=25:=by
 induction i with
 | zero=>simp[sH,eI]
 | succ i ih=>simp[sH,ih]
def kL(h:j<25):eI[j]! = 0:=by
 have k:j<(ZA 25 (0:BitVec 64)).size:=by rw[ZL];exact h
 rw[eI,getElem!_pos (ZA 25 (0:BitVec 64)) j k,xh]
def Qm(bs:Bs)(f:n<=200)(d:j<25):
 (sH bs n)[j]! = if j<n/8 then mP bs (8*j) else if j=n/8 then lT bs (8*j) (n%8) else 0:=by
 induction n with
 | zero =>
  rw[sH,kL d];by_cases h:j=0
  .subst h;rfl
  simp[h]
 | succ n b =>
  have b:=b S;rw[sH];by_cases k:j=n/8
  .rw[<-k,getElem!_set_same _ _ _ (by rw[mK];omega),b,Id S,GD k];have e:bs[n]! = bs[8*j+n%8]!:=by
    have:n=8*j+n%8:=S;rw[<-this]
   rw[e];show lT bs (8*j) (n%8+1)=_;by_cases c:n%8=7
   .rw[GD S,c];rfl
   rw[Id S,GD S,show(n+1)%8=n%8+1 by omega]
  rw[getElem!_set_other _ _ _ _ k,b];by_cases h1:j<n/8
  .rw[GD h1,GD S]
  rw[Id h1,Id k,Id S];by_cases c:j=(n+1)/8
  .rw[GD c,show(n+1)%8=0 by omega];rfl
  rw[Id c]
def uF{d:St}(bs:Bs)(hd:d.size=25)(e:n<=25)(c:j<25):(iM bs d n)[j]! = if j<n then d[j]! ^^^ mP bs (8*j) else d[j]!:=by
 induction n with
 | zero=>rfl
 | succ n b =>
  have b:=b S;rw[iM];unfold bL;by_cases k:j=n
  .rw[<-k,getElem!_set_same _ _ _ (by rw[eD,hd];exact c),GD S];rw[<-k]at b;rw[b,Id S]
  rw[getElem!_set_other _ _ _ _ k,b];by_cases h1:j<n
  .rw[GD h1,GD S]
  rw[Id h1,Id S]
def FM{a b:St}(c:a.size=25)(d:b.size=25)(h:∀j,j<25->a[j]! = b[j]!):a=b:=by
 apply yEQ S;intro i h1 k;have:=h i S;rwa[getElem!_pos a i h1,getElem!_pos b i k]at this
def Ue(bs:Bs):sH bs 200=iM bs eI 25:=by
 have b:eI.size=25:=by simp[eI]
 refine FM mK (by rw[eD,b]) (λj k=>?_);rw[Qm bs (Zo _) k,uF bs b (Zo _) k,GD S,GD k,kL k,zx]
def JR{bs:Bs}:front (Eb (sH bs 200) 24) 200=mJ bs:=by
 rw[Mz mK (Zo _),Ue];rfl
/-! ### Words and bytes -/
def Lv(x : Fk)(i : I): (wide x).getLsbD i=x.toNat.testBit i:=by
  rw[wide, BitVec.getLsbD_ofNat];by_cases h : i<64
  · simp[h]
  · have : x.toNat.testBit i=D:=yE9 (Zn x.toNat_lt (qp dC (by omega : 8 <= i)))
    simp[h, this]
def Bq(h:8<=i):x.toNat.testBit i=D:=
 yE9 (Zn x.toNat_lt (qp dC h))
def rP{bs:Bs}(f:n<=8)(b:k<64):(lT bs o n).getLsbD k=(decide (k<8*n) && (bs[o+k/8]!).toNat.testBit (k%8)):=by
 induction n with
 | zero=>simp[lT]
 | succ n ih =>
  rw[lT,BitVec.getLsbD_or,ih S,BitVec.getLsbD_shiftLeft,Lv];by_cases h1:k<8*n
  .simp[h1,b,show k<8*(n+1) by omega]
  by_cases c:k<8*(n+1)
  .have d:k/8=n:=S;have e:k-8*n=k%8:=S;simp[h1,c,b,d,e]
  have:=Bq (x:=bs[o+n]!) (i:=(k-8*n)) S;simp[h1,c,b,this]
def low_bit(v:BitVec 64)(i:I)(h:i<8):(low v).toNat.testBit i=v.getLsbD i:=by
 rw[low,yCh,I.testBit_mod_two_pow,BitVec.getLsbD];simp[h]
def GR(d:St)(e:k<=n)(b:j<n):(eY d n k)[j]! = if j<k then byteOf d j else 0:=by
 induction k with
 | zero =>
  have c:j<(ZA n (0:Fk)).size:=by rw[ZL];exact b
  rw[eY,getElem!_pos (ZA n (0:Fk)) j c,xh,Id S]
 | succ k ih =>
  rw[eY];by_cases h:j=k
  .subst h;rw[getElem!_set_same _ _ _ (by rw[kK];exact b),GD S]
  rw[getElem!_set_other _ _ _ _ h,ih S];by_cases h1:j<k
  .rw[GD h1,GD S]
  rw[Id h1,Id S]
def kW{d:St}(k:j<n):(front d n)[j]! = byteOf d j:=by
 rw[front,GR d (Zo _) k,GD k]
def yU(d:St)(n j:I)(f:8*j+8<=n):mP (front d n) (8*j)=d[j]!:=by
 apply yEK;intro k b;rw[mP,rP (Zo _) b,kW (d:=d) (n:=n) S];unfold byteOf;have c:(8*j+k/8)/8=j:=S;have e:(8*j+k/8)%8=k/8:=S;rw[low_bit _ _ (gD _ dC),BitVec.getLsbD_ushiftRight,c,e,show 8*(k/8)+k%8=k by omega];simp[b]
def Km{d:St}(hd:d.size=25):iM (front d 200) eI 25=d:=by
 have b:eI.size=25:=by simp[eI]
 refine FM (by rw[eD,b]) hd (λj k=>?_);rw[uF _ b (Zo _) k,GD k,kL k,zx,yU d 200 j S]
def Eo{d:St}(hd:d.size=25):mJ (front d 200)=front (perm d) 200:=by
 rw[mJ,Km hd]
/-! ### The sponge, byte by byte -/
structure Sp where
  d : St
  p : Bs
  h : I
structure Ok(S:Sp):Prop where
 d25:S.d.size=25
 p136:S.p.size=136
 hlt:S.h<136
def lI(S:Sp):Sp:={ d:=perm (iM S.p S.d 17),p:=S.p,h:=0 }
def Bj(S:Sp)(x:Fk):Sp:=
 if S.h+1=136 then lI { d:=S.d,p:=S.p.setIfInBounds S.h x,h:=S.h } else { d:=S.d,p:=S.p.setIfInBounds S.h x,h:=S.h+1 }
def eK(S:Sp)(l:G Fk):Sp:=l.foldl Bj S
def splice(p:Bs):I->G Fk->Bs
 | _,[]=>p
 | i,x :: r=>splice (p.setIfInBounds i x) (i+1) r
def iI(S:Sp)(a b:G Fk):eK S (a++b)=eK (eK S a) b:=G.foldl_append
def cQ{p:Bs}:(splice p i l).size=p.size:=by
 induction l generalizing p i with
 | nil=>rfl
 | cons x r ih=>rw[splice,ih,rh]
def jB(p:Bs)(i:I)(l:G Fk)(j:I)(hl:i+l.length<=p.size)(k:j<p.size):(splice p i l)[j]! = if i<=j/\j<i+l.length then l[j-i]! else p[j]!:=by
 induction l generalizing p i with
 | nil=>simp[splice];omega
 | cons x r ih =>
  simp only[Z9]at hl;rw[splice,ih _ _ (by rw[rh];omega) (by rw[rh];exact k)];by_cases h:j=i
  .subst h;rw[Id S,getElem!_set_same _ _ _ k,GD (by simp),I.sub_self];rfl
  rw[getElem!_set_other _ _ _ _ h];by_cases h1:i+1<=j/\j<i+1+r.length
  .rw[GD h1,GD (by simp;omega),show j-i=(j-(i+1))+1 by omega];rfl
  rw[Id h1,Id (by simp;omega)]
def mU(d:St)(p:Bs)(h:I):lI ⟨d,p,h⟩=⟨perm (iM p d 17),p,0⟩:=by unfold lI;rfl
def Pw(S:Sp):(lI S).d=perm (iM S.p S.d 17):=by
 let⟨d,p,h⟩:=S
 rw[mU]
def Pu(S:Sp):(lI S).p=S.p:=by
 let⟨d,p,h⟩:=S
 rw[mU]
def Pv(S:Sp):(lI S).h=0:=by
 let⟨d,p,h⟩:=S
 rw[mU]
def Pr{S:Sp}(h1:S.d.size=25)(k:S.p.size=136):Ok (lI S):=by
 refine⟨?_,by rw[Pu,k],?_⟩
 .rw[Pw];exact vW (by rw[eD,h1])
 rw[Pv];decide
def ID{S:Sp}(h:Ok S):Ok (Bj S x):=by
 have:=h.hlt;unfold Bj;by_cases e:S.h+1=136
 .rw[GD e];exact Pr h.d25 (by show(S.p.setIfInBounds _ _).size=136;rw[rh];exact h.p136)
 rw[Id e];exact⟨h.d25,by show(S.p.setIfInBounds _ _).size=136;rw[rh];exact h.p136,by show S.h+1<136;omega⟩
def iH{S:Sp}(h:Ok S)(l:G Fk):Ok (eK S l):=by
 induction l generalizing S with
 | nil=>exact h
 | cons x r ih=>exact ih (ID h)
def TS{S:Sp}(h:Ok S)(x:Fk):(Bj S x).h=(S.h+1)%136:=by
 have:=h.hlt;unfold Bj;by_cases e:S.h+1=136
 .rw[GD e,e];rfl
 rw[Id e,ZC oM]
def Ie{S:Sp}(h:Ok S)(l:G Fk):(eK S l).h=(S.h+l.length)%136:=by
 induction l generalizing S with
 | nil=>exact(ZC h.hlt).symm
 | cons x r ih =>
  show(eK (Bj S x) r).h=_;rw[ih (ID h),TS h x,Z9];omega
def oG(S:Sp)(hl:l≠[])(k:S.h+l.length<=136):
 eK S l=if S.h+l.length=136 then lI { d:=S.d,p:=splice S.p S.h l,h:=S.h } else { d:=S.d,p:=splice S.p S.h l,h:=S.h+l.length }:=by
 induction l generalizing S with
 | nil=>exact absurd Z hl
 | cons x r ih =>
  show eK (Bj S x) r=_;simp only[Z9]at k⊢;cases r with
  | nil =>
   unfold Bj eK splice;simp only[G.foldl_nil,uh];by_cases e:S.h+1=136
   .rw[GD e,GD oM];rfl
   rw[Id e,Id oM];rfl
  | cons y r' =>
   have e:¬S.h+1=136:=by simp only[Z9]at k;omega
   have c:Bj S x = { d:=S.d,p:=S.p.setIfInBounds S.h x,h:=S.h+1 }:=by unfold Bj;rw[Id e]
   rw[c,ih _ (by simp) (by simp only[Z9]at k⊢;omega)];simp only[splice,Z9];by_cases b:S.h+(r'.length+1+1)=136
   .rw[GD oM,GD b];rfl
   rw[Id oM,Id b,show S.h+1+(r'.length+1)=S.h+(r'.length+1+1) by omega]
/-! ### The end -/
def ended(p : Bs)(h : I)(e : Fk): Bs:=
  let q:=(splice p h (qz (136-h) 0)).setIfInBounds h e
  q.setIfInBounds 135 (q[135]! ^^^ 128)
def wK(S:Sp)(e:Fk):Sp:=lI { d:=S.d,p:=ended S.p S.h e,h:=S.h }
def jM(h:I)(e:Fk):G Fk:=
 (e :: qz (135-h) 0).set (135-h) ((e :: qz (135-h) 0)[135-h]! ^^^ 128)
def eN(e:Fk)(hh:h<136):(jM h e).length=136-h:=by
 rw[jM,G.length_set,Z9,z8];omega
def Do{a b:Bs}(c:a.size=n)(d:b.size=n)(h:∀j,j<n->a[j]! = b[j]!):a=b:=by
 apply yEQ S;intro i h1 k;have:=h i S;rwa[getElem!_pos a i h1,getElem!_pos b i k]at this
def Ua(e:Fk)(k:j<136-h)(hh:h<136):(jM h e)[j]! = (if j=0 then e else 0) ^^^ (if j=135-h then 128 else 0):=by
 have b:∀j,j<136-h->(e :: qz (135-h) (0:Fk))[j]! = if j=0 then e else 0:=by
  intro j k;cases j with
  | zero=>rfl
  | succ j =>
   have hl:j+1<(e :: qz (135-h) (0:Fk)).length:=by rw[Z9,z8];omega
   rw[getElem!_pos (e :: qz (135-h) (0:Fk)) (j+1) hl];simp
 have hl:j<(e :: qz (135-h) (0:Fk)).length:=by rw[Z9,z8];omega
 rw[getElem!_pos (jM h e) j (by rw[eN e hh];exact k)];unfold jM;rw[G.getElem_set];by_cases h1:135-h=j
 .rw[GD h1,b (135-h) S,h1,GD (rfl:j=j)]
 rw[Id h1,Id (show ¬j=135-h by omega)];have:=b j k;rw[getElem!_pos (e :: qz (135-h) (0:Fk)) j hl]at this;rw[this];simp
def GW(p:Bs)(h:I)(e:Fk):(ended p h e).size=p.size:=by
 unfold ended;simp only[rh,cQ]
def D9(h:j<n):(qz n (0:Fk))[j]! = 0:=by
 rw[getElem!_pos _ j (by simpa using h)];simp
def NW{p:Bs}(c:p.size=136)(hh:h<136):ended p h e=splice p h (jM h e):=by
 have hs:(splice p h (qz (136-h) 0)).size=136:=by rw[cQ,c]
 refine Do (n:=136) (by rw[GW,c]) (by rw[cQ,c]) (λj f=>?_);have d:∀j,j<136->((splice p h (qz (136-h) 0)).setIfInBounds h e)[j]! = if j<h then p[j]! else if j=h then e else 0:=by
  intro j f;by_cases h1:j=h
  .rw[h1,getElem!_set_same _ _ _ S,Id S,GD Z]
  rw[getElem!_set_other _ _ _ _ h1,jB _ _ _ _ (by rw[z8,c];omega) S,z8];by_cases b:j<h
  .rw[Id S,GD b]
  rw[GD S,Id b,Id h1,D9 S]
 have hR:(splice p h (jM h e))[j]! = if j<h then p[j]! else(if j=h then e else 0) ^^^ (if j=135 then 128 else 0):=by
  rw[jB _ _ _ _ (by rw[eN e hh,c];omega) S,eN e hh];by_cases b:j<h
  .rw[Id (show ¬(h<=j/\j<h+(136-h)) by omega),GD b]
  rw[GD (show h<=j/\j<h+(136-h) by omega),Id b,Ua e S hh];have k:(j-h=0)=(j=h):=by apply propext;omega
  have g:(j-h=135-h)=(j=135):=by apply propext;omega
  simp only[k,g]
 have g:(ended p h e)[j]! = if j<h then p[j]! else(if j=h then e else 0) ^^^ (if j=135 then 128 else 0):=by
  unfold ended;by_cases k:j=135
  .rw[k,getElem!_set_same _ _ _ (by rw[rh,hs];decide),d 135 dC,Id (show ¬135<h by omega),Id (show ¬135<h by omega),GD (rfl:135=135)]
  rw[getElem!_set_other _ _ _ _ k,d j f];by_cases b:j<h
  .rw[GD b,GD b]
  rw[Id b,Id b,Id k];simp
 rw[g,hR]
def B8{S:Sp}(h:Ok S)(e:Fk):wK S e=eK S (jM S.h e):=by
 have:=h.hlt;have hl:=eN e h.hlt;rw[oG S (by intro c;rw[c]at hl;simp at hl;omega) oM,GD oM];rw[wK,NW h.p136 h.hlt]
end SP
namespace SP
def Only.widen(h:Only b o n w w')(h1:k<=o)(e:o+n<=k+c):Only b k c w w':=
 ⟨h.os,h.tape,h.output,h.size,h.block,λq d=>h.cell q S,h.froz⟩
structure HSp(w:Zl)(b:I)(S:Sp):Prop where
 d:FE enc w b 0 S.d
 p:FE encB w b 25 S.p
 h:w.cell? ⟨b,161,F⟩=J (iZ (S.h:Y))
 f:w.frozen? ⟨b,161,F⟩=D
def HSp.drew{S:Sp}(h:HSp w b S):HSp w.drew b S:=⟨h.d,h.p,h.h,h.f⟩
def HSp.lt{S:Sp}(h:HSp w b S):b<w.heap.size:=vj _ _ h.h
def HSp.below{B:I}{S:Sp}(h:HSp w b S)(k:Below B w w')(c:b<B):HSp w' b S:=
 ⟨Holds.below h.d k c,Holds.below h.p k c,by rw[k.cell (p:=⟨b,161,F⟩) c];exact h.h,by rw[k.frozen (p:=⟨b,161,F⟩) c];exact h.f⟩
theorem zD(b:I)(S:Sp)(w:Zl)(c:S.d.size=25)(g:S.p.size=136)(q:HSp w b S):
 ae prog 208 #[.pointer (J ⟨b,0,F⟩)] w λe w'=>e=.returned (.tuple #[])/\Only b 0 162 w w'/\HSp w' b (lI S):=by
 let⟨d,p,h⟩:=S
 dsimp only at c g;have C:FE enc w b 0 d:=q.d;have a:FE encB w b 25 p:=q.p;have A:=q.h;have hf:=q.f;dsimp only at A;rw[mU];clear q;have z:(perm (iM p d 17)).size=25:=vW (by rw[eD,c]);generalize n:perm (iM p d 17)=K at z⊢;have x:E (perm (iM p d 17)=K):=n;clear n;go_enter func208,ntmps208;go_wp2;go_still_tail 7,mixed;go_wp2_with fail
 apply(Qy b 0 b 25 136 136 p d _ c (Holds.drew C) (Holds.drew a) g dC (Zo _) oM).mono;rintro e s ⟨rfl,j,m⟩;have k:Only b 0 25 w s:=((Only.refl b 0 25 w).drew).trans j;have l:FE enc s b 0 (iM p d 17):=m;have u:=Holds.same a k oM;have c1:s.cell? ⟨b,161,F⟩=J (.int .i64 h):=by rw[k.cell 161 oM];exact A
 have f1:s.frozen? ⟨b,161,F⟩=D:=by rw[k.froz];exact hf
 clear j m;go_wp2_with fail
 apply(xB b 0 _ _ (by rw[eD,c]) l).mono;rintro e r ⟨rfl,f,o⟩;rw[x.out]at o;have v:=Holds.same u f oM;have c2:r.cell? ⟨b,161,F⟩=J (.int .i64 h):=by rw[f.cell 161 oM];exact c1
 have f2:r.frozen? ⟨b,161,F⟩=D:=by rw[f.froz];exact f1
 go_wp2
 go_end0
 have i:Only b 161 1 r (r.setCell ⟨b,161,F⟩ (.int .i64 0)):=(Only.refl b 161 1 r).setCell oM oM _;have y:=Holds.same o i (Z5 oM);have t:=Holds.same v i (Z5 oM);exact⟨Z,((k.trans f).widen (Zo _) oM).trans (i.widen oM oM),⟨y,t,yDy _ _ _ c2,by rw[AT];exact f2⟩⟩
def ints5:gZ 5 1:=gQ
def iN{p:Bs}(h:FE encB w b o p)(i:I)(l:G Fk)(d:i+l.length<=p.size):FE encB (w.setCells b (o+i) (l.map encB)) b o (splice p i l):=by
 refine Holds.setCells h _ i cQ (by rw[ZI];exact d) (λj c=>?_) (λj c k=>?_)
 .rw[ZI]at c;rw[jB p i l (i+j) d S,GD S,xV,getElem!_pos l j c,uq]
 rw[ZI]at k;rw[jB p i l j d c,Id S]
def piece(bs:Bs)(k n:I):G Fk:=(bs.toList.drop k).take n
def uA(bs:Bs)(k n:I)(h:k+n<=bs.size):(piece bs k n).length=n:=by
 rw[piece,zc,yDF,ZE];omega
def piece_at(bs:Bs)(k:I)(h:k+n<=bs.size)(b:j<n)(hl:j<(piece bs k n).length):(piece bs k n)[j]=bs[k+j]!:=by
 have e:(piece bs k n)[j]? = J bs[k+j]!:=by
  rw[piece,G.getElem?_take_of_lt b,G.getElem?_drop,qi,ZS S,getElem!_pos bs (k+j) S]
 exact(Zz.1 e).2
def FC(bs:Bs)(k n:I):bs.toList.take (k+n)=bs.toList.take k++piece bs k n:=yGc
def G7{e len:I}{p bs:Bs}(l:FE encB w b 25 p)(u:p.size=136)(s:FE encB w e o bs)(hh:h<136)(t:k+len<=bs.size)(f:I.min len (136-h)=n):
 (zn #[22,22] 3 #[qZ b (25+h) (136-h) (136-h),qZ e (o+k) len cap]).run prog w=.ok (goInt n) (w.setCells b (25+h) ((piece bs k n).map encB)):=by
 have m:n<=len:=by rw[<-f];exact yEL _ _
 have r:n<=136-h:=by rw[<-f];exact yEA _ _
 have c:((piece bs k n).map encB).length=n:=by rw[ZI,uA bs k n S]
 have:=run_copy_cells (P:=prog) w 22 22 3 5 b (25+h) (136-h) (136-h) ⟨e,o+k,F⟩ len cap ((piece bs k n).map encB) slice22 ints5 (by rw[c,f])
  (λj v d=>by
   let⟨h1,g⟩:=Zz.1 d
   rw[c]at h1;rw[uq,piece_at bs k S h1]at g;have q:(⟨e,o+k,F⟩:gE).add j=⟨e,o+(k+j),F⟩:=by
    unfold ts;by_cases i:j=0
    .subst i;rw[GD Z];rfl
    rw[Id i,tz]
   rw[q,(s (k+j) S).1,g])
  (λj d=>by
   rw[c]at d;have:=(l (h+j) S).1;rw[<-tz]at this;rw[this];rfl)
  (λj d=>by
   rw[c]at d;have:=(l (h+j) S).2;rw[<-tz]at this;exact this)
  (λv hv=>by
   obtain⟨x,_,rfl⟩:=Z1.1 hv;rfl)
 rw[c]at this;exact this
def uH{d:St}{p:Bs}{v:Zm}(l:FE enc w b 0 d)(i:d.size=25)(g:FE encB w b 25 p)(e:p.size=136)(j:w.cell? ⟨b,161,F⟩=J v)(hf:w.frozen? ⟨b,161,F⟩=D):
 HSp (w.setCell ⟨b,161,F⟩ (iZ ((m:I):Y))) b ⟨d,p,m⟩:=by
 have f:Only b 161 1 w (w.setCell ⟨b,161,F⟩ (iZ ((m:I):Y))):=(Only.refl b 161 1 w).setCell S S _;have c:=Holds.same l f (Z5 S);have k:=Holds.same g f (Z5 S);exact⟨c,k,yDy _ _ _ j,by rw[AT];exact hf⟩
theorem take_any(b:I)(S:Sp)(a:GJ gE)(x y len cap:I)(bs:Bs)(w:Zl)(h2:Ok S)(hS:HSp w b S)(hl:bs.size=len)(h7:len<=cap)(h8:len<=1099511627776)
 (c:len=0\/(a=J ⟨x,y,F⟩/\x≠b/\FE encB w x y bs)) :
 ae prog 207 #[.pointer (J ⟨b,0,F⟩),.slice a len cap] w λe w'=>e=.returned (.tuple #[])/\Only b 0 162 w w'/\HSp w' b (eK S bs.toList):=by
 go_enter func207,ntmps207;go_wp2;go_loopg [1] len (λg s1 wr=>∃(k:I) (a':GJ gE) (i:Sp),k+g=len/\s1=.slice a' (len-k) (cap-k)/\(k<len->a'=J ⟨x,y+k,F⟩)/\HSp wr b i/\Only b 0 162 w wr/\E (i=eK S (bs.toList.take k)))
 case atStart =>
  refine⟨0,a,S,oM,Z,λd=>?_,hS,Only.refl _ _ _ _,Z⟩;rcases c with h|⟨h,_,_⟩
  .omega
  .exact h
 case round =>
  obtain⟨k,a',i,hk,rfl,h6,m,hO,HE⟩:=hrel;by_cases h3:k<len
  .have e1:=h6 h3;subst e1;obtain⟨_,W,hB⟩:a=J ⟨x,y,F⟩/\x≠b/\FE encB w x y bs:=by
    rcases c with h|h
    .omega
    .exact h
   have O:=Holds.other hB hO W oM;have f:Ok i:=by rw[HE.out];exact iH h2 _
   obtain⟨q,hh⟩:=vH i.h;have p:=f.hlt;have C:=f.p136;rw[hh]at p;have hc:=m.h;rw[hh]at hc;have hP:=m.p;obtain⟨n,P⟩:=vH (I.min (len-k) (136-q));have l0:(0:Y)<((len-k:I):Y):=oM;have h4:(q:Y)<=136:=oM;have Hh:E (i.h=q):=hh;clear hh;have Q:=eq_false oM;have h9:1<=n:=by rw[<-P];exact(I.le_min).2 ⟨oM,oM⟩
   have he:n<=len-k:=by rw[<-P];exact yEL _ _
   have ha:n<=136-q:=by rw[<-P];exact yEA _ _
   have V:=G7 (w:=wr.drew) (cap:=cap-k) (k:=k) hP C O p oM P;have u:=uA bs k n oM;have r:=iN (Holds.drew hP) q (piece bs k n) oM;have t:Only b 0 162 w (wr.drew.setCells b (25+q) ((piece bs k n).map encB)):=hO.drew.setCells _ _ oM (by rw[ZI];omega);have A:Only b 25 136 wr (wr.drew.setCells b (25+q) ((piece bs k n).map encB)):=((Only.refl b 25 136 wr).drew).setCells _ _ oM (by rw[ZI];omega);have s:=Holds.same m.d A (Z5 (by rw[f.d25];omega));have c1:(wr.drew.setCells b (25+q) ((piece bs k n).map encB)).cell? ⟨b,161,F⟩=J (.int .i64 q):=by rw[A.cell 161 oM];exact hc
   have f1:(wr.drew.setCells b (25+q) ((piece bs k n).map encB)).frozen? ⟨b,161,F⟩=D:=by rw[A.froz];exact m.f
   have T:E (eK S (bs.toList.take (k+n))=eK i (piece bs k n)):=by
    show _=_;rw[FC,iI,<-HE.out]
   have d:E (eK i (piece bs k n)=if q+n=136 then lI ⟨i.d,splice i.p q (piece bs k n),q⟩ else⟨i.d,splice i.p q (piece bs k n),q+n⟩):=by
    show _=_;have:=oG i (l:=(piece bs k n)) (by intro e;rw[e]at u;simp at u;omega) (by rw[u,Hh.out];omega);rw[u,Hh.out]at this;exact this
   have j:(splice i.p q (piece bs k n)).size=136:=by rw[cQ,C]
   have l:=f.d25;generalize h5:wr.drew.setCells b (25+q) ((piece bs k n).map encB)=W1 at V r t s c1 f1;generalize splice i.p q (piece bs k n)=sp at r j d;generalize i.d=L at s l d;clear A h5 hP O f u m C P;have z1:(n:Y)<=((len-k:I):Y):=oM;by_cases z:cap-k=n
   .have N:(cap-k=n)=True:=eq_true z;have M:E (cap-k=n):=z;clear z;by_cases c:q+n=136
    .have X:((q:Y)+(n:Y) == 136)=H:=beq_iff_eq.2 oM;rw[GD c]at d;go_wp2_with fail
     go_still_tail 9,mixed;go_wp2_with fail
     refine(zD b ⟨L,sp,q+n⟩ _ l j (uH s l r j c1 f1 (m:=(q+n)))).mono ?_;rintro e w2 ⟨rfl,K,v⟩;go_wp2;go_roundg (gk-n)
     case measure=>omega
     case rel =>
      refine⟨k+n,J ⟨x,y+k,F⟩,lI ⟨L,sp,q⟩,oM,by rw[DS,DS],λhx=>oN M.out,?_,?_,?_⟩
      .rw[mU]at v⊢;exact v
      .exact(t.setCell (o:=161) oM oM _).trans K
      .rw[T.out,d.out];rfl
    .have X:=beq_eq_false_iff_ne.2 oM;rw[Id c]at d;go_wp2_with fail
     go_still_tail 9,mixed;go_wp2;go_roundg (gk-n)
     case measure=>omega
     case rel =>
      refine⟨k+n,J ⟨x,y+k,F⟩,⟨L,sp,q+n⟩,oM,by rw[DS,DS],λhx=>oN M.out,?_,?_,?_⟩
      .exact uH s l r j c1 f1 (m:=(q+n))
      .exact t.setCell (o:=161) oM oM _
      .rw[T.out,d.out];rfl
   .have N:=eq_false z;by_cases c:q+n=136
    .have X:=beq_iff_eq.2 oM;rw[GD c]at d;go_wp2_with fail
     go_still_tail 9,mixed;go_wp2_with fail
     refine(zD b ⟨L,sp,q+n⟩ _ l j (uH s l r j c1 f1 (m:=(q+n)))).mono ?_;rintro e w2 ⟨rfl,K,v⟩;go_wp2;go_roundg (gk-n)
     case measure=>omega
     case rel =>
      refine⟨k+n,J ⟨x,y+k+n,F⟩,lI ⟨L,sp,q⟩,oM,by rw[DS,DS],λ_=>by rw[tz],?_,?_,?_⟩
      .rw[mU]at v⊢;exact v
      .exact(t.setCell (o:=161) oM oM _).trans K
      .rw[T.out,d.out];rfl
    .have X:=beq_eq_false_iff_ne.2 oM;rw[Id c]at d;go_wp2_with fail
     go_still_tail 9,mixed;go_wp2;go_roundg (gk-n)
     case measure=>omega
     case rel =>
      refine⟨k+n,J ⟨x,y+k+n,F⟩,⟨L,sp,q+n⟩,oM,by rw[DS,DS],λ_=>by rw[tz],?_,?_,?_⟩
      .exact uH s l r j c1 f1 (m:=(q+n))
      .exact t.setCell (o:=161) oM oM _
      .rw[T.out,d.out];rfl
  .have c:k=len:=oM;go_wp2
   go_end0
   refine⟨Z,hO,?_⟩;have e1:bs.toList.take k=bs.toList:=yDE (by rw[ZE];omega);rw[HE.out,e1]at m;exact m
def uC(x:Fk):yu 8 (x.toNat:Y)=x.toBitVec:=by
 apply BitVec.eq_of_toNat_eq;rw[BitVec.ofInt_natCast,BitVec.toNat_ofNat];exact ZC x.toNat_lt
def Cg(x y:Fk):bits .xor .u8 (ub x) (ub y)=ub (x ^^^ y):=by
 show yEY.wrap ((yu 8 (x.toNat:Y) ^^^ yu 8 (y.toNat:Y)).toNat:Y)=_;rw[uC,uC,<-Fk.toBitVec_xor];have h:((x ^^^ y).toNat:Y)<256:=oN ((x ^^^ y).toNat_lt);have e:∀n:Y,yEY.wrap n=n%256:=λn=>by simp[IntKind.wrap,IntKind.bits,IntKind.signed]
 rw[e];exact Y.emod_eq_of_lt (yFw _) h
def Ro(x:Fk):bits .xor .u8 (ub x) 128=ub (x ^^^ 128):=Cg x 128
def Vn:∀w:Zl,(zeroValue 5).run prog w=.ok (.int .u8 0) w:=λ_=>kR
def ES{q:I}{p:Bs}(k:FE encB w b 25 p)(e:p.size=136)(f:q<136)(c:ZR):
 (Builtin.clear_ #[22] c #[qZ b (25+q) (136-q) (136-q)]).run prog w=.ok (.tuple #[]) (w.setCells b (25+q) ((qz (136-q) (0:Fk)).map encB)):=by
 have h:=Lib.run_clear_slice (P:=prog) w 22 5 c (.int .u8 0) slice22 Vn Z Z b (25+q) (136-q) (136-q) S
  (λj d=>by
   have:=(k (q+j) S).1;rw[<-tz]at this;rw[this];rfl)
  (λj d=>by
   have:=(k (q+j) S).2;rw[<-tz]at this;exact this)
 rw[G.map_replicate];exact h
theorem Jh(b:I)(S:Sp)(e:Fk)(w:Zl)(l:Ok S)(a:HSp w b S):
 ae prog 161 #[.pointer (J ⟨b,0,F⟩),.int .u8 (ub e)] w λr w'=>r=.returned (.tuple #[])/\Only b 0 162 w w'/\HSp w' b (wK S e):=by
 let⟨d,p,q⟩:=S
 have P:d.size=25:=l.d25;have n:p.size=136:=l.p136;have hq:q<136:=l.hlt;have hD:FE enc w b 0 d:=a.d;have hP:FE encB w b 25 p:=a.p;have hc:w.cell? ⟨b,161,F⟩=J (.int .i64 q):=a.h;have hf:=a.f;have A:=ES (Holds.drew hP) n hq 0;have t:Only b 25 136 w (w.drew.setCells b (25+q) ((qz (136-q) (0:Fk)).map encB)):=((Only.refl b 25 136 w).drew).setCells _ _ oM (by rw[ZI,z8];omega);have f:=iN (Holds.drew hP) q (qz (136-q) (0:Fk)) (by rw[z8];omega);have y:(splice p q (qz (136-q) 0)).size=136:=by rw[cQ,n]
 have v:E (wK ⟨d,p,q⟩ e=lI ⟨d,((splice p q (qz (136-q) 0)).setIfInBounds q e).setIfInBounds 135 (((splice p q (qz (136-q) 0)).setIfInBounds q e)[135]! ^^^ 128),q⟩):=by
  show _=_;unfold wK ended;rfl
 generalize w.drew.setCells b (25+q) ((qz (136-q) (0:Fk)).map encB)=K at A t f;generalize splice p q (qz (136-q) 0)=sp at f y v;have L:(136=q)=False:=eq_false oM;have O:(q:Y)<=136:=oM;have C:(q:Y)<136:=oM;have c1:K.cell? ⟨b,161,F⟩=J (.int .i64 q):=by rw[t.cell 161 oM];exact hc
 let⟨c2,f2⟩:=f q oM
 let⟨k,c⟩:∃s,sp.setIfInBounds q e=s:=⟨_,Z⟩
 rw[c]at v;have T:k.size=136:=by rw[<-c,rh,y]
 let⟨x,hx⟩:∃x,k[135]! = x:=⟨_,Z⟩
 rw[hx]at v;have h2:=Ro x;have u:=Holds.set f (i:=q) oM e;rw[c]at u;have z:Only b 25 136 w (K.setCell ⟨b,25+q,F⟩ (.int .u8 (ub e))):=t.setCell (o:=25+q) oM oM _;have j:FE encB (K.setCell ⟨b,25+q,F⟩ (.int .u8 (ub e))) b 25 k:=u;have HX:E (k[135]! = x):=hx;rw[v.out];clear a l hP c hx u v;have N:(k.setIfInBounds 135 (x ^^^ 128)).size=136:=by rw[rh,T]
 go_enter func161,ntmps161;go_wp2;go_still_tail 8,mixed;go_wp2_with fail
 go_region
 go_wp2_with fail
 generalize K.setCell ⟨b,25+q,F⟩ (.int .u8 (ub e))=X at j z⊢;let⟨c3,f3⟩:=uR j 135 oM HX
 clear c1 c2 f2 A f;go_region
 go_wp2_with fail
 have Q:=Holds.set j (i:=135) oM (x ^^^ 128);have g:Only b 25 136 w (X.setCell ⟨b,160,F⟩ (.int .u8 (ub (x ^^^ 128)))):=z.setCell (o:=160) oM oM _;have m:FE encB (X.setCell ⟨b,160,F⟩ (.int .u8 (ub (x ^^^ 128)))) b 25 (k.setIfInBounds 135 (x ^^^ 128)):=Q;generalize X.setCell ⟨b,160,F⟩ (.int .u8 (ub (x ^^^ 128)))=W3 at m g⊢;have V:FE enc W3 b 0 d:=Holds.same hD g (Z5 oM);have W:HSp W3 b ⟨d,k.setIfInBounds 135 (x ^^^ 128),q⟩:=⟨V,m,by rw[g.cell 161 oM];exact hc,by rw[g.froz];exact hf⟩
 apply(zD b ⟨d,k.setIfInBounds 135 (x ^^^ 128),q⟩ _ P N W.drew.drew).mono;rintro r w4 ⟨rfl,h0,M⟩;go_wp2
 go_end0
 exact⟨Z,(g.drew.drew.widen oM oM).trans h0,M⟩
end SP
namespace SP
open Go.Sort
def dX(d:St):I->St
 | 0=>d
 | m+1=>perm (dX d m)
def dA{d:St}(hd:d.size=25)(m:I):(dX d m).size=25:=by
 induction m with
 | zero=>exact hd
 | succ m ih=>exact vW ih
def dM(d:St)(j:I):Fk:=byteOf (dX d (j/136)) (j%136)
def iK(d:St)(n:I):Bs:=R.ofFn (λi:B n=>dM d i.val)
def iJ{d:St}:(iK d n).size=n:=by simp[iK]
def rS(d:St)(k:j<n):(iK d n)[j]! = dM d j:=by
 rw[getElem!_pos (iK d n) j (by rw[iJ];exact k)];simp[iK]
def S0:Sp:=⟨eI,ZA 136 0,0⟩
def uS:Ok S0:=⟨by simp[S0,eI],by simp[S0],dC⟩
def lC(l:G Fk)(e:Fk):St:=(wK (eK S0 l) e).d
def qJ:(lC l e).size=25:=by
 unfold lC;have h:=iH uS l;rw[B8 h];exact(iH h _).d25
def BZ(l:G Fk):Bs:=front (lC l 6) 32
def oH(l:G Fk)(n:I):Bs:=iK (lC l 31) n
def EK(l:G Fk):BZ l=iK (lC l 6) 32:=by
 unfold BZ;refine Do aW iJ (λj k=>?_);rw[kW k,rS _ k];rw[dM,qv S,ZC S];rfl
/-! ### The reference: all bytes with what stands behind them, piece by piece -/
def total(l : G Fk)(e : Fk): G Fk:=l ++ jM (l.length%136) e
def tC(l:G Fk)(e:Fk):(total l e).length=136*(l.length/136+1):=by
 rw[total,Zv,eN _ (gD _ dC)];omega
def Ds(l:G Fk)(e:Fk):lC l e=(eK S0 (total l e)).d:=by
 unfold lC total;have h:=iH uS l;rw[iI,B8 h,Ie uS l];have:S0.h=0:=rfl;rw[this,Zs]
def uY(st:Bs)(T:G Fk)(o:I):I->Bs
 | 0=>st
 | k+1=>(uY st T o k).setIfInBounds k ((uY st T o k)[k]! ^^^ T[o+k]!)
def Br(st:Bs)(T:G Fk)(o k:I):(uY st T o k).size=st.size:=by
 induction k with
 | zero=>rfl
 | succ k ih=>rw[uY,rh,ih]
def O2{st:Bs}(c:k<=st.size)(b:j<st.size):(uY st T o k)[j]! = if j<k then st[j]! ^^^ T[o+j]! else st[j]!:=by
 induction k with
 | zero=>rfl
 | succ k ih =>
  rw[uY];by_cases h:j=k
  .subst h;rw[getElem!_set_same _ _ _ (by rw[Br];exact b),ih S,Id S,GD S]
  rw[getElem!_set_other _ _ _ _ h,ih S];by_cases h1:j<k
  .rw[GD h1,GD S]
  rw[Id h1,Id S]
def mE(T:G Fk):I->Bs
 | 0=>ZA 200 0
 | i+1=>mJ (uY (mE T i) T (136*i) 136)
def Fo:front eI 200=ZA 200 0:=by
 refine Do aW (by rw[ZL]) (λj k=>?_);have b:j<(ZA 200 (0:Fk)).size:=by rw[ZL];exact k
 rw[kW k,getElem!_pos (ZA 200 (0:Fk)) j b,xh];rw[byteOf,kL S];unfold low;simp
def O1(x y:Fk)(i:I):(x ^^^ y).toNat.testBit i=(x.toNat.testBit i ^^ y.toNat.testBit i):=by
 rw[Fk.toNat_xor,I.testBit_xor]
def Qx{d:St}(hd:d.size=25)(p:Bs)(T:G Fk)(o:I)(i:∀j,j<136->p[j]! = T[o+j]!):
 iM (uY (front d 200) T o 136) eI 25=iM p d 17:=by
 have g:eI.size=25:=by simp[eI]
 refine FM (by rw[eD,g]) (by rw[eD,hd]) (λj e=>?_);rw[uF _ g (Zo _) e,GD e,kL e,zx,uF _ hd (n:=17) dC e];apply yEK;intro k f;have n:∀m,m<200->(uY (front d 200) T o 136)[m]! = if m<136 then(front d 200)[m]! ^^^ T[o+m]! else(front d 200)[m]!:=λm l =>
  O2 (by rw[aW];decide) (by rw[aW];exact l)
 have c:=congrArg (λv=>v.getLsbD k) (yU d 200 j S);simp only[mP]at c⊢;rw[rP (Zo _) f]at c⊢;rw[n _ S];by_cases b:j<17
 .rw[GD S,GD b,BitVec.getLsbD_xor,<-c,rP (Zo _) f,O1,i _ S];simp[f]
 rw[Id S,Id b,<-c]
def FD(T:G Fk)(i:I):T.take (136*(i+1))=T.take (136*i)++(T.drop (136*i)).take 136:=by
 rw[show 136*(i+1)=136*i+136 by omega,yGc]
def MA(h:136*i<=T.length):mE T i=front (eK S0 (T.take (136*i))).d 200:=by
 induction i with
 | zero =>
  rw[xe,xu];exact Fo.symm
 | succ i ih =>
  rw[mE,ih oM,FD T i,iI];have k:=iH uS (T.take (136*i));have hh:(eK S0 (T.take (136*i))).h=0:=by
   rw[Ie uS,zc,yF1 oM];have:S0.h=0:=rfl;omega
  generalize eK S0 (T.take (136*i))=S at k hh;let⟨d,p,q⟩:=S
  have b:p.size=136:=k.p136;have c:=hh;subst c;have hl:((T.drop (136*i)).take 136).length=136:=by rw[zc,yDF];omega
  rw[oG _ (by intro e;rw[e]at hl;simp at hl) (by rw[hl];exact Zo _),hl,GD Z,mU];rw[mJ,Qx k.d25 (splice p 0 ((T.drop (136*i)).take 136)) T (136*i)];intro j f;rw[jB _ _ _ _ (by rw[hl,b];decide) oM,GD oM,wt,getElem!_pos _ j (by rw[hl];exact f),getElem!_pos T (136*i+j) oM];rw[G.getElem_take,G.getElem_drop]
def Ec:mE (total l e) (l.length/136+1)=front (lC l e) 200:=by
 have h:=tC l e;rw[MA S,Ds,yDE S]
end SP
namespace SP
def qH{l:I}{cur bs:Bs}(p:FE encB w g 0 cur)(hs:cur.size=cap)(A:FE encB w r 0 bs)(y:bs.size=n)(o:k=n)(e:l+n<=cap)(t:ZR):
 (oT #[22,22] t #[sZ g l cap,sZ r k c]).run prog w=.ok (sZ g (l+n) cap) (w.setCells g l (bs.toList.map encB)):=by
 subst o;let⟨i,z,_,d,_⟩:=info_parts info5
 have b:(bs.toList.map encB).length=k:=by rw[ZI,ZE,y]
 have f:Src prog i.size 22 (sZ r k c) k (bs.toList.map encB) w:=by
  rw[d];refine yGB w slice22 (aZ r) k c _ (by rw[b,ri]) (λj v m=>?_) (λv hv=>?_)
  .let⟨h1,q⟩:=Zz.1 m
   rw[b]at h1;have u:=(A j S).1;rw[getElem!_pos bs j S]at u;rw[uq,Bk]at q;have a:(⟨r,0,F⟩:gE).add j=⟨r,0+j,F⟩:=by
    unfold ts;by_cases s:j=0
    .subst s;rw[GD Z]
    rw[Id s]
   rw[a,u,q]
  obtain⟨x,_,rfl⟩:=Z1.1 hv;rfl
 have h:=run_append_room_src (P:=prog) w 22 22 t 5 i slice22 z g 0 l cap (sZ r k c) k _ f e
  (λj m=>by
   rw[b]at m;rw[d,ri,tz,(p (l+j) S).1];rfl)
  (λj m=>by
   rw[b]at m;rw[d,ri,tz];exact(p (l+j) S).2)
 rw[d,ri,Zs]at h;exact h
def Only.with_new{p:I}{c d:Zl}(h:Only b o n w c)(k:Only g p m c d)(s:w.heap.size<=g)(r:b<w.heap.size):Only b o n w d:=by
 have hs:=h.size;have e:=k.block b S S;exact⟨k.os.trans h.os,k.tape.trans h.tape,k.output.trans h.output,Zw h.size k.size,
  λj l i=>(k.block j S S).trans (h.block j l i),
  λq f=>(ZP (w:=c) (a:=⟨b,q,F⟩) e).trans (h.cell q f),λq=>(sI (w:=c) (a:=⟨b,q,F⟩) e).trans (h.froz q)⟩
def Gs(d:St)(h:¬m=0):perm (dX d (m-1))=dX d m:=by
 obtain⟨k,rfl⟩:∃k,m=k+1:=⟨m-1,S⟩
 rw[CA,dX]
def DT{d:St}{cur:Bs}(k:136*m+136<=cur.size)(h:∀j,j<136*m->cur[j]! = dM d j):∀j,j<136*(m+1)->(splice cur (136*m) (front (dX d m) 136).toList)[j]! = dM d j:=by
 intro j b;have hl:(front (dX d m) 136).toList.length=136:=by rw[ZE,aW]
 rw[jB _ _ _ _ (by rw[hl];exact k) S,hl];by_cases h1:j<136*m
 .rw[Id S,h j h1]
 rw[GD S,getElem!_pos _ (j-136*m) (by rw[hl];omega),Bk,<-getElem!_pos (front (dX d m) 136) (j-136*m) (by rw[aW];omega),kW S];rw[dM,show j/136=m by omega,show j%136=j-136*m by omega]
def NJ(b:I)(d:St)(n:I)(w:Zl)(f:d.size=25)(hD:FE enc w b 0 d)(hn:n<=16384):
 cZ 227 #[jZ b,iZ n] w λe w'=>e=.returned (sZ w.heap.size n n)/\Only b 0 25 w w'/\FE encB w' w.heap.size 0 (iK d n):=by
 have T:=Holds.lt hD S;obtain⟨i,hi,L,h0,h2⟩:=info_parts info5;obtain⟨t,V⟩:=vH (n+136);have h6:∀w:Zl,(ue 22 (iZ 0) (iZ ((n:Y)+136))).run prog w=.ok (sZ w.heap.size 0 t) (w.alloc (.cells (madeCells #[.int .u8 0] t) 5)):=by
  intro w;have h:=run_make (P:=prog) w 22 5 i (.int .u8 0) slice22 hi L .i64 .i64 0 ((n:Y)+136) S S (by rw[h2];omega) S;rw[h0,ri,show((n:Y)+136).toNat=t by omega]at h;exact h
 go_enter func227,ntmps227;go_wp2;go_loopg [5] t (λg s5 wr=>∃(m l:I) (cur:Bs),E (l=136*m)/\l+g=t/\1<=g/\s5=sZ w.heap.size l t/\FE encB wr w.heap.size 0 cur/\cur.size=t/\FE enc wr b 0 (dX d (m-1))/\Only b 0 25 w wr/\w.heap.size<wr.heap.size/\E (∀j,j<136*m->cur[j]! = dM d j))
 case atStart=>exact⟨0,0,_,Z,S,oN ((mk1 V).out),Z,Holds.made (enc:=encB) w 5 t 0,by rw[ZL],Holds.below hD ((ZF w.heap.size w).alloc (Zo _) (.cells (madeCells #[.int .u8 0] t) 5)) T,(Only.refl _ _ _ _).alloc T _,(by simp),λj hj=>S⟩
 case round =>
  obtain⟨m,l,cur,y,hg,h5,rfl,Q,v,A,W,hs,HE⟩:=hrel;by_cases h4:l<n
  .have h3:(l:Y)<(n:Y):=S;have HN:E (∀j,j<136*(m+1)->(splice cur l (front (dX d m) 136).toList)[j]! = dM d j):=by
    rw[y.out];exact DT (d:=d) (m:=m) (cur:=cur) (by rw[<-y.out];omega) HE
   by_cases N:m=0
   .have L:¬(0:Y)<(l:Y):=oN y.out;have r:FE enc wr b 0 (dX d m):=by rw[N]at A⊢;exact A
    go_wp2_with fail
    refine(wI b 0 136 _ _ (dA (d:=d) f m) r dC).mono ?_;rintro e C ⟨rfl,p,X⟩;have o:=Holds.below Q p (Holds.lt Q S);have z:=Holds.below r p (Holds.lt r (by rw[dA (d:=d) f];decide));have M:=qH (l:=l) (k:=136) (n:=136) (c:=136) o v X aW Z S 22;have s:=iN o l (front (dX d m) 136).toList (by rw[ZE,aW];omega);rw[Zs]at s;have a:=W.trans (Only.of_below p Z (Holds.lt r (by rw[dA (d:=d) f];decide)));have q:Only w.heap.size 0 t C (C.setCells w.heap.size l ((front (dX d m) 136).toList.map encB)):=(Only.refl _ _ _ _).setCells _ _ S (by rw[ZI,ZE,aW];omega);have O:=a.with_new q (Zo _) T;have u:=Holds.other z q S (by rw[dA (d:=d) f];decide);have K:=Zn (Holds.lt o S) q.size;generalize C.setCells w.heap.size l ((front (dX d m) 136).toList.map encB)=W3 at M s O u K;have x:E _:=M;go_wp2_with (at_builtin;refine uy _ Z _ _ 22 22 Z _ _ Z Z _ _ x.out ?_)
    go_roundg (gk-136)
    case measure=>omega
    case rel =>
     exact⟨m+1,l+136,_,by have:=y.out;show _=_;omega,S,S,Z,s,by rw[cQ,v],u,O,K,HN⟩
   .have O:(0:Y)<(l:Y):=oN y.out;go_wp2_with fail
    refine(xB b 0 _ _ (dA (d:=d) f (m-1)) A).mono ?_;rintro e w1 ⟨rfl,K,r⟩;rw[Gs d (m:=m) N]at r;have M:=Holds.other Q K S S;go_wp2_with fail
    refine(wI b 0 136 _ _ (dA (d:=d) f m) r dC).mono ?_;rintro e C ⟨rfl,p,X⟩;have o:=Holds.below M p (Holds.lt M S);have z:=Holds.below r p (Holds.lt r (by rw[dA (d:=d) f];decide));have s:=iN o l (front (dX d m) 136).toList (by rw[ZE,aW];omega);rw[Zs]at s;have a:=(W.trans K).trans (Only.of_below p Z (Holds.lt r (by rw[dA (d:=d) f];decide)));have q:Only w.heap.size 0 t C (C.setCells w.heap.size l ((front (dX d m) 136).toList.map encB)):=(Only.refl _ _ _ _).setCells _ _ S (by rw[ZI,ZE,aW];omega);have u:=Holds.other z q S (by rw[dA (d:=d) f];decide);have x:E _:=qH (l:=l) (k:=136) (n:=136) (c:=136) o v X aW Z S 22;go_wp2_with (at_builtin;refine uy _ Z _ _ 22 22 Z _ _ Z Z _ _ x.out ?_)
    go_roundg (gk-136)
    case measure=>omega
    case rel =>
     exact⟨m+1,l+136,_,by have:=y.out;show _=_;omega,S,S,Z,s,by rw[cQ,v],u,a.with_new q (Zo _) T,Zn (Holds.lt o S) q.size,HN⟩
  .have o:(n:Y)<=(l:Y):=S;go_wp2;go_ret;refine⟨Z,W,λj hj=>?_⟩;rw[iJ]at hj;have:=Q j S;rw[HE.out j (oN y.out)]at this;rw[rS d (n:=n) (j:=j) hj];exact this
def fB:R Zm:=ZA 25 (U 0)++ZA 136 (.int .u8 0)++#[iZ 0]
def Lq:∀w:Zl,(zeroValue 232).run prog w=.ok (.agg fB) w:=λ_=>kR
def LV(k:j<25):fB[j]? = J (U 0):=by
 have h1:j<(ZA 25 (U 0)).size:=by rw[ZL];exact k
 rw[fB,yFn,yDo h1,ZS h1,xh]
def LS(k:j<136):fB[25+j]? = J (.int .u8 0):=by
 have h1:j<(ZA 136 (gM .u8 0)).size:=by rw[ZL];exact k
 rw[fB,yFn,yEs (by rw[ZL];omega),ZL,xV,yDo h1,ZS h1,xh]
def LU:fB[161]? = J (iZ 0):=by
 rw[fB,yEs (by rw[pq,ZL,ZL];decide),pq,ZL,ZL];rfl
def I3(w:Zl)(t:ZR):HSp (w.alloc (.cells fB t)) w.heap.size S0:=by
 refine⟨λj b=>?_,λj b=>?_,?_,?_⟩
 .have k:j<25:=by simpa[S0,eI]using b
  rw[oX,xn,Zs,LV k];refine⟨?_,Z⟩;have e:S0.d[j]! = 0:=kL k;rw[e];rfl
 .have k:j<136:=by simpa[S0]using b
  rw[oX,xn,LS k];refine⟨?_,Z⟩;have e:S0.p[j]! = 0:=rep_at 136 j k;rw[e];rfl
 .rw[oX,LU];rfl
 rw[xn]
def Bc(a:GJ gE)(c f len cap n:I)(bs:Bs)(w:Zl)(x:n<=16384)(hl:bs.size=len)(i:len<=cap)(j:len<=1099511627776)(m:len=0\/(a=J ⟨c,f,F⟩/\FE encB w c f bs)):
 ae prog 210 #[.slice a len cap,.int .i64 n] w λe w'=>∃r,e=.returned (.tuple #[.slice (J ⟨r,0,F⟩) n n,.int .i64 0])/\w.heap.size<=r/\Below w.heap.size w w'/\FE encB w' r 0 (oH bs.toList n):=by
 have g:=I3 w 232;have b:Below w.heap.size w (w.alloc (.cells fB 232)):=(ZF _ _).alloc (Zo _) _;have o:w.heap.size<(w.alloc (.cells fB 232)).heap.size:=by simp
 have k:len=0\/(a=J ⟨c,f,F⟩/\c≠w.heap.size/\FE encB (w.alloc (.cells fB 232)) c f bs):=by
  by_cases p:len=0
  .exact Z5 p
  rcases m with h|⟨h1,l⟩
  .exact Z5 h
  have d:=Holds.lt l S;exact ZW ⟨h1,S,Holds.below l b d⟩
 have A:=Lq;go_enter func210,ntmps210;go_wp2_with fail
 generalize w.alloc (.cells fB 232)=u at g b o k⊢;apply(take_any w.heap.size S0 a c f len cap bs u uS g hl i j k).mono;rintro e t ⟨rfl,d,q⟩;go_wp2_with fail
 apply(Jh w.heap.size (eK S0 bs.toList) 31 t (iH uS _) q).mono;rintro e y ⟨rfl,l,s⟩;go_wp2_with fail
 apply(NJ w.heap.size _ n _ qJ s.d x).mono;rintro e z ⟨rfl,p,v⟩;go_wp2
 go_ret2
 have s1:=d.size;have s2:=l.size;exact⟨y.heap.size,Z,S,(b.trans ((d.trans l).below S (Zo _))).trans (p.below S (Zo _)),v⟩
end SP
namespace SP
def Own(B:I)(w:Zl)(v:Zm)(T:G Fk):Prop:=
 ∃g cap cur,v=sZ g T.length cap/\B<=g/\g<w.heap.size/\yFt cur=cap/\T.length<=cap/\FE encB w g 0 cur/\∀j,j<T.length->cur[j]! = T[j]!
def Holds.front[Inhabited α]{f:α->Zm}{d e:Array α}(h:FE f w b o d)(hs:e.size<=d.size)(k:∀j,j<e.size->e[j]! = d[j]!):FE f w b o e:=by
 intro j c;rw[k j c];exact h j S
def pP(T:G Fk)(j:I):T.toArray[j]! = T[j]!:=by
 by_cases h:j<T.length
 .rw[getElem!_pos T.toArray j (by simpa using h),getElem!_pos T j h];simp
 rw[getElem!_neg T.toArray j (by simpa using h),getElem!_neg T j h]
def Ao{a b:G Fk}(h:j<a.length):(a++b)[j]! = a[j]!:=by
 rw[getElem!_pos (a++b) j (by rw[Zv];omega),getElem!_pos a j h,G.getElem_append_left h]
def rM{a b:G Fk}(h:a.length<=j)(k:j<a.length+b.length):(a++b)[j]! = b[j-a.length]!:=by
 rw[getElem!_pos (a++b) j (by rw[Zv];omega),getElem!_pos b (j-a.length) S,G.getElem_append_right h]
variable {B:Nat}{w w1:Zl}{v:Zm}{T:List UInt8}
def Own.holds(h:Own B w (sZ g n cap) T):B<=g/\n=T.length/\T.length<=cap/\FE encB w g 0 T.toArray:=by
 let⟨e,k,cur,hv,d,_,hs,hl,c,hT⟩:=h
 injection hv with e1 e2 e3
 injection e1 with e1
 injection e1 with e1 _ _
 subst e1 e3;exact⟨d,e2,hl,Holds.front c (by simp;omega) (λj b=>by rw[pP];exact(hT j (by simpa using b)).symm)⟩
def Own.below(h:Own B w v T)(k:Below w.heap.size w w1):Own B w1 v T:=by
 let⟨g,cap,cur,hv,d,b,hs,hl,c,hT⟩:=h
 exact⟨g,cap,cur,hv,d,Zn b k.size,hs,hl,Holds.below c k b,hT⟩
def nN(s:Fd)(g:B<=w.heap.size):
 ∃b w',(convert 9 22 (.string s)).run prog w=.ok b w'/\Own B w' b s.data.toList/\Below w.heap.size w w'/\b=.slice (J ⟨w.heap.size,0,F⟩) s.size (grownCap w s.size 0 5):=by
 have e:s.size<=grownCap w s.size 0 5:=by
  unfold grownCap yFL;exact yDc _ _
 have hl:s.data.size=s.size:=rfl;refine⟨_,_,Lib.run_convert_string_bytes (P:=prog) w 9 22 5 s str9 slice22 int5,⟨w.heap.size,grownCap w s.size 0 5,s.data++ZA (grownCap w s.size 0 5-s.size) 0,?_,g,by rw[yFq];omega,?_,?_,?_,?_⟩,?_,Z⟩
 .rw[ZE];rfl
 .rw[pq,ZL];omega
 .rw[ZE];omega
 .intro j b;rw[pq,ZL]at b;have f:=Lib.bytesWorld_at_new w 5 s;have d:(yDO w 5 s).size=grownCap w s.size 0 5:=by
   rw[yDO,pq,R.size_map,ZL];omega
  have i:(yDO w 5 s)=(s.data++ZA (grownCap w s.size 0 5-s.size) 0).map encB:=by
   rw[yDO,yFE,yDR];rfl
  have c:j<(s.data++ZA (grownCap w s.size 0 5-s.size) 0).size:=by rw[pq,ZL];exact b
  constructor
  .unfold yy;rw[f];simp only[Zs];rw[Id dC,i,R.getElem?_map,ZS c,yDD,getElem!_pos _ j c]
  unfold yDW;rw[f];simp only[Zs,d];simp;omega
 .intro j b;rw[ZE]at b;rw[app_front _ _ j b,getElem!_pos s.data.toList j (by rw[ZE];exact b),Bk]
 refine⟨?_,?_,?_,?_,λk b=>Lib.bytesWorld_at_old w 5 s k b⟩
 .unfold yEJ yEW;rw[Id dC];rfl
 .unfold yEJ yEW;rw[Id dC];rfl
 .unfold yEJ yEW;rw[Id dC];rfl
 rw[yFq];omega
def Holds.below'[Inhabited α]{f:α->Zm}{c:Zl}{d:Array α}(h:FE f w b o d)(k:Below w.heap.size w c):FE f c b o d:=by
 intro j e;exact Holds.below h k (Holds.lt h S) j e
def GO:(BZ l).size=32:=by rw[BZ,aW]
end SP
namespace SP
def aV(n d:I):Fk:=ZG (n/d)
def dR:(n:Y)/(d:Y)%256=ub (aV n d):=by
 have k:((n:Y)/(d:Y))=((n/d:I):Y):=by rw[yDH]
 rw[k];unfold ub aV;rw[yCh];omega
def pQ(n:I):(n:Y)%256=ub (aV n 1):=by
 have:=dR (n:=n) (d:=1);rw[show((1:I):Y)=1 from Z,Y.ediv_one]at this;exact this
def jI(l:G Fk):G Fk:=[aV l.length 16777216,aV l.length 65536,aV l.length 256,aV l.length 1]++l
def jP(l:G Fk):(jI l).length=l.length+4:=by
 rw[jI,Zv];simp only[Z9,uh];omega
def nK{y z:Fk}(w:Zl)(t:Fk):FE encB (w.alloc (.cells #[.int .u8 (ub x),.int .u8 (ub y),.int .u8 (ub z),.int .u8 (ub t)] 5)) w.heap.size 0 #[x,y,z,t]:=by
 have h:=Holds.new (enc:=encB) w 5 #[x,y,z,t];have e:yGD encB #[x,y,z,t]=#[.int .u8 (ub x),.int .u8 (ub y),.int .u8 (ub z),.int .u8 (ub t)]:=by simp[encB]
 rw[e]at h;exact h
def rJ(b:I)(S:Sp)(a:GJ gE)(c f len cap:I)(bs:Bs)(w:Zl)(p:Ok S)(y:HSp w b S)(hl:bs.size=len)(l:len<=cap)(n:len<=1099511627776)
 (g:len=0\/(a=J ⟨c,f,F⟩/\c≠b/\FE encB w c f bs)) :
 ae prog 160 #[.pointer (J ⟨b,0,F⟩),.slice a len cap] w λe w'=>e=.returned (.tuple #[])/\Only b 0 162 w w'/\HSp w' b (eK S (jI bs.toList)):=by
 have v:=y.lt;have b0:(len:Y)/16777216%256=ub (aV len 16777216):=dR;have b1:(len:Y)/65536%256=ub (aV len 65536):=dR;have L:(len:Y)/256%256=ub (aV len 256):=dR;have K:(len:Y)%256=ub (aV len 1):=pQ len;have C:E (jI bs.toList=(#[aV len 16777216,aV len 65536,aV len 256,aV len 1]:Bs).toList++bs.toList):=by
  rw[jI,ZE,hl];rfl
 have x:=nK w (x:=(aV len 16777216)) (y:=(aV len 65536)) (z:=(aV len 256)) (aV len 1);generalize aV len 16777216=i at *;generalize aV len 65536=x1 at *;generalize aV len 256=x2 at *;generalize aV len 1=j at *;have d:Below w.heap.size w (w.alloc (.cells #[.int .u8 (ub i),.int .u8 (ub x1),.int .u8 (ub x2),.int .u8 (ub j)] 5)):=(ZF _ _).alloc (Zo _) _;have m:=y.below d v;have q:Only b 0 162 w (w.alloc (.cells #[.int .u8 (ub i),.int .u8 (ub x1),.int .u8 (ub x2),.int .u8 (ub j)] 5)):=Only.of_below d Z v;have k:len=0\/(a=J ⟨c,f,F⟩/\c≠b/\FE encB (w.alloc (.cells #[.int .u8 (ub i),.int .u8 (ub x1),.int .u8 (ub x2),.int .u8 (ub j)] 5)) c f bs):=by
  by_cases t:len=0
  .exact Z5 t
  rcases g with h|⟨h1,r,s⟩
  .exact Z5 h
  exact ZW ⟨h1,r,Holds.below s d (Holds.lt s oM)⟩
 go_enter func160,ntmps160;go_wp2_with fail
 generalize w.alloc (.cells #[.int .u8 (ub i),.int .u8 (ub x1),.int .u8 (ub x2),.int .u8 (ub j)] 5)=A at x d m q k⊢;apply(take_any b S (J ⟨w.heap.size,0,F⟩) w.heap.size 0 4 4 #[i,x1,x2,j] A p m Z (Zo _) dC (ZW ⟨Z,oM,x⟩)).mono;rintro e z ⟨rfl,o,u⟩;have g:len=0\/(a=J ⟨c,f,F⟩/\c≠b/\FE encB z c f bs):=by
  by_cases t:len=0
  .exact Z5 t
  rcases k with h|⟨h1,r,s⟩
  .exact Z5 h
  exact ZW ⟨h1,r,Holds.other s o r oM⟩
 go_wp2_with fail
 apply(take_any b _ a c f len cap bs z (iH p _) u hl l n g).mono;rintro e t ⟨rfl,r,s⟩;go_wp2
 go_end0
 refine⟨Z,(q.trans o).trans r,?_⟩;rw[C.out,iI];exact s
def Cp(s:Fd)(w:Zl)(hs:s.size<=1048576):
 ae prog 140 #[.string s] w λe w'=>∃o,e=.returned (.string o)/\o.data.toList=jI s.data.toList/\Below w.heap.size w w':=by
 have b0:=dR (n:=s.size) (d:=16777216);have b1:=dR (n:=s.size) (d:=65536);have g:(s.size:Y)/256%256=ub (aV s.size 256):=dR;have f:(s.size:Y)%256=ub (aV s.size 1):=pQ s.size;have d:E (jI s.data.toList=(#[aV s.size 16777216,aV s.size 65536,aV s.size 256,aV s.size 1]:Bs).toList++s.data.toList):=by
  rw[jI,ZE];rfl
 have c:=nK w (x:=(aV s.size 16777216)) (y:=(aV s.size 65536)) (z:=(aV s.size 256)) (aV s.size 1);generalize aV s.size 16777216=k at *;generalize aV s.size 65536=x1 at *;generalize aV s.size 256=x2 at *;generalize aV s.size 1=b at *;have i:=conv_str prog 22 9 5 slice22 int5 str9 _ w.heap.size 0 4 4 #[k,x1,x2,b] c Z;have j:(s.size:Y)/16777216=ub k:=S;have c1:(s.size:Y)/65536=ub x1:=S;go_enter func140,ntmps140;go_wp2;go_ret;refine⟨_,Z,?_,(ZF _ _).alloc (Zo _) _⟩;rw[d.out,yDj,yDg]
def bR(k:G Fk)(b:G (G Fk)):G Fk:=jI k++b.flatMap jI
def kH(k:G Fk)(b:G (G Fk)):Bs:=BZ (bR k b)
def eG{k:G Fk}{b:G (G Fk)}:(kH k b).size=32:=GO
def uJ(k:G Fk)(b:G (G Fk))(x:G Fk):bR k (b++[x])=bR k b++jI x:=by
 unfold bR;rw[yCI,<-uk];simp
def PartOk(w:Zl)(v:Zm)(x:G Fk):Prop:=
 ∃a b k cap bs,v=.slice a (yFt bs) cap/\bs.toList=x/\bs.size<=cap/\bs.size<=1099511627776/\(bs.size=0\/(a=J ⟨b,k,F⟩/\FE encB w b k bs))
def PartOk.below{c:Zl}{v:Zm}{x:G Fk}(h:PartOk w v x)(k:Below w.heap.size w c):PartOk c v x:=by
 let⟨a,i,g,cap,bs,h1,e,j,f,b⟩:=h
 refine⟨a,i,g,cap,bs,h1,e,j,f,?_⟩;rcases b with b|⟨b,d⟩
 .exact Z5 b
 exact ZW ⟨b,Holds.below' d k⟩
def PartsOk(w:Zl)(d:GJ gE)(k:G (G Fk)):Prop:=
 k.length=0\/∃b c,d=J ⟨b,c,F⟩/\∀j,j<k.length->∃v,w.cell? ⟨b,c+j,F⟩=J v/\PartOk w v k[j]!
def PartsOk.below{c:Zl}{d:G (G Fk)}(h:PartsOk w f d)(k:Below w.heap.size w c):PartsOk c f d:=by
 rcases h with h|⟨b,e,h1,l⟩
 .exact Z5 h
 refine ZW ⟨b,e,h1,λj i=>?_⟩;let⟨v,g,m⟩:=l j i
 exact⟨v,by rw[k.cell (p:=⟨b,e+j,F⟩) (vj _ _ g)];exact g,m.below k⟩
def C6{b:G Fk}{c:G (G Fk)}:(bR b (c.take k)).length<=(bR b c).length:=by
 have e:bR b c=bR b (c.take k)++(c.drop k).flatMap jI:=by
  unfold bR;rw[uk,<-yCI,G.take_append_drop]
 rw[e,Zv];omega
def oD[Inhabited α](l:G α)(k:I)(h:k<l.length):l.take (k+1)=l.take k++[l[k]!]:=by
 rw[G.take_succ_eq_append_getElem h,getElem!_pos l k h]
def yN(b:Fd)(pa:GJ gE)(z:I)(c:G (G Fk))(w:Zl)(hj:b.size<=1048576)(ht:c.length<=1048576)(hP:PartsOk w pa c):
 ae prog 92 #[.string b,.slice pa c.length z] w λe w'=>∃r,e=.returned (.slice (J ⟨r,0,F⟩) 32 32)/\w.heap.size<=r/\Below w.heap.size w w'/\FE encB w' r 0 (kH b.data.toList c):=by
 have q:=I3 w 232;have K:Below w.heap.size w (w.alloc (.cells fB 232)):=(ZF _ _).alloc (Zo _) _;have C:(w.alloc (.cells fB 232)).heap.size=w.heap.size+1:=by simp
 have zv:=Lq;generalize h9:w.alloc (.cells fB 232)=W1 at q K C;obtain⟨v2,W2,t,d,s,ha⟩:=nN (w:=W1) (B:=0) b (pj _);rw[ha]at t d;obtain⟨h5,Q,y,h7⟩:=d.holds;rw[<-Q]at y;clear h5 Q;have i:FE encB W2 W1.heap.size 0 b.data:=by simpa using h7
 have hi:=s.size;obtain⟨n,hn⟩:=vH c.length;rw[hn];have T:=mk1 (hn);rw[C]at t i;generalize hr:grownCap W1 b.size 0 5=c2 at *;have hg:(convert 9 22 (.string b)).run prog (w.alloc (.cells fB 232))=.ok (.slice (J ⟨w.heap.size+1,0,F⟩) b.size c2) W2:=by rw[h9];exact t
 go_enter func92,ntmps92;go_wp2_with fail
 apply(rJ w.heap.size S0 (J ⟨w.heap.size+1,0,F⟩) (w.heap.size+1) 0 b.size c2 b.data W2 uS (q.below s q.lt) Z S S (ZW ⟨Z,S,i⟩)).mono;rintro e w3 ⟨rfl,hc,A⟩;have hp:=A.lt;go_wp2;go_loopg [13] n (λg s13 wr=>∃(k:I) (o:Sp),k+g=n/\s13=.int .i64 k/\HSp wr w.heap.size o/\Below w.heap.size w wr/\Ok o/\E (o=eK S0 (bR b.data.toList (c.take k))))
 case atStart =>
  refine⟨0,_,S,Z,A,(K.trans (s.mono S)).trans (hc.below S (Zo _)),iH uS _,?_⟩;rw[xu];rw[bR,G.flatMap_nil,G.append_nil];rfl
 case round =>
  obtain⟨k,o,hk,rfl,M,l,m,HE⟩:=hrel;by_cases hq:k<n
  .obtain⟨O,N,rfl,P⟩:∃O N,pa=J ⟨O,N,F⟩/\∀j,j<c.length->∃v,w.cell? ⟨O,N+j,F⟩=J v/\PartOk w v c[j]!:=by
    rcases hP with h|h
    .have:=T;omega
    .exact h
   obtain⟨v,x,h6⟩:=P k (oN T);have hm:wr.cell? ⟨O,N+k,F⟩=J v:=by rw[l.cell (p:=⟨O,N+k,F⟩) (vj _ _ x)];exact x
   obtain⟨a,V,X,cap,bs,rfl,L,W,h4,f⟩:=h6;have u:bs.size=0\/(a=J ⟨V,X,F⟩/\V≠w.heap.size/\FE encB wr V X bs):=by
    by_cases h0:bs.size=0
    .exact Z5 h0
    .rcases f with h|⟨h1,h2⟩
     .exact Z5 h
     .have:=Holds.lt h2 S;exact ZW ⟨h1,S,Holds.below h2 l this⟩
   have HB:E (bs.toList=c[k]!):=L;have l1:(k:Y)<(n:Y):=S;generalize h3:bs.size=bz at *;clear x f P L;go_wp2_with fail
   apply(rJ w.heap.size o a V X bz cap bs wr m M h3 W h4 u).mono;rintro e w4 ⟨rfl,h8,he⟩;go_wp2;go_roundg (gk-1)
   case measure=>omega
   case rel =>
    refine⟨k+1,_,S,by go_num,he,l.trans (h8.below l.size (Zo _)),iH m _,?_⟩;rw[oD c k (oN T.out),uJ,iI,<-HE.out,HB.out];rfl
  .have V:k=n:=S;have N:E (o=eK S0 (bR b.data.toList c)):=by
    have f:c.take k=c:=yDE (oN T);rw[f]at HE;exact HE
   go_wp2_with fail
   apply(Jh w.heap.size o 6 wr m M).mono;rintro e P ⟨rfl,f,u⟩;have O:FE enc P w.heap.size 0 (lC (bR b.data.toList c) 6):=by
    have:=u.d;rw[N.out]at this;exact this
   go_wp2_with fail
   apply(wI w.heap.size 0 32 _ _ qJ O dC).mono;rintro e w6 ⟨rfl,L,x⟩;have W:=f.size;have X:=l.size;go_wp2;go_ret;exact⟨P.heap.size,Z,S,(l.trans (f.below l.size (Zo _))).trans (L.mono S),x⟩
end SP
namespace SP
variable {B:Nat}{w w1:Zl}{v:Zm}{T:List UInt8}
set_option maxRecDepth 4000
def A8{xs:Bs}(h:Own B w v T)(O:FE encB w r 0 xs)(W:B<=w.heap.size)(V:T.length+xs.size<=1099511627776)(k:I)(X:k=xs.size):
 ∃d w',(oT #[22,22] 22 #[v,sZ r k c]).run prog w=.ok d w'/\Own B w' d (T++xs.toList)/\Below B w w':=by
 subst X;obtain⟨g,cap,cur,rfl,Q,N,hs,hl,L,a⟩:=h;let⟨i,hi,hz,z,K⟩:=info_parts info5
 have d:xs.toList.length=xs.size:=ZE;have f:(T++xs.toList).length=T.length+xs.size:=by rw[Zv,d]
 by_cases q:T.length+xs.size<=cap
 .have m:=qH (l:=T.length) (k:=xs.size) (n:=xs.size) (c:=c) L hs O Z Z q 22;have o:=iN L T.length xs.toList (by rw[d];omega);rw[Zs]at o;refine⟨_,_,m,⟨g,cap,splice cur T.length xs.toList,by rw[f],Q,Zn N (below_setCells (B:=0) (b:=g) (pj _) _ _ _ (ZF 0 w)).size,by rw[cQ,hs],S,o,λj p=>?_⟩,?_⟩
  .rw[f]at p;rw[jB _ _ _ _ (by rw[d];omega) S,d];by_cases h1:j<T.length
   .rw[Id S,Ao h1,a j h1]
   rw[GD S,rM S (by rw[d];omega)]
  exact below_setCells Q _ _ _ (ZF _ _)
 have y:(Builtin.firstCells i.size T.length (sZ g T.length cap)).run prog w.drew=.ok (T.map encB).toArray w.drew:=by
  rw[z];refine run_firstCells_some w.drew 1 T.length (aZ g) T.length cap (T.map encB) (by rw[ZI,ri]) (λj u p=>?_);let⟨h1,s⟩:=Zz.1 p
  rw[ZI]at h1;have A:=(L j S).1;rw[a j h1,getElem!_pos T j h1]at A;rw[uq]at s;have M:(⟨g,0,F⟩:gE).add j=⟨g,0+j,F⟩:=by
   unfold ts;by_cases o:j=0
   .subst o;rw[GD Z]
   rw[Id o]
  rw[M,World.cell?_drew,A,s]
 have t:(xs.toList.map encB).length=xs.size:=by rw[ZI,d]
 have C:Src prog i.size 22 (sZ r xs.size c) xs.size (xs.toList.map encB) w:=by
  rw[z];refine yGB w slice22 (aZ r) xs.size c _ (by rw[t,ri]) (λj u p=>?_) (λu hu=>?_)
  .let⟨h1,s⟩:=Zz.1 p
   rw[t]at h1;have A:=(O j S).1;rw[getElem!_pos xs j S]at A;rw[uq,Bk]at s;have M:(⟨r,0,F⟩:gE).add j=⟨r,0+j,F⟩:=by
    unfold ts;by_cases o:j=0
    .subst o;rw[GD Z]
    rw[Id o]
   rw[M,A,s]
  obtain⟨x,_,rfl⟩:=Z1.1 hu;rfl
 have M:yC0 (T.length+xs.size) cap<=2*(T.length+xs.size)+768:=by
  unfold yC0;split
  .omega
  split
  .omega
  simp only[Builtin.growBy];repeat' split
  all_goals omega
 have m:=run_append_grow_src (P:=prog) w 22 22 22 5 i (.int .u8 0) slice22 hi hz (J (aZ g)) T.length cap (T.map encB) y _ xs.size (xs.toList.map encB) C S S (by rw[K];omega);generalize hG:grownCap w (T.length+xs.size) cap 5=G at m;have A:T.length+xs.size<=G:=by
  rw[<-hG];unfold grownCap yFL;exact yDc _ _
 have o:(T.map encB++xs.toList.map encB).toArray++wy (gM .u8 0).cells (G-(T.length+xs.size))=((T++xs.toList).toArray++ZA (G-(T.length+xs.size)) (0:Fk)).map encB:=by
  rw[yFE,yDR,<-List.map_append]
  congr 1
  .simp
  unfold wy;have e:(gM .u8 0).cells=#[gM .u8 0]:=rfl;rw[e];apply yEQ
  .simp
  intro k h1 s;simp[yFF];rfl
 rw[o]at m;refine⟨_,_,m,⟨w.heap.size,G,(T++xs.toList).toArray++ZA (G-(T.length+xs.size)) 0,by rw[f],W,by simp,?_,S,?_,λj p=>?_⟩,?_⟩
 .rw[pq,ZL,kI,f];omega
 .exact Holds.new (enc:=encB) w.drew 5 _
 .rw[app_front _ _ j (by simpa using p)];rw[getElem!_pos (T++xs.toList) j p];simp
 exact((ZF B w).drew).alloc (by exact W) _
end SP
namespace SP
def Oa{L T:Bs}(f:FE encB w b 0 L)(hl:L.size=32)(hT:FE encB w r 0 T)(i:T.size=32):
 (zn #[22,22] 3 #[sZ b 32 32,sZ r 32 32]).run prog w=.ok (goInt 32) (w.setCells b 0 (T.toList.map encB)):=by
 have k:(T.toList.map encB).length=32:=by rw[ZI,ZE,i]
 have:=run_copy_cells (P:=prog) w 22 22 3 5 b 0 32 32 (aZ r) 32 32 (T.toList.map encB) slice22 ints5 (by rw[k];rfl)
  (λj u c=>by
   let⟨h1,d⟩:=Zz.1 c
   rw[k]at h1;have g:=(hT j S).1;rw[getElem!_pos T j S]at g;rw[uq,Bk]at d;have l:(⟨r,0,F⟩:gE).add j=⟨r,0+j,F⟩:=by
    unfold ts;by_cases e:j=0
    .subst e;rw[GD Z]
    rw[Id e]
   rw[l,g,d])
  (λj c=>by rw[(f j S).1];rfl) (λj c=>(f j S).2)
  (λu d=>by obtain⟨x,_,rfl⟩:=Z1.1 d;rfl)
 rw[k]at this;exact this
def CX{L T:Bs}(e:FE encB w b 0 L)(hl:L.size=32)(d:T.size=32):FE encB (w.setCells b 0 (T.toList.map encB)) b 0 T:=by
 have k:(T.toList.map encB).length=32:=by rw[ZI,ZE,d]
 refine Holds.setCells e (T.toList.map encB) 0 S S (λj c=>?_) (λj h1 f=>S);rw[k]at c;rw[uq,Bk,Zs,getElem!_pos T j S]
def Hu{c:Zl}{L T:Bs}(g:FE encB w b 0 L)(hl:L.size=32)(d:T.size=32)(e:b<w.heap.size)(k:Below w.drew.heap.size w.drew c):
 Only b 0 32 w (c.setCells b 0 (T.toList.map encB))/\FE encB (c.setCells b 0 (T.toList.map encB)) b 0 T:=by
 have f:(T.toList.map encB).length=32:=by rw[ZI,ZE,d]
 refine⟨?_,CX (Holds.below (Holds.drew g) k e) hl d⟩;exact Only.setCells (((Only.refl b 0 32 w).drew).trans (Only.of_below k Z e)) _ 0 (Zo _) S
theorem sO(b:I)(L:Bs)(k:Fd)(o:GJ gE)(c n:I)(d:G (G Fk))(w:Zl)(i:k.size<=1048576)(l:d.length=n)(u:n<=1048576)(v:PartsOk w o d)(m:FE encB w b 0 L)(hl:L.size=32):
 ae prog 187 #[.pointer (J ⟨b,0,F⟩),.string k,.slice o n c] w λe w'=>e=.returned (.tuple #[])/\Only b 0 32 w w'/\FE encB w' b 0 (kH k.data.toList d):=by
 subst l;have r:=Holds.lt m S;have q:=yN k o c d w.drew i u (v.below ((ZF _ _).drew));generalize hT:kH k.data.toList d=T at q⊢;have j:T.size=32:=by rw[<-hT,eG]
 go_enter func187,ntmps187;go_wp2;go_region_with (go_at_call 92;refine yFl (mk1 q).out ?_;rintro e x ⟨r2,rfl,t,g,p⟩;have s:=Oa (Holds.below (Holds.drew m) g r) hl p j;have f:=Hu m hl j r g)
 all_goals (try go_wp2)
 all_goals go_end0
 all_goals exact⟨Z,f⟩
def AE(v:Zm):Zm:=v
def BE:(oH l n).size=n:=by rw[oH,iJ]
def newL(k:G Fk):Bs:=kH [108,111,103] [k]
def iW(L:Bs)(k b:G Fk):Bs:=kH [115,97,121] [L.toList,k,b]
def xR(L:Bs)(k:G Fk)(n:I):Bs:=oH (kH [97,115,107] [L.toList,k]).toList n
def nP(L:Bs)(k:G Fk):Bs:=kH [97,115,107,101,100] [L.toList,k]
def wE:(newL l).size=32:=eG
def dO{L:Bs}{t:G Fk}:(iW L l t).size=32:=eG
def bC{L:Bs}:(nP L l).size=32:=eG
def Cl{L:Bs}:(xR L l n).size=n:=BE
def qY(s:Fd)(w:Zl)(hs:s.size<=1099511627776):
 ∃c w',(convert 9 22 (.string s)).run prog w=.ok (.slice (J ⟨w.heap.size,0,F⟩) s.size c) w'/\s.size<=c/\FE encB w' w.heap.size 0 s.data/\PartOk w' (.slice (J ⟨w.heap.size,0,F⟩) s.size c) s.data.toList/\Below w.heap.size w w'/\w.heap.size<w'.heap.size:=by
 let⟨v2,n,e,k,m,l⟩:=nN (w:=w) (B:=0) s (pj _)
 rw[l]at e k;have j:w.heap.size<n.heap.size:=by
  let⟨g,cap,cur,h1,_,b,_⟩:=k
  injection h1 with h1
  injection h1 with h1
  injection h1 with h1
  omega
 let⟨p,i,b,o⟩:=k.holds
 rw[<-i]at b;have d:FE encB n w.heap.size 0 s.data:=by simpa using o
 have f:=b;exact⟨_,n,e,f,d,⟨_,w.heap.size,0,_,s.data,Z,Z,f,hs,ZW ⟨Z,d⟩⟩,m,j⟩
def qT(W:Zl)(vs:R Zm)(k:G (G Fk))(t:ZR)(hl:vs.size=k.length)(h:∀j,j<k.length->PartOk W vs[j]! k[j]!):
 PartsOk (W.alloc (.cells vs t)) (J (aZ W.heap.size)) k:=by
 refine ZW ⟨W.heap.size,0,Z,λj c=>⟨vs[j]!,?_,(h j c).below ((ZF _ _).alloc (Zo _) _)⟩⟩;have b:vs.map AE=vs:=by
  have:AE=id:=rfl;rw[this,R.map_id]
 have:=(Holds.new (enc:=AE) W t vs j S).1;rw[b]at this;exact this
def zR{L:Bs}(k:FE encB w b 0 L)(hl:L.size=32):PartOk w (sZ b 32 32) L.toList:=
 ⟨_,b,0,32,L,by rw[hl],Z,S,S,ZW ⟨Z,k⟩⟩
def OZ:∀w:Zl,(zeroValue 258).run prog w=.ok (.agg (ZA 32 (.int .u8 0))) w:=λ_=>kR
def H6(k:Fd)(w:Zl)(t:k.size<=1048576):
 ae prog 218 #[.string k] w λe w'=>e=.returned (.pointer (J ⟨w.heap.size,0,F⟩))/\Below w.heap.size w w'/\FE encB w' w.heap.size 0 (newL k.data.toList):=by
 have y:=OZ;have q:FE encB (w.alloc (.cells (ZA 32 (.int .u8 0)) 258)) w.heap.size 0 (ZA 32 0):=by
  have:=Holds.new (enc:=encB) w 258 (ZA 32 0);rw[yDR]at this;exact this
 have p:(w.alloc (.cells (ZA 32 (.int .u8 0)) 258)).heap.size=w.heap.size+1:=by simp
 let⟨c,i,r,z,u,o,l,g⟩:=qY k (w.alloc (.cells (ZA 32 (.int .u8 0)) 258)) S
 have f:=qT i #[.slice (J ⟨(w.alloc (.cells (ZA 32 (.int .u8 0)) 258)).heap.size,0,F⟩) k.size c] [k.data.toList] 22 Z (λj v=>by
  have b:j=0:=by simpa using v
  subst b;exact o)
 have d:Below i.heap.size i (i.alloc (.cells #[.slice (J ⟨(w.alloc (.cells (ZA 32 (.int .u8 0)) 258)).heap.size,0,F⟩) k.size c] 22)):=(ZF _ _).alloc (Zo _) _;have b:=Holds.below' (Holds.below' q l) d;rw[p]at r f d b g;have m:=(((ZF _ _).alloc (Zo _) _).trans (l.mono S)).trans (d.mono S);go_enter func218,ntmps218;go_wp2_with fail
 apply(sO w.heap.size (ZA 32 0) ⟨#[108,111,103]⟩ (J ⟨i.heap.size,0,F⟩) 1 1 [k.data.toList] _ dC Z dC f b (by simp)).mono;rintro e x ⟨rfl,s,n⟩;go_wp2;go_ret;exact⟨Z,m.trans (s.below m.size (Zo _)),n⟩
def Dt(b:I)(L:Bs)(k:Fd)(p:GJ gE)(i n:I)(d:G Fk)(w:Zl)(v:k.size<=1048576)(t:FE encB w b 0 L)(hl:L.size=32)(hT:PartOk w (.slice p i n) d):
 cZ 119 #[jZ b,.string k,.slice p i n] w λe w'=>e=.returned (.tuple #[])/\Only b 0 32 w w'/\FE encB w' b 0 (iW L k.data.toList d):=by
 have r:=Holds.lt t S;let⟨c,u,z,A,x,o,f,s⟩:=qY k w S
 have g:=Holds.below t f r;have l:=qT u #[sZ b 32 32,sZ w.heap.size k.size c,.slice p i n] [L.toList,k.data.toList,d] 22 Z (λj y=>by
  match j,y with
  | 0,_=>exact zR g hl
  | 1,_=>exact o
  | 2,_=>exact(hT.below f))
 go_enter func119,ntmps119;go_wp2_with fail
 apply(sO b L ⟨#[115,97,121]⟩ (J (aZ u.heap.size)) 3 3 [L.toList,k.data.toList,d] _ dC Z dC l (Holds.below' g ((ZF _ _).alloc (Zo _) _)) hl).mono;rintro e a ⟨rfl,q,m⟩;go_wp2
 go_end0
 exact⟨Z,((Only.of_below f Z r).alloc S _).trans q,m⟩
def Rn(b:I)(L:Bs)(k:Fd)(n:I)(w:Zl)(hi:k.size<=1048576)(hn:n<=1024)(hL:FE encB w b 0 L)(hl:L.size=32):
 ae prog 230 #[.pointer (J ⟨b,0,F⟩),.string k,.int .i64 n] w λe w'=>∃r,e=.returned (.tuple #[.slice (J ⟨r,0,F⟩) n n,.int .i64 0])/\w.heap.size<=r/\Only b 0 32 w w'/\FE encB w' b 0 (nP L k.data.toList)/\FE encB w' r 0 (xR L k.data.toList n):=by
 have T:=Holds.lt hL S;let⟨c,i,ht,hc,h7,q,a,he⟩:=qY k w S
 have d:=Holds.below hL a T;have p:=qT i #[.slice (J ⟨b,0,F⟩) 32 32,.slice (J ⟨w.heap.size,0,F⟩) k.size c] [L.toList,k.data.toList] 22 Z (λj y=>by
  have g:j<2:=y;match j,g with
  | 0,_=>exact zR d hl
  | 1,_=>exact q)
 have x:Below i.heap.size i (i.alloc (.cells #[.slice (J ⟨b,0,F⟩) 32 32,.slice (J ⟨w.heap.size,0,F⟩) k.size c] 22)):=(ZF _ _).alloc (Zo _) _;have A:=Holds.below' d x;have v:Only b 0 32 w (i.alloc (.cells #[.slice (J ⟨b,0,F⟩) 32 32,.slice (J ⟨w.heap.size,0,F⟩) k.size c] 22)):=(Only.of_below a Z T).alloc S _;have d0:decide ((n:Y)<0)=D:=decide_eq_false S;have d1:¬(1024:Y)<(n:Y):=S;clear h7 q x;go_enter func230,ntmps230;go_wp2_with fail
 refine(yN ⟨#[97,115,107]⟩ (J ⟨i.heap.size,0,F⟩) 2 [L.toList,k.data.toList] _ dC (by show 2<=1048576;omega) p).mono ?_;rintro e w3 ⟨r3,rfl,hr,C,h9⟩;have h0:=Holds.below' A C;have t:=v.trans (Only.of_below C Z (Zn T v.size));clear p A d;go_wp2_with fail
 apply(Bc (J ⟨r3,0,F⟩) r3 0 32 32 n _ _ S eG S S (ZW ⟨Z,h9⟩)).mono;rintro e m ⟨N,rfl,hk,z,W⟩;have Q:=Holds.below' h0 z;have hm:=t.size;have M:=t.trans (Only.of_below z Z S);have O:FE encB m N 0 (xR L k.data.toList n):=W;have hq:=M.size;let⟨c5,l,ha,hp,hu,h6,f,hg⟩:=qY k m S
 have u:=Holds.below' Q f;have V:=Holds.below' O f;have K:=qT l #[.slice (J ⟨b,0,F⟩) 32 32,.slice (J ⟨m.heap.size,0,F⟩) k.size c5] [L.toList,k.data.toList] 22 Z (λj y=>by
  have g:j<2:=y;match j,g with
  | 0,_=>exact zR u hl
  | 1,_=>exact h6)
 have s:Below l.heap.size l (l.alloc (.cells #[.slice (J ⟨b,0,F⟩) 32 32,.slice (J ⟨m.heap.size,0,F⟩) k.size c5] 22)):=(ZF _ _).alloc (Zo _) _;have P:=Holds.below' u s;have h4:=Holds.below' V s;have X:Only b 0 32 w (l.alloc (.cells #[.slice (J ⟨b,0,F⟩) 32 32,.slice (J ⟨m.heap.size,0,F⟩) k.size c5] 22)):=M.trans ((Only.of_below f Z S).alloc S _);go_wp2_with fail
 apply(sO b L ⟨#[97,115,107,101,100]⟩ (J ⟨l.heap.size,0,F⟩) 2 2 [L.toList,k.data.toList] _ dC Z dC K P hl).mono;rintro e w7 ⟨rfl,g,h5⟩;have h8:FE encB w7 N 0 (xR L k.data.toList n):=by
  intro j y;have h1:=h4 j y;have h2:=vj _ _ h1.1;have h3:=g.other (c:=N) (o:=0+j) S h2;rw[h3.1,h3.2];exact h1
 go_wp2
 go_ret2
 exact⟨N,Z,S,X.trans g,h5,h8⟩
end SP
section
structure FiL(s:I)(w W:Zl)(K n i:I)(C:I->G Zm):Prop where
 bl:kZ w W
 kl:w.heap.size<=K
 lt:K<W.heap.size
 th:W.there K 0 (s*n)
 at_:∀j,j<i->W.rangeAt K (s*j) (C j)
section
variable {s:Nat}{w W W':Zl}{K n i:Nat}{C:Nat->List Zm}{C0:List Zm}{T:ZR}
def FiL.new(k:Hid (w.heap.size=K))(b:Hid (w.alloc (.cells C0.toArray T)=W))(hl:C0.length=s*n):FiL s w W K n 0 C:=by
 have h:=(aN k b).out;exact⟨h.1,k.out▸Zo _,h.2.1,hl ▸ h.2.2.2,λj c=>absurd c (uv _)⟩
def FiL.grow(h:FiL s w W K n i C)(b:kZ W W'):FiL s w W' K n i C:=by
 have e:=b.block K h.lt;refine⟨h.bl.trans (b.mono h.bl.size),h.kl,Zn h.lt b.size,λj k=>?_,λj k r u c=>?_⟩
 .have:=h.th j k;unfold yy yDW at this⊢;rw[e];exact this
 exact(ZP e).trans (h.at_ j k r u c)
def FiL.put(h:FiL s w W K n i C)(e:i<n)(hl:(C i).length=s)(hs:∀j,j<i->(C j).length=s)(c:Hid (W.setCells K (s*i) (C i)=W')):W.there K (s*i) (C i).length/\FiL s w W' K n (i+1) C:=by
 have th:W.there K (s*i) (C i).length:=λj d=>by
  have b:s*(i+1)<=s*n:=yCO s e;have:=h.th (s*i+j) (by rw[CD]at b;omega);rw[Zs]at this;exact this
 rw[<-c.out];refine⟨th,RG.below_setCells h.kl _ _ _ h.bl,h.kl,by rw[setCells_size];exact h.lt,World.there_setCells h.th _ _ _,λj d=>?_⟩;by_cases k:j<i
 .have b:s*(j+1)<=s*i:=yCO s k;exact World.rangeAt_setCells_apart (h.at_ j k) _ _ _ (ZW (Z5 (by rw[hs j k];rw[CD]at b;exact b)))
 obtain rfl:j=i:=S;exact World.rangeAt_setCells_same _ _ _ _ th
end
end
section
def XG(b:i<n):(iB 23 (sZ g n c) (iZ i)).run prog w=.ok (oZ g i) w:=by
 have h1:¬(i:Y)<0:=S;have k:(i:Y)<(n:Y):=S;go_simp
def Y6(b:i<n):(iB 90 (sZ g n n) (iZ i)).run prog w=.ok (oZ g (8*i)) w:=by
 have h1:¬(i:Y)<0:=S;have k:(i:Y)<(n:Y):=S;go_simp
def Y5(b:i<n):(iB 78 (sZ g n n) (iZ i)).run prog w=.ok (oZ g (4*i)) w:=by
 have h1:¬(i:Y)<0:=S;have k:(i:Y)<(n:Y):=S;go_simp
def uBb:wZ 22:=wQ
def uGp:yZ 83:=yQ
def iGp:gZ 83 8:=gQ
def uNb:yZ 81:=yQ
def iNb:gZ 81 4:=gQ
variable {P:Nat}[NeZero P]
def ArgsPts(w:Zl)(q:GJ gE)(n:I)(L:I->Bs):Prop:=0<n->∃k,q=J (aZ k)/\k<w.heap.size/\∀j,j<n->∃v,w.cell? ⟨k,j,F⟩=J v/\Arg33 w v (L j)
def Zc(P:I)[NeZero P](w:Zl)(n:I)(L:I->Bs)(e:Zm)(w':Zl):Prop:=
 (∃k,w.heap.size<=k/\k<w'.heap.size/\e=.tuple #[sZ k n n,iZ 0]/\∀j,j<n->∃p,rd P (L j)=J p/\w'.rangeAt k (8*j) (ws p.1++ws p.2)) \/
 ((∃j,j<n/\rd P (L j)=F)/\e=.tuple #[nZ,iZ 4])
def XP(CF:IO P)(n cap:I)(hn:n<=512)(q:GJ gE)(L:I->Bs)(w:Zl)(hA:ArgsPts w q n L):ae prog 216 #[.slice q n cap] w (rZ w λe w'=>Zc P w n L e w'):=by
 obtain⟨C0,x,z⟩:=Ws (N:=n) hn;refine hG w.heap.size λK W=>?_
 refine hG (w.alloc (.cells C0.toArray 83)) λw1 m=>?_
 have mk:=z w;rw[W.out,m.out]at mk;obtain⟨M,hC⟩:=hE (λj=>match rd P (L j) with|some p=>ws p.1++ws p.2|none=>[]);have f:E (∀j p,rd P (L j)=J p->M j=ws p.1++ws p.2):=λj p h=>by rw[<-hC.out];show(match rd P (L j) with|some p=>ws p.1++ws p.2|none=>[])=_;rw[h]
 have F0:=mk1 (FiL.new (C:=M) W m x);have HA:=mk1 hA;clear z hC hA x W m;go_enter func216,ntmps216;refine PW.rg [.slice none 0 0,iZ 0] ?_;refine PW.bg [iZ n] ?_;refine PW.ns mk ?_;refine PW.en [sZ K n n] ?_;refine Zq<|PW.rg [iZ n,iZ 0] ?_
 apply ay;go_loopg [14] n (λgk s14 wr=>∃i:I,i+gk=n/\s14=iZ i/\E (FiL 8 w wr K n i M/\∀j,j<i->∃p,rd P (L j)=J p))
 case atStart=>exact⟨0,S,Z,F0,λj o=>absurd o (uv _)⟩
 case round =>
  clear F0;obtain⟨i,h0,rfl,F⟩:=hrel;refine PW.rg [.bool (decide ((i:Y)<(n:Y)))] ?_;by_cases a:i<n
  .have l:(i:Y)<(n:Y):=S;rw[decide_eq_true l];have V:ZN.wrap ((i:Y)+1)=((i+1:I):Y):=by rw[pk];omega
   obtain⟨g,rfl,hg,hc⟩:=HA S;obtain⟨v,hv,u⟩:=hc i a;have t:=(F.1.bl.cell (p:=⟨g,i,none⟩) hg).trans hv;obtain⟨q1,n1,c1,rfl,-⟩:=id u;refine Zq<|Z6 rfl<|aw<|Zq<|ay<|PW.bg [] ?_
   refine PW.ns (XG (g:=g) (n:=n) (c:=cap) (i:=i) a (w:=wr)) ?_;refine PW.ce t uBb ?_;refine PW.en [iZ i,.slice q1 n1 c1] ?_;clear t hc;refine PW.bg [] ?_;refine PW.gi (wY CF (bs:=(L i)) (w:=wr) (u.below F.1.bl)) λs hb=>?_
   have r:=mk2 (F.1.grow hb) F.2;cases X:rd P (L i) with
   | none =>
    obtain⟨vz,k⟩:=hE (ZM (ws (0:B P)++ws (0:B P)).toArray);refine hG s.heap.size λT d=>?_
    refine hG (s.alloc (.cells (wn 0++wn 0).toArray 83)) λQ c=>?_
    refine hG (Q.setCells T 0 (ws (0:B P)++ws (0:B P))) λO b=>?_
    have y:=mk1 ((Mp.start s).new d c);have N:=mk1 (y.put 0 b);refine PW.go [.agg (ws (0:B P)++ws (0:B P)).toArray,.bool D] ?_;rw[k.out];refine PW.al d c ?_;refine PW.st b k (y.th 0) iGp kR ?_;refine PW.en [.bool D] ?_;refine Zq<|PW.rg [.bool H] ?_
    refine Z6 rfl<|PW.rg [.slice none 0 0,iZ 4] ?_
    refine ag<|Zx (jE 2 3 Z Z Z) Z ?_
    exact⟨_,Z,r.1.bl.trans (N.bl.mono r.1.bl.size),ZW ⟨⟨i,a,X⟩,Z⟩⟩
   | some p =>
    have eC:=f i p X;obtain⟨vz,k⟩:=hE (ZM (ws p.1++ws p.2).toArray);refine hG s.heap.size λT d=>?_
    refine hG (s.alloc (.cells (wn 0++wn 0).toArray 83)) λQ c=>?_
    refine hG (Q.setCells T 0 (ws p.1++ws p.2)) λO b=>?_
    refine hG (O.setCells K (8*i) (ws p.1++ws p.2)) λw5 A=>?_
    have y:=mk1 ((Mp.start s).new d c);have N:=mk1 (y.put 0 b);have F4:=r.1.grow N.bl;obtain⟨th,F5⟩:=F4.put a (by rw[eC];rfl) (λj o=>by obtain⟨p,h⟩:=r.2 j o;rw[f.out j p h];rfl) (W':=w5) (by rw[eC];exact A);rw[eC]at th;have FF:E (FiL 8 w w5 K n (i+1) M/\∀j,j<i+1->∃p,rd P (L j)=J p):=⟨F5,λj o=>by
     by_cases h:j<i
     .exact r.2 j h
     .obtain rfl:j=i:=S;exact⟨p,X⟩⟩
    clear F5 F4 F r;refine PW.go [.agg (ws p.1++ws p.2).toArray,.bool H] ?_;rw[k.out];refine PW.al d c ?_;refine PW.st b k (y.th 0) iGp kR ?_;refine PW.en [.bool H] ?_;refine Zq<|PW.rg [.bool D] ?_
    refine Z2 rfl<|aw<|PW.bb [] ?_
    refine PW.ro (N.at_ 0).2.1 k uGp iGp ?_;refine PW.ns (Y6 (g:=K) (n:=n) (i:=i) a (w:=O)) ?_;refine PW.st A k th iGp kR ?_;refine PW.dn ?_;refine PW.bb [iZ (ZN.wrap ((i:Y)+1))] ?_;rw[V];go_wp2;go_roundg (gk-1)
    case measure=>omega
    case rel=>exact⟨i+1,S,Z,FF⟩
  .have l:¬(i:Y)<(n:Y):=S;obtain rfl:i=n:=S;rw[decide_eq_false l];refine Zq<|Z2 rfl<|wp_exit<|PW.rg (P:=prog) [sZ K i i,iZ 0] ?_
   refine ag<|Zx (jE 2 3 Z Z Z) Z ?_
   refine⟨_,Z,F.1.bl,Z5 ⟨K,F.1.kl,F.1.lt,Z,λj o=>?_⟩⟩;obtain⟨p,k⟩:=F.2 j o;refine⟨p,k,?_⟩;have:=F.1.at_ j o;rw[f.out j p k]at this;exact this
def yP(w:Zl)(q:GJ gE)(n:I)(L:I->Bs):Prop:=0<n->∃k,q=J (aZ k)/\k<w.heap.size/\∀j,j<n->∃v,w.cell? ⟨k,j,F⟩=J v/\Arg w v (L j)
def Zb(N:I)(w:Zl)(n:I)(L:I->Bs)(e:Zm)(w':Zl):Prop:=
 (∃k,w.heap.size<=k/\k<w'.heap.size/\e=.tuple #[sZ k n n,iZ 0]/\∀j,j<n->∃p,rq N (L j)=J p/\w'.rangeAt k (4*j) (wn p)) \/
 ((∃j,j<n/\rq N (L j)=F)/\e=.tuple #[nZ,iZ 3])
def SL(h2:Gap 4624529908474429119 4994812053365940164 1 N)(n cap:I)(hn:n<=512)(q:GJ gE)(L:I->Bs)(w:Zl)(hA:yP w q n L):ae prog 40 #[.slice q n cap] w (rZ w λe w'=>Zb N w n L e w'):=by
 obtain⟨C0,x,z⟩:=YD (N:=n) hn;refine hG w.heap.size λK hK=>?_
 refine hG (w.alloc (.cells C0.toArray 81)) λw1 m=>?_
 have mk:=z w;rw[hK.out,m.out]at mk;obtain⟨M,hC⟩:=hE (λj=>match rq N (L j) with|some p=>wn p|none=>[]);have f:E (∀j p,rq N (L j)=J p->M j=wn p):=λj p h=>by rw[<-hC.out];show(match rq N (L j) with|some p=>wn p|none=>[])=_;rw[h]
 have F0:=mk1 (FiL.new (C:=M) hK m x);have HA:=mk1 hA;clear z hC hA x hK m;go_enter func40,ntmps40;refine PW.rg [.slice none 0 0,iZ 0] ?_;refine PW.bg [iZ n] ?_;refine PW.ns mk ?_;refine PW.en [sZ K n n] ?_;refine Zq<|PW.rg [iZ n,iZ 0] ?_
 apply ay;go_loopg [14] n (λgk s14 wr=>∃i:I,i+gk=n/\s14=iZ i/\E (FiL 4 w wr K n i M/\∀j,j<i->∃p,rq N (L j)=J p))
 case atStart=>exact⟨0,S,Z,F0,λj o=>absurd o (uv _)⟩
 case round =>
  clear F0;obtain⟨i,h3,rfl,F⟩:=hrel;refine PW.rg [.bool (decide ((i:Y)<(n:Y)))] ?_;by_cases a:i<n
  .have l:(i:Y)<(n:Y):=S;rw[decide_eq_true l];have h0:ZN.wrap ((i:Y)+1)=((i+1:I):Y):=by rw[pk];omega
   obtain⟨g,rfl,hg,hc⟩:=HA S;obtain⟨v,hv,u⟩:=hc i a;have t:=(F.1.bl.cell (p:=⟨g,i,none⟩) hg).trans hv;have HR:=λ(W:Zl) (V:kZ wr W)=>Ip h2 (bs:=(L i)) (w:=W) ((u.below F.1.bl).below V)
   obtain⟨q1,n1,c1,rfl,-⟩:=id u;refine Zq<|Z6 rfl<|aw<|Zq<|ay<|PW.bg [] ?_
   refine PW.ns (XG (g:=g) (n:=n) (c:=cap) (i:=i) a (w:=wr)) ?_;refine PW.ce t uBb ?_;refine PW.en [iZ i,.slice q1 n1 c1] ?_;clear t hc;refine PW.bg [] ?_;refine PW.gi ((mk1 jK).out wr) λwa ha=>?_
   refine PW.go [] ?_;refine PW.gi (HR wa ha) λs V=>?_
   have r:=mk2 ((F.1.grow ha).grow V) F.2;cases hr:rq N (L i) with
   | none =>
    obtain⟨vz,k⟩:=hE (ZM (wn 0).toArray);refine hG s.heap.size λX d=>?_
    refine hG (s.alloc (.cells (wn 0).toArray 81)) λT c=>?_
    refine hG (T.setCells X 0 (wn 0)) λQ b=>?_
    have y:=mk1 ((Mp.start s).new d c);have O:=mk1 (y.put 0 b);refine PW.go [.agg (wn 0).toArray,.bool D] ?_;rw[k.out];refine PW.al d c ?_;refine PW.st b k (y.th 0) iNb kR ?_;refine PW.en [.bool D] ?_;refine Zq<|PW.rg [.bool H] ?_
    refine Z6 rfl<|PW.rg [.slice none 0 0,iZ 3] ?_
    refine ag<|Zx (jE 2 3 Z Z Z) Z ?_
    exact⟨_,Z,r.1.bl.trans (O.bl.mono r.1.bl.size),ZW ⟨⟨i,a,hr⟩,Z⟩⟩
   | some p =>
    have eC:=f i p hr;obtain⟨vz,k⟩:=hE (ZM (wn p).toArray);refine hG s.heap.size λX d=>?_
    refine hG (s.alloc (.cells (wn 0).toArray 81)) λT c=>?_
    refine hG (T.setCells X 0 (wn p)) λQ b=>?_
    refine hG (Q.setCells K (4*i) (wn p)) λw5 A=>?_
    have y:=mk1 ((Mp.start s).new d c);have O:=mk1 (y.put 0 b);have F4:=r.1.grow O.bl;obtain⟨th,F5⟩:=F4.put a (by rw[eC];rfl) (λj o=>by obtain⟨p,h⟩:=r.2 j o;rw[f.out j p h];rfl) (W':=w5) (by rw[eC];exact A);rw[eC]at th;have FF:E (FiL 4 w w5 K n (i+1) M/\∀j,j<i+1->∃p,rq N (L j)=J p):=⟨F5,λj o=>by
     by_cases h:j<i
     .exact r.2 j h
     .obtain rfl:j=i:=S;exact⟨p,hr⟩⟩
    clear F5 F4 F r;refine PW.go [.agg (wn p).toArray,.bool H] ?_;rw[k.out];refine PW.al d c ?_;refine PW.st b k (y.th 0) iNb kR ?_;refine PW.en [.bool H] ?_;refine Zq<|PW.rg [.bool D] ?_
    refine Z2 rfl<|aw<|PW.bb [] ?_
    refine PW.ro (O.at_ 0).2.1 k uNb iNb ?_;refine PW.ns (Y5 (g:=K) (n:=n) (i:=i) a (w:=Q)) ?_;refine PW.st A k th iNb kR ?_;refine PW.dn ?_;refine PW.bb [iZ (ZN.wrap ((i:Y)+1))] ?_;rw[h0];go_wp2;go_roundg (gk-1)
    case measure=>omega
    case rel=>exact⟨i+1,S,Z,FF⟩
  .have l:¬(i:Y)<(n:Y):=S;obtain rfl:i=n:=S;rw[decide_eq_false l];refine Zq<|Z2 rfl<|wp_exit<|PW.rg (P:=prog) [sZ K i i,iZ 0] ?_
   refine ag<|Zx (jE 2 3 Z Z Z) Z ?_
   refine⟨_,Z,F.1.bl,Z5 ⟨K,F.1.kl,F.1.lt,Z,λj o=>?_⟩⟩;obtain⟨p,k⟩:=F.2 j o;refine⟨p,k,?_⟩;have:=F.1.at_ j o;rw[f.out j p k]at this;exact this
end
omit [NeZero P] in
theorem Lu(x y:B P):∃a b c d p q r s:I,pv x y=.agg #[U a,U b,U c,U d,U p,U q,U r,U s]/\ws x++ws y=[U a,U b,U c,U d,U p,U q,U r,U s]:=
 ⟨_,_,_,_,_,_,_,_,Z,Z⟩
def OV(c:Y)(e:Zm):Prop:=e=.tuple #[nZ,iZ c]
def Lj(w:Zl)(T:Bs)(e:Zm)(w':Zl):Prop:=∃g cap,e=.tuple #[sZ g 33 cap,iZ 0]/\33<=cap/\w.heap.size<=g/\g<w'.heap.size/\hZ w' g 0 T
def EL(C:IO P)(v:Zm)(bs:Bs)(w:Zl)(hv:Arg33 w v bs):eZ 50 #[v] w (.bool (rd P bs).isSome):=by
 have i:∃(d b1 c1 c p1 b k s1:I),eZ 117 #[v] w (.tuple #[.agg #[U d,U b1,U c1,U c,U p1,U b,U k,U s1],.bool (rd P bs).isSome]):=by
  have h:=wY C hv;cases f:rd P bs with
  | none =>
   obtain⟨d,b1,c1,c,p1,b,k,s1,g,-⟩:=Lu (0:B P) 0;refine⟨d,b1,c1,c,p1,b,k,s1,?_⟩;rw[f]at h;rw[<-g];exact h
  | some p =>
   obtain⟨d,b1,c1,c,p1,b,k,s1,g,-⟩:=Lu p.1 p.2;refine⟨d,b1,c1,c,p1,b,k,s1,?_⟩;rw[f]at h;rw[<-g];exact h
 let⟨d,b1,c1,c,p1,b,k,s1,i⟩:=i
 obtain⟨q,n,cap,rfl,-⟩:=hv;go_enter func50,ntmps50;go_wp2_with fail
 refine i.mono ?_;rintro e j ⟨v,rfl,f,rfl⟩;have g:=mk1 (f);go_wp2;go_ret;exact⟨_,Z,g.alloc g.size _,Z⟩
def ptP(s:T3 P):B P × B P:=(s.1*(inv s.2.2*inv s.2.2),s.2.1*(inv s.2.2*inv s.2.2)*inv s.2.2)
def cell_below{b:Zl}{v:Zm}(h:w.cell? ⟨k,j,F⟩=J v)(e:kZ w b)(d:k<w.heap.size):b.cell? ⟨k,j,F⟩=J v:=by
 have h1:w.rangeAt k j [v]:=λi u c=>by
  cases i with
  | zero =>
   obtain rfl:v=u:=ZV.inj c;exact h
  | succ i=>exact absurd c (by simp)
 exact aF h1 e d 0 v Z
def ArgsPts.below{c:Zl}{L:I->Bs}(h:ArgsPts w q n L)(b:kZ w c):ArgsPts c q n L:=λl=>by
 let⟨d,e,k,i⟩:=h l
 refine⟨d,e,Zn k b.size,λj f=>?_⟩;let⟨v,hv,g⟩:=i j f
 exact⟨v,cell_below hv b k,g.below b⟩
def SumR(P:I)[NeZero P](N:I)(w:Zl)(n a:I)(L M:I->Bs)(e:Zm)(w':Zl):Prop:=
 (n≠a/\OV 2 e)\/(n=a/\512<n/\OV 1 e)\/(n=a/\n<=512/\(((∃j,j<n/\rq N (L j)=F)/\OV 3 e) \/
  ∃ns:I->I,(∀j,j<n->rq N (L j)=J (ns j))/\(((∃j,j<n/\rd P (M j)=F)/\OV 4 e) \/
   ∃xs ys:I->B P,(∀j,j<n->rd P (M j)=J (xs j,ys j))/\Lj w (wR (ptP (jY ns xs ys n 257)).1 (ptP (jY ns xs ys n 257)).2) e w')))
def AQ[Inhabited A](h:∀j,j<n->∃a,p j a):∃f:I->A,∀j,j<n->p j (f j):=
 ⟨λj=>if k:j<n then(h j k).choose else default,λj k=>by
  show p j (if k:j<n then(h j k).choose else default);rw[dif_pos k];exact(h j k).choose_spec⟩
def zH(k:N<=top){bs:Bs}(h:rq N bs=J m):m<top:=by
 unfold rq at h;split at h
 .rename_i h1
  obtain rfl:beV bs.toList=m:=ZV.inj h;exact Zn h1.2 k
 exact absurd h (by simp)
def UH(C:IO P)(hG:Gap 4624529908474429119 4994812053365940164 1 N)(hN:N<=top)(q q':GJ gE)(n cap a m:I)(L M:I->Bs)(w:Zl)(hL:yP w q n L)(hM:ArgsPts w q' a M):
 dZ 177 #[.slice q n cap,.slice q' a m] w λe w'=>SumR P N w n a L M e w':=by
 by_cases A:n=a
 .subst A;by_cases Q:512<n
  .go_enter func177,ntmps177;go_wp2
   go_ret2
   exact⟨_,Z,ZF _ _,ZW (Z5 ⟨Z,Q,Z⟩)⟩
  have y:n<=512:=S;go_enter func177,ntmps177;go_wp2_with fail
  apply(SL hG n cap y q L w (mk1 hL).out).mono;rintro e w1 ⟨v,rfl,W,⟨k,h0,t,rfl,c⟩|⟨r,rfl⟩⟩
  .let⟨ns,T⟩:=AQ c
   have x:=mk1 (W);have HS:E (k<w1.heap.size/\∀j,j<n->w1.rangeAt k (4*j) (wn (ns j))):=⟨t,λj l=>(T j l).2⟩
   have HN:E (∀j,j<n->rq N (L j)=J (ns j)):=λj l=>(T j l).1
   go_wp2_with fail
   apply(XP C n m y q' M w1 ((mk1 hM).below x)).mono;rintro e p ⟨v,rfl,f,⟨k',h0,t,rfl,c⟩|⟨r,rfl⟩⟩
   .let⟨b,V⟩:=AQ c
    have d:=mk1 (x.trans (f.mono x.size));have O:E (k<p.heap.size/\∀j,j<n->p.rangeAt k (4*j) (wn (ns j))):=⟨Zn HS.1 f.size,λj l=>aF (HS.2 j l) f HS.1⟩
    have HP:E (k'<p.heap.size/\∀j,j<n->p.rangeAt k' (8*j) (ws (b j).1++ws (b j).2)):=⟨t,λj l=>(V j l).2⟩
    have h2:E (∀j,j<n->rd P (M j)=J ((b j).1,(b j).2)):=λj l=>(V j l).1
    have K:∀w,dZ 45 #[pv (ptP (jY ns (λj=>(b j).1) (λj=>(b j).2) n 257)).1 (ptP (jY ns (λj=>(b j).1) (λj=>(b j).2) n 257)).2] w λe w'=>nR w (wR (ptP (jY ns (λj=>(b j).1) (λj=>(b j).2) n 257)).1 (ptP (jY ns (λj=>(b j).1) (λj=>(b j).2) n 257)).2) e w':=yK C
    have hS:eZ 41 #[sZ k n n,sZ k' n n] p (pv (ptP (jY ns (λj=>(b j).1) (λj=>(b j).2) n 257)).1 (ptP (jY ns (λj=>(b j).1) (λj=>(b j).2) n 257)).2):=by
     apply(LL C n y ns (λj=>(b j).1) (λj=>(b j).2) (λi u=>zH hN (HN i u)) k k' p O.1 HP.1 O.2 HP.2).mono;rintro e w' ⟨v,rfl,o,s,rfl,rfl⟩;exact⟨_,Z,o,Z⟩
    generalize hz:ptP (jY ns (λj=>(b j).1) (λj=>(b j).2) n 257)=z at hS K;have HZ:E (ptP (jY ns (λj=>(b j).1) (λj=>(b j).2) n 257)=z):=hz;go_wp2_with fail
    refine hS.mono ?_;rintro e w3 ⟨v,rfl,h6,rfl⟩;have u:=mk1 (d.trans (h6.mono d.size));go_wp2_with fail
    apply(K _).mono;rintro e w4 ⟨v,rfl,h4,g,o,rfl,h7,h3,X,h5⟩;have HO:E (Lj w (wR z.1 z.2) (.tuple #[sZ g 33 o,iZ 0]) w4):=⟨g,o,Z,h7,Zw u.size h3,X,h5⟩
    go_wp2
    go_ret2
    refine⟨_,Z,(mk1 (u.trans (h4.mono u.size))).out,ZW (ZW ⟨Z,y,ZW ⟨ns,HN,ZW ⟨_,_,h2,?_⟩⟩⟩)⟩;rw[HZ.out];exact HO
   have d:=mk1 (x.trans (f.mono x.size));have HO:=mk1 (r);go_wp2
   go_ret2
   exact⟨_,Z,d,ZW (ZW ⟨Z,y,ZW ⟨ns,HN,Z5 ⟨HO,Z⟩⟩⟩)⟩
  have x:=mk1 (W);go_wp2
  go_ret2
  exact⟨_,Z,x,ZW (ZW ⟨Z,y,Z5 ⟨(mk1 r).out,Z⟩⟩)⟩
 go_enter func177,ntmps177;go_wp2
 go_ret2
 exact⟨_,Z,ZF _ _,Z5 ⟨A,Z⟩⟩
def uW:Bs:=ZA 33 0
def Tj(r d:I):d*d%(r+d)=r*r%(r+d):=by
 have h:d*d+(r+d)*r=r*r+(r+d)*d:=by
  rw[xc,xc,ax d r];omega
 have h1:=congrArg (· % (r+d)) h;simp only[I.add_mul_mod_self_left]at h1;exact h1
def D3{m y:B P}(h:rt m=J y):y*y=m:=by
 have k:=Mk h;unfold rt at h;rw[GD k]at h;obtain rfl:=ZV.inj h;have b:=BY P;have d:m.val^(P/4+1)%P<P:=gD _ b;generalize m.val^(P/4+1)%P=r at k d;apply tj;rw[xt];show(even P r%P)*(even P r%P)%P=m.val;rw[ZC (Je b d),<-k];unfold even;split
 .have c:=Tj r (P-r);rw[show r+(P-r)=P by omega]at c;exact c
 rfl
def mO{bs:Bs}(hs:bs.size=33):qK bs↔bs=uW:=by
 constructor
 .intro h;apply yEQ
  .rw[hs];rfl
  intro i h1 c;have:=h i (p9.2 S);rw[getElem!_pos bs i h1]at this;have b:bs[i].toNat=0:=by
   have k:ub bs[i]=(bs[i].toNat:Y):=rfl;rw[k]at this;omega
  have k:(uW)[i]=0:=by
   exact xh _
  rw[k];exact Fk.toNat_inj.1 b
 rintro rfl i k;have k:=p9.1 k;rw[uW,getElem!_pos _ i (by rw[ZL];exact k),xh];rfl
def BS{x y:B P}(h:y*y=x*x*x+7):On (.some (x,y):EC.Pt P):=by
 show y^2=x^3+7
 grobner
def Gz{x y:B P}(h:y*y=x*x*x+7):On (.some (x,0-y):EC.Pt P):=by
 show(0-y)^2=x^3+7
 grobner
def wr:EC.Pt P->Bs
 | none=>uW
 | some (x,y)=>#[mark y.val]++bx x.val
def yL(C:IO P){x y:B P}{p:EC.Pt P}(h:Pair x y p)(ho:On p):wR x y=wr p:=by
 unfold wR;match p,h,ho with
 | none,h,_=>rw[GD (show x=0/\y=0 from h)];rfl
 | some (a,b),h,ho =>
  obtain⟨rfl,rfl⟩:=h;rw[Id (λe=>C.cur.y_ne ho e.2)];rfl
def pt(p:B P × B P):EC.Pt P:=if p.1=0/\p.2=0 then F else J p
def Qe(C:IO P){x y:B P}{q:EC.Pt P}(h:Pair x y q)(ho:On q):q=pt (x,y):=by
 unfold pt;match q,h,ho with
 | none,h,_=>rw[GD (show x=0/\y=0 from h)]
 | some (a,b),h,ho =>
  obtain⟨rfl,rfl⟩:=h;rw[Id (λe=>C.cur.y_ne ho e.2)]
def Is(C:IO P){bs:Bs}{p:B P × B P}(h:rd P bs=J p):Pair p.1 p.2 (pt p)/\On (pt p):=by
 have key:∃q:EC.Pt P,Pair p.1 p.2 q/\On q:=by
  unfold rd at h;split at h
  .split at h
   .obtain rfl:=ZV.inj h;exact⟨F,⟨Z,Z⟩,kJ⟩
   split at h
   .split at h
    .obtain⟨y,b,rfl⟩:=Zp.1 h;have k:=D3 b;refine⟨J (rdx P bs,if ub bs[0]! = 3 then 0-y else y),⟨Z,Z⟩,?_⟩;split
     .exact Gz k
     exact BS k
    cases h
   cases h
  cases h
 let⟨q,h1,k⟩:=key
 have:=Qe C h1 k;rw[show pt p=q from this.symm];exact⟨h1,k⟩
omit [NeZero P] in
theorem aR(p:EC.Pt P):(wr p).size=33:=by
 match p with
 | none=>rfl
 | some (x,y) =>
  show(#[mark y.val]++bx x.val).size=33;rw[pq,dJ];rfl
def Ms(h:IsP P)(k:P%4=3):(a*a%P)^(P/4+1)%P*((a*a%P)^(P/4+1)%P)%P=a*a%P:=by
 rw[<-tn,<-rn,<-I.pow_mod,<-yGu,<-I.pow_mul,show 2*(P/4+1+(P/4+1))=P+1 by omega,oB,tn,h.fermat a,<-tn,yGu]
def PK{R:I}(h:IsP P)(d:a<P)(hR:R<P)(e:R*R%P=a*a%P):R=a\/R+a=P:=by
 have key:∀x y:I,x<P->y<P->y<=x->x*x%P=y*y%P->x=y\/x+y=P:=by
  intro x y hx i f c;have hd:P ∣ x*x-y*y:=by
   refine I.dvd_of_mod_eq_zero ?_;exact I.sub_mod_eq_zero_of_mod_eq c
  have hf:x*x-y*y=(x-y)*(x+y):=by
   rw[ax (x-y),I.mul_self_sub_mul_self_eq]
  rw[hf]at hd;rcases h.euclid hd with h1|h1
  .left;have:=I.eq_zero_of_dvd_of_lt h1 S;omega
  let⟨k,g⟩:=h1
  have:k=0\/k=1\/2<=k:=S;rcases this with rfl|rfl|b
  .left;omega
  .right;omega
  have:=yCO P b;omega
 rcases I.le_total a R with h1|h1
 .exact key R a hR d h1 e
 rcases key a R d hR h1 e.symm with b|b
 .left;exact b.symm
 right;omega
section
def Cu{x:I}(hx:x<2^64):
 w8 (ZG (x/72057594037927936)) (ZG (x/281474976710656)) (ZG (x/1099511627776)) (ZG (x/4294967296)) (ZG (x/16777216)) (ZG (x/65536)) (ZG (x/256)) (ZG x)=x:=by
 unfold w8;simp only[yCh];omega
def Cj:(be32 a b c d).toList=[ZG (d/72057594037927936),ZG (d/281474976710656),ZG (d/1099511627776),ZG (d/4294967296),ZG (d/16777216),ZG (d/65536),ZG (d/256),ZG d,ZG (c/72057594037927936),ZG (c/281474976710656),ZG (c/1099511627776),ZG (c/4294967296),ZG (c/16777216),ZG (c/65536),ZG (c/256),ZG c,ZG (b/72057594037927936),ZG (b/281474976710656),ZG (b/1099511627776),ZG (b/4294967296),ZG (b/16777216),ZG (b/65536),ZG (b/256),ZG b,ZG (a/72057594037927936),ZG (a/281474976710656),ZG (a/1099511627776),ZG (a/4294967296),ZG (a/16777216),ZG (a/65536),ZG (a/256),ZG a]:=by
 simp only[be32,be8,yDg,qo,sy]
def val_congr{p q:I}(h1:a=p)(k:b=q)(f:c=r)(e:d=s):val a b c d=val p q r s:=by subst h1 k f e;rfl
def OA(k:a<2^64)(e:b<2^64)(f:c<2^64)(hd:d<2^64):beV (be32 a b c d).toList=val a b c d:=
 (congrArg beV Cj).trans ((OB _ _ _ _ _ _ _ _ _ _ _ _ _ _ _ _ _ _ _ _ _ _ _ _ _ _ _ _ _ _ _ _).trans (val_congr (Cu k) (Cu e) (Cu f) (Cu hd)))
def Dn(k:n<top):beV (bx n).toList=n:=by
 rw[bx,OA S S S S];unfold val;unfold top at k;omega
variable {P:Nat}[NeZero P]
def Ml(C:IO P){y m:B P}(h:y*y=m):rt m=J (if y.val%2=1 then 0-y else y):=by
 have b:y.val*y.val%P=m.val:=by rw[<-h,xt]
 have h1:=Ms (a:=y.val) C.cur.pr C.p3;rw[b]at h1;rw[rt,GD h1];have c:m.val^(P/4+1)%P<P:=gD _ (BY P);generalize m.val^(P/4+1)%P=r at h1 c;have k:=y.isLt;have f:=C.p3;have hor:=PK C.cur.pr k c (h1.trans b.symm)
 congr 1
 apply tj;show even P r%P=_;unfold even;have d:(0-y:B P).val=(P-y.val)%P:=by rw[<-mT,val_zero,Zs]
 by_cases ho:y.val%2=1
 .rw[GD ho,d];rcases hor with e|e
  .rw[e,GD ho]
  rw[Id S,show P-y.val=r by omega]
 rw[Id ho];rcases hor with e|e
 .rw[e,Id ho,ZC k]
 by_cases g:y.val=0
 .omega
 rw[GD S,show P-r=y.val by omega,ZC k]
def Pe(n:I):ub (mark n)=if n%2=1 then 3 else 2:=by
 unfold mark;split<;>rfl
def Ph{m:Fk}{b:Bs}(h:b.size=32):kG (#[m]++b)=b:=by
 rw[kG,R.extract_append];have h1:(#[m]:Bs).extract 1 33=#[]:=by rfl
 rw[h1];simp[h]
def Uo{m:Fk}{b:Bs}:(#[m]++b)[0]! = m:=by
 rw[getElem!_pos _ 0 (by rw[pq];simp;omega),R.getElem_append_left (by simp)];rfl
def V2(C:IO P){b:Bs}(hs:b.size=33){x y:B P}(c:ub b[0]! = if y.val%2=1 then 3 else 2)(hv:beV (kG b).toList=x.val)(h:On (J (x,y):EC.Pt P)):rd P b=J (x,y):=by
 have k:¬qK b:=λk=>by
  have:=k 0 (p9.2 dC);rw[c]at this;split at this<;>omega
 have hx:rdx P b=x:=by
  rw[rdx,hv];exact tj (ZC x.isLt)
 have d:y*y=x*x*x+7:=by
  have:y^2=x^3+7:=h
  grobner
 rw[rd,GD hs,Id k,c,hv,GD x.isLt,hx,Ml C d];by_cases ho:y.val%2=1
 .rw[GD ho,GD (ZW Z),GD ho,yDD,GD Z];have e:0-(0-y)=y:=by grobner
  rw[e]
 rw[Id ho,GD (Z5 Z),Id ho,yDD,Id dC]
def Ir(C:IO P){X:EC.Pt P}(h:On X):∃p,rd P (wr X)=J p/\pt p=X:=by
 match X,h with
 | none,_ =>
  refine⟨(0,0),?_,by unfold pt;rw[GD ⟨Z,Z⟩]⟩;have h1:(wr (F:EC.Pt P)).size=33:=aR _;rw[rd,GD h1,GD ((mO h1).2 Z)]
 | some (x,y),h =>
  have hs:=aR (P:=P) (J (x,y));have k:(wr (J (x,y):EC.Pt P))[0]! = mark y.val:=Uo;have b:kG (wr (J (x,y):EC.Pt P))=bx x.val:=Ph (dJ _);refine⟨(x,y),V2 C hs (by rw[k,Pe]) (by rw[b,Dn (C.top x)]) h,by unfold pt;rw[Id (λe=>C.cur.y_ne h e.2)]⟩
end
def gxl:G Zm:=[U 6481385041966929816,U 188021827762530521,U 6170039885052185351,U 8772561819708210092]
def gyl:G Zm:=[U 11261198710074299576,U 18237243440184513561,U 6747795201694173352,U 5204712524664259685]
def gX(P:I)[NeZero P]:B P:=rz P 55066263022277343669578718895168534326250603453777594175500187360389116729240
def gY(P:I)[NeZero P]:B P:=rz P 32670510020758816978083085130507043184471273380659243275938904335757337482424
def gG(P:I)[NeZero P]:EC.Pt P:=J (gX P,gY P)
def Fld.eq(C:IO P):P=115792089237316195423570985008687907853269984665640564039457584007908834671663:=by
 have h:=C.gap.hP;have e:val 4294968273 0 0 0=4294968273:=dC;rw[e]at h;unfold Go.Proofs.YtndpeoebngkhmaaGreat.top at h;omega
def GQ(C:IO P):(gX P).val=55066263022277343669578718895168534326250603453777594175500187360389116729240:=by
 have h:=C.eq;exact ZC S
def GP(C:IO P):(gY P).val=32670510020758816978083085130507043184471273380659243275938904335757337482424:=by
 have h:=C.eq;exact ZC S
def UC(C:IO P):gxl=ws (gX P):=by
 show _=wn (gX P).val;rw[GQ C];kernel_rfl
def UB(C:IO P):gyl=ws (gY P):=by
 show _=wn (gY P).val;rw[GP C];kernel_rfl
def B6(C:IO P):On (gG P):=by
 refine BS (tj ?_);have k:(7:B P).val=7:=ZC C.p7;rw[xt,B.val_add,xt,xt,GQ C,GP C,k];rw[C.eq]
def U4:FL 44 #[] (.agg (gxl++gyl).toArray):=by
 intro w;go_enter func44,ntmps44;refine RG.M.enter [] 4 kR λa0 k=>?_
 refine Zq <| k.T [.m 0] [(0,RG.z 8)] [] [0] ⟨mk 0 83,Fs⟩ λf e d c=>?_
 refine Zq <| c.T [.x (.agg gxl.toArray),.x (.agg gyl.toArray),.x (.agg (gxl++gyl).toArray),.u 0] [] [(0,3,gxl++gyl)] [0] ⟨st,st,st,RG.pt i109,Fs⟩ λa2 g b=>?_
 exact ag (b.rr 0 Z jX i109)
def Hv(C:IO P):FL 44 #[] (pv (gX P) (gY P)):=by
 rw[pv,<-UC C,<-UB C];exact U4
def WP(C:IO P):wR (gX P) (gY P)=wr (gG P):=yL C ⟨Z,Z⟩ (B6 C)
def Vm(C:IO P)(w:Zl):dZ 172 #[] w λe w'=>nR w (wr (gG P)) e w':=by
 have d:E (IO P):=C;clear C;go_enter func172,ntmps172;go_wp2_with fail
 apply(Hv d _).mono;rintro e m ⟨v,rfl,k,rfl⟩;go_wp2_with fail
 apply(yK d _).mono;rintro e i ⟨v,rfl,b,g,cap,rfl,h1,f,j,c⟩;rw[WP d.out]at c;have l:E (kZ w i/\nR w (wr (gG P)) (sZ g 33 cap) i):=⟨k.trans (b.mono k.size),g,cap,Z,h1,Zw k.size f,j,c⟩
 clear k b h1 f j c;go_wp2;go_ret;exact⟨_,Z,l⟩
section
open Go.Shelf
attribute [local go_sem] Oper.semAt_some
section
variable {F:Fence}{n:Nat}{P:ai}{ops:Array Z4}{rest:List Z4}{op:Z4}{a:Act}{w:Zl}{Q:Exit->Act->Zl->Prop}
def lE{k:ZR}{x:Operand}{cs:G Zm}(g:op.guard=none)(ho:op.op=.load k x)(hx:a.eval x=oZ b o)(d:TypeDesc)(m:w.rangeAt b o cs)(j:P.underlying k=J d)(hd:d.isRow=H)(l:(P.info? k).map (·.size)=J cs.length)(h:wpListIn F n P ops Q rest (a.put op.dst (.agg cs.toArray)) w):wpListIn F n P ops Q (op :: rest) a w:=
 wpListIn_plain g λK i=>by
  refine⟨λf hf=>(by unfold yGC at hf;rw[ho]at hf;cases hf),?_⟩;rw[yGf _ _ _ (λc=>by rw[ho];intro e;cases e)];unfold Z0;simp only[ho,hx,Instr.loadAt,AJ,ZK,qj,lp,run_loadVar_mid w b o k cs d m j hd l];exact i _ _ h
def bJ{x y:Operand}{k:R Zm}(d:op.guard=none)(g:ZR)(ho:op.op=.store g x y)(o:I)(hx:a.eval x=oZ b o)(l:a.eval y=.agg k)(i:w.there b o k.size)(m:(P.info? g).map (·.size)=J k.size)(h1:k.all (·.oneCell')=H)(h:wpListIn F n P ops Q rest (a.put op.dst undef) (w.setCells b o k.toList)):wpListIn F n P ops Q (op :: rest) a w:=
 wpListIn_plain d λK j=>by
  refine⟨λf hf=>(by unfold yGC at hf;rw[ho]at hf;cases hf),?_⟩;rw[yGf _ _ _ (λc=>by rw[ho];intro e;cases e)];unfold Z0;simp only[ho,hx,l,Instr.storeAt,AJ,ZK,qj,lp,run_storeVar_mid w b o g k i m h1];exact j _ _ h
end
def tK:Own (λ(_:Unit) W=>FJ W k vs):=λs A B row hs c d=>by
 refine⟨Zn hs.1 c.size,λj v b=>?_,λj b=>?_⟩
 .exact cell_kept (hs.2.1 j v b) c d
 have h1:=hs.2.1 j vs[j] (ZH b);exact⟨by rw[cell_kept h1 c d];rfl,(frozen_kept h1 c d).trans (hs.2.2 j b).2⟩
def pW{k:I}:∀(vs:G Zm) (o:I) (W:Zl),KeepsOthers W (W.setCells k o vs)
 | [],_,W=>KeepsOthers.refl W
 | v :: vs,o,W=>(KeepsOthers.setCell W ⟨k,o,F⟩ v).trans (pW vs (o+1) _)
def Row.alloc(h:FJ W k vs)(o:Obj):FJ (W.alloc o) k vs:=
 tK () W (W.alloc o) F h (World.grownBy_alloc W o F) (λ_ e=>by cases e)
def Row.putObj{D:I}(h:FJ W k vs){o:Obj}(c:W.heap[D]? = J o)(ho:o.isCells=false)(b:Obj):FJ (W.putObj D b) k vs:=
 tK () W (W.putObj D b) (J D) h (grownBy_putObj' W D b) (λr e=>by cases e;exact⟨_,c,ho⟩)
variable {P:Nat}[NeZero P]
def QM(C:IO P)(lb:R Zm)(L:G (Fin P × Fin P))(N:I)(w:Zl)
 (y:∀n,SeqStopsK Fence.wide n prog 91 lb (λx:Fin P × Fin P=>#[pv x.1 x.2]) (Below w.heap.size) (λxs=>xs=L) (λb=>b <+: L) N w) :
 eZ 42 #[.func (.func 91) #[] lb] w (pv (L.headD (gX P,gY P)).1 (L.headD (gX P,gY P)).2):=by
 refine(callsIn_wide (n:=5)).1 ?_;refine callsIn_of_wp_marks func42 Z trivial ?_ Z;simp only[ntmps42,kI,Z9,uh,I.reduceAdd,I.reduceSub,R.replicate_succ,R.replicate_zero,G.push_toArray,G.append_toArray,sy,qo]
 gi_wp2
 have z:=Made.alloc w [U 0,U 0,U 0,U 0,U 0,U 0,U 0,U 0] 83;have a:FJ (w.alloc (.cells #[U 0,U 0,U 0,U 0,U 0,U 0,U 0,U 0] 83)) w.heap.size [U 0,U 0,U 0,U 0,U 0,U 0,U 0,U 0]:=⟨z.lt,z.range,z.there⟩
 have o:kZ w (w.alloc (.cells #[U 0,U 0,U 0,U 0,U 0,U 0,U 0,U 0] 83)):=z.bel;clear z;let⟨u,j⟩:∃u,u=w.alloc (.cells #[U 0,U 0,U 0,U 0,U 0,U 0,U 0,U 0] 83):=⟨_,Z⟩
 have Q:u.heap.size=w.heap.size+1:=by rw[j,Zy]
 rw[<-j]at a o⊢;clear j;refine wpIn_rangeFunc_ownH (α:=Fin P × Fin P) Z dC (gf:=91) (lb:=lb) Z trivial (enters_of func91 kR Z) (y 4) belowK_t (belowK_b S) o (λ_=>rfl)
  (λb W=>(b=[]/\FJ W w.heap.size [U 0,U 0,U 0,U 0,U 0,U 0,U 0,U 0])/\kZ w W)
  (λc b W=>(c=.ret/\∃x:Fin P × Fin P,b=[x]/\FJ W w.heap.size (ws x.1++ws x.2))/\kZ w W)
  (yF9 (Own.from (λs A B row hs k p=>⟨hs.1,tK () A B row hs.2 k p⟩) _) (ownFrom_below (Zo _) S))
  (λc=>yF9 (Own.from (λs A B row hs k p=>⟨hs.1,hs.2.imp λx hx=>⟨hx.1,tK () A B row hx.2 k p⟩⟩) _) (ownFrom_below (Zo _) S))
  ⟨⟨Z,a⟩,o⟩
  (λx M W=>∃m,w.heap.size<m/\FJ W m (ws x.1++ws x.2)/\M = { tmps:=#[.func (.func 91) #[] lb,undef,jZ w.heap.size,jZ m,.func (.func 91) #[] lb,pv x.1 x.2,undef,undef],defers:=[] })
  (λx M=>Own.from (λs A B row hs k p=>hs.imp λm hx=>⟨hx.1,tK () A B row hx.2.1 k p,hx.2.2⟩) _) ?assign ?body ?done ?stop
 case assign =>
  intro l b x W K t i;have k:=Made.alloc W [U 0,U 0,U 0,U 0,U 0,U 0,U 0,U 0] 83;have g:=k.there
  gi_wp2_with (refine bJ Z 83 Z 0 Z Z g i109 kR ?_)
  have f:=t.1.2.1;have q:Below w.heap.size W ((W.alloc (.cells #[U 0,U 0,U 0,U 0,U 0,U 0,U 0,U 0] 83)).setCells W.heap.size 0 (ws x.1++ws x.2)):=
   RG.below_setCells (qx f) _ _ _ ((ZF _ W).alloc (qx f) _)
  exact i _ _ (((KeepsOthers.alloc W _).trans (pW _ _ _)).from _) q ⟨⟨t.1.1,(t.1.2.alloc _).other (qh f)⟩,t.2.trans q⟩
   ⟨W.heap.size,f,Row.put (vs:=[U 0,U 0,U 0,U 0,U 0,U 0,U 0,U 0]) ⟨k.lt,k.range,k.there⟩ Z,Z⟩
 case body =>
  rintro l b x M W hl ⟨r,p⟩ ⟨⟨rfl,k⟩,t⟩ ⟨m,K,O,rfl⟩ A;let⟨d,q,f⟩:=Zp.1 jX
  have g:=k.2.2
  gi_wp2_with (first|refine lE Z Z Z d O.2.1 q f i109 ?_|refine bJ Z 83 Z 0 Z Z g i109 kR ?_)
  exact⟨(pW _ _ _).from _,⟨Z,x,Z,k.put Z⟩,RG.below_setCells (Zo _) _ _ _ t⟩
 case done =>
  rintro D ys W A rfl ⟨⟨rfl,k⟩,t⟩ i;have g:=k.2.2
  gi_wp2_with fail
  refine⟨trivial,(callsIn_wide.2 (Hv C _)).mono ?_⟩;rintro e K ⟨v,rfl,p,rfl⟩;have f:FJ K w.heap.size [U 0,U 0,U 0,U 0,U 0,U 0,U 0,U 0]:=k.below p
  gi_wp2_with (refine bJ Z 83 Z 0 Z Z f.2.2 i109 kR ?_)
  have m:(K.setCells w.heap.size 0 (ws (gX P)++ws (gY P))).heap[D]? = J (.deferred (J [])):=by
   rw[aM _ _ _ _ S,p.block D (ZO.1 i).1];exact i
  have q:FJ (K.setCells w.heap.size 0 (ws (gX P)++ws (gY P))) w.heap.size (ws (gX P)++ws (gY P)):=f.put Z;refine⟨by simp,.inl ⟨_,_,Z,run_takeDeferred m,?_⟩⟩;exact⟨_,aG 2 Z (q.putObj m Z _) Z jX i109,_,Z,(RG.below_setCells (Zo _) _ _ _ (t.trans (p.mono t.size))).trans (belowK_b (w:=u) S _ D _ _ A m Z Z),Z⟩
 case stop =>
  rintro D c b W A f ⟨⟨rfl,x,rfl,k⟩,t⟩ i
  gi_wp2
  let⟨m,g⟩:=f
  rw[g.symm];refine⟨by simp,.inl ⟨_,_,Z,run_takeDeferred i,?_⟩⟩;exact⟨_,aG 2 Z (k.putObj i Z _) Z jX i109,_,Z,t.trans (belowK_b (w:=u) S _ D _ _ A i Z Z),Z⟩
end
def lK{e:I}(h:IS w k [⟨k,0,d,c,b,0⟩,⟨e,0,0,0,0,0⟩] W):W.cell? ⟨k,0,F⟩=J (U d)/\W.cell? ⟨k,1,F⟩=J (U c)/\W.cell? ⟨k,2,F⟩=J (U b)/\W.cell? ⟨k,3,F⟩=J (U 0)/\IS w k [⟨k,0,d,c,b,0⟩,⟨e,0,0,0,0,0⟩] W:=⟨h.head.c0,h.head.c1,h.head.c2,h.head.c3,h⟩
def mF{e:I}(h:W.cell? ⟨k,0,F⟩=J (U d)/\W.cell? ⟨k,1,F⟩=J (U c)/\W.cell? ⟨k,2,F⟩=J (U b)/\W.cell? ⟨k,3,F⟩=J (U 0)/\IS w k [⟨k,0,d,c,b,0⟩,⟨e,0,0,0,0,0⟩] W):IS w k [⟨k,0,d,c,b,0⟩,⟨e,0,0,0,0,0⟩] W:=h.2.2.2.2
def Ge{e:I}{o:Obj}(h:W.cell? ⟨k,0,F⟩=J (U d)/\W.cell? ⟨k,1,F⟩=J (U c)/\W.cell? ⟨k,2,F⟩=J (U b)/\W.cell? ⟨k,3,F⟩=J (U 0)/\IS w k [⟨k,0,d,c,b,0⟩,⟨e,0,0,0,0,0⟩] W):(W.alloc o).cell? ⟨k,0,F⟩=J (U d)/\(W.alloc o).cell? ⟨k,1,F⟩=J (U c)/\(W.alloc o).cell? ⟨k,2,F⟩=J (U b)/\(W.alloc o).cell? ⟨k,3,F⟩=J (U 0)/\IS w k [⟨k,0,d,c,b,0⟩,⟨e,0,0,0,0,0⟩] (W.alloc o):=lK ((mF h).alloc o)
def Ee{e:I}{o:Obj}(h:W.drew.cell? ⟨k,0,F⟩=J (U d)/\W.drew.cell? ⟨k,1,F⟩=J (U c)/\W.drew.cell? ⟨k,2,F⟩=J (U b)/\W.drew.cell? ⟨k,3,F⟩=J (U 0)/\IS w k [⟨k,0,d,c,b,0⟩,⟨e,0,0,0,0,0⟩] W.drew):(W.alloc o).drew.cell? ⟨k,0,F⟩=J (U d)/\(W.alloc o).drew.cell? ⟨k,1,F⟩=J (U c)/\(W.alloc o).drew.cell? ⟨k,2,F⟩=J (U b)/\(W.alloc o).drew.cell? ⟨k,3,F⟩=J (U 0)/\IS w k [⟨k,0,d,c,b,0⟩,⟨e,0,0,0,0,0⟩] (W.alloc o).drew:=lK (((mF h).undrew).alloc o).drew
def As{p l:I}{bs:Bs}(h:hZ w g o bs)(b:p+l<=bs.size):hZ w g (o+p) (bs.extract p (p+l)):=by
 refine Holds.part h (by rw[yq];omega) (λj k=>?_);rw[yq]at k;rw[getElem!_pos (bs.extract p (p+l)) j (by rw[yq];omega),getElem!_pos bs (p+j) S,R.getElem_extract]
def EJ{f:I}{bs:Bs}(h:hZ w g o bs)(hf:f<=bs.size):hZ w g o (bs.extract 0 f):=by
 have:=As (p:=0) (l:=f) h S;rwa[Zs,qg]at this
def RedR(w:Zl)(e f j i g N:I)(s6:Zm)(l:Zl):Prop:=
 ∃k a b c d:I,s6=jZ k/\IS w e [⟨k,0,a,b,c,d⟩,⟨e,0,j,i,g,0⟩,⟨f,0,0,0,0,0⟩] l/\k≠e/\k≠f/\e<=k /\
  E (GS (.agg #[U a,U b,U c,U d]) N)
def RedR.made{k:Zl}{f l:I}(e:IS w f [⟨f,0,l,j,i,0⟩,⟨g,0,0,0,0,0⟩] k)(m:Hid (GS (.agg #[uZ a,uZ b,uZ c,uZ d]) N)):
 RedR w f g l j i N (jZ k.heap.size) (k.alloc (.cells #[uZ a,uZ b,uZ c,uZ d] 151)):=
 ⟨k.heap.size,a,b,c,d,Z,(e.alloc _).cons (At4.made k 151 a b c d Z).blk,pe e.head.lt,pe e.tail.head.lt,e.le,m⟩
def RedR.put{l:Zl}{e f x y z u:I}(o:IS w e [⟨e,0,i,j,g,0⟩,⟨f,0,0,0,0,0⟩] l)(T:At4 l k x y z u)(n:e<=k)(m:∀x∈([⟨e,0,i,j,g,0⟩,⟨f,0,0,0,0,0⟩]:G Blk),x.k<k)(p:Hid (GS (.agg #[uZ a,uZ b,uZ c,uZ d]) N)):
 RedR w e f i j g N (jZ k) ((((l.setCell (aZ k) (uZ a)).setCell ⟨k,1,F⟩ (uZ b)).setCell ⟨k,2,F⟩ (uZ c)).setCell ⟨k,3,F⟩ (uZ d)):=
 ⟨k,a,b,c,d,Z,(o.set4' n (λx hx=>pe (m x hx)) _ _ _ _).cons (T.self4 a b c d).blk,pe (m ⟨e,0,i,j,g,0⟩ (by simp)),pe (m ⟨f,0,0,0,0,0⟩ (by simp)),n,p⟩
def MC(bs:Bs)(p:I)(c:p+32<=bs.size):(beV (bs.extract p (p+32)).toList+top*(beV (bs.extract 0 p).toList%P))%P=beV (bs.extract 0 (p+32)).toList%P:=by
 have e:(bs.extract 0 (p+32)).toList=(bs.extract 0 p).toList++(bs.extract p (p+32)).toList:=by
  rw[<-yDg,R.extract_append_extract,yF1 S,I.max_eq_right S]
 have k:(bs.extract p (p+32)).toList.length=32:=by rw[ZE,yq];omega
 have b:256^32=top:=by unfold top;decide
 rw[e,gI,k,b,yGp,yn,tn,yEF,<-tn,<-yn,ax]
theorem Fh(g0 g1 g2 P g o n cap : I)(bs : Bs)(hG : Gap g0 g1 g2 P)(w : Zl)(hs : bs.size = n)(hc : n <= cap)(hg : g < w.heap.size)(hB : FE encB w g o bs):
    ae prog 228 #[.agg #[.int .u64 (g0 : Y), .int .u64 (g1 : Y), .int .u64 (g2 : Y), .int .u64 0], .slice (J ⟨g, o, F⟩) n cap] w (Ret λe w' => Below w.heap.size w w' /\ GS e (beV bs.toList % P)) := by
  obtain⟨f, hf⟩ : ∃f, f = n % 32 := ⟨_, rfl⟩;have hf32 : f < 32 := S;have hfn : f <= n := S;have e1 : (n : Y) % 32 = (f : Y) := S;have e2 : (f : Y) <= (cap : Y) := S;have e3 : (f : Y) <= (n : Y) := S;have e4 : f <= cap := S;have hsz0 : (bs.extract 0 f).size = f := by rw [yq]; omega
  have Hf : E (f = n % 32) := hf;have HS : E ((bs.extract 0 f).size = f) := hsz0;have hbs : f <= bs.size := S;have HSZ : E (bs.size = n) := hs;have HG : E (Gap g0 g1 g2 P) := hG;clear hf hsz0 hG;go_enter func228, ntmps228
  go_upto_region 2 with fail
  rw [e1];clear e1;have PR := (At4.made w 153 g0 g1 g2 0 Z).alloc (.cells #[.int .u64 0, .int .u64 0, .int .u64 0, .int .u64 0] 81);have RE := At4.made (w.alloc (.cells #[.int .u64 (g0 : Y), .int .u64 (g1 : Y), .int .u64 (g2 : Y), .int .u64 0] 153)) 81 0 0 0 0 (Zy _ _);have KP := ((Kept.mk1 (below2 w (.cells #[.int .u64 (g0 : Y), .int .u64 (g1 : Y), .int .u64 (g2 : Y), .int .u64 0] 153) (.cells #[.int .u64 0, .int .u64 0, .int .u64 0, .int .u64 0] 81)) (below2 w (.cells #[.int .u64 (g0 : Y), .int .u64 (g1 : Y), .int .u64 (g2 : Y), .int .u64 0] 153) (.cells #[.int .u64 0, .int .u64 0, .int .u64 0, .int .u64 0] 81)).size).cons RE.blk).cons PR.blk;clear PR RE;generalize pn _ _ = W0 at KP⊢;generalize h1 : w.heap.size + 1 = k1 at KP⊢;have Q1 : E (w.heap.size <= k1) := by unfold E; omega
  generalize h0 : w.heap.size = k0 at KP Q1 hg⊢;have n01 : k0 ≠ k1 := S;have H0 : E (w.heap.size = k0) := h0;have HBS : E (FE encB w g o bs) := hB;clear h0 h1 hB hs
  go_cut [6] (λs6 wx => RedR w k0 k1 g0 g1 g2 (beV (bs.extract 0 f).toList % P) s6 wx)
  case first =>
    go_region_held3 (λw' => w'.cell? ⟨k0, 0, F⟩ = J (.int .u64 (g0 : Y)) /\ w'.cell? ⟨k0, 1, F⟩ = J (.int .u64 (g1 : Y)) /\ w'.cell? ⟨k0, 2, F⟩ = J (.int .u64 (g2 : Y)) /\ w'.cell? ⟨k0, 3, F⟩ = J (.int .u64 0) /\ IS w k0 [⟨k0, 0, g0, g1, g2, 0⟩, ⟨k1, 0, 0, 0, 0, 0⟩] w') (first | (with_reducible exact lK KP) | (with_reducible exact lK KP.drew) | (with_reducible exact Ee (by assumption)) | (with_reducible exact Ge (by assumption)) | (with_reducible exact lK (KP.alloc _)) | (with_reducible exact lK (KP.set4' M7 (λx hx => pe (N7 x hx)) _ _ _ _)) | (with_reducible exact lK (KP.alloc _).drew) | (with_reducible exact lK (KP.set4' M7 (λx hx => pe (N7 x hx)) _ _ _ _).drew)) (first | (go_at_call 146; refine(lW (J ⟨g, o, F⟩) g o f cap (bs.extract 0 f) _ (qx hf32) e4 HS.out (ZW ⟨Z, EJ (f:=f) (Holds.below HBS.out (mF (by assumption)).bl hg) hbs⟩)).mono ?_; rintro e w1 ⟨v, rfl, hb1, hF1⟩; obtain⟨a1, b1, c1, d1, rfl, ha1, hb1', hc1, hd1, es1⟩ := id hF1; clear es1; have HF1 : E (GS _ _) := hF1; clear hF1; (try(with_reducible have T1 := T.call hb1; clear T; have T := T1; clear T1)); (try(first | (with_reducible have T := (At4.made _ 151 0 0 0 0 Z).call hb1) | (with_reducible have T := (At4.made _ 151 0 0 0 0 Z).drew.call hb1)); have N7 := KP.lts; have M7 := KP.le); have KP1 := Kept.call (mF (by assumption)) hb1; clear KP; have KP := KP1; clear KP1 hb1) | (go_at_call 148; refine(kY HF1.out).mono ?_; rintro e w1 ⟨v, rfl, hb1, rfl⟩; (try(with_reducible have T1 := T.call hb1; clear T; have T := T1; clear T1)); (try(first | (with_reducible have T := (At4.made _ 151 0 0 0 0 Z).call hb1) | (with_reducible have T := (At4.made _ 151 0 0 0 0 Z).drew.call hb1)); have N7 := KP.lts; have M7 := KP.le); have KP1 := Kept.call (mF (by assumption)) hb1; clear KP; have KP := KP1; clear KP1 hb1) | (go_at_call 223; refine(AA g0 g1 g2 _ _ _ _ P HG.h0 HG.h1 HG.h2 HG.hor HG.hP HG.hP2 HF1.out (Four.mk (a := 0) (b := 0) (c := 0) (d := 0) dC dC dC dC Z) _).mono ?_; rintro e w1 ⟨v, rfl, hb1, hF3⟩; obtain⟨a', b', c', d', rfl, ha', hb', hc', hd', es3⟩ := id hF3; clear es3; have HF3 : E (GS _ _) := hF3; clear hF3; (try(with_reducible have T1 := T.call hb1; clear T; have T := T1; clear T1)); (try(first | (with_reducible have T := (At4.made _ 151 0 0 0 0 Z).call hb1) | (with_reducible have T := (At4.made _ 151 0 0 0 0 Z).drew.call hb1)); have N7 := KP.lts; have M7 := KP.le); have KP1 := Kept.call (mF (by assumption)) hb1; clear KP; have KP := KP1; clear KP1 hb1; (try(obtain⟨tc0, tc1, tc2, tc3, tf⟩ := id T; have zt := T.lt))))
    all_goals (try go_wp2)
    all_goals (rw [show val 0 0 0 0 = 0 from Z, xe, qg]at HF3)
    all_goals (go_meet; first | (with_reducible exact RedR.made KP HF3) | (with_reducible exact(RedR.made KP HF3).drew) | (with_reducible exact RedR.put KP T M7 N7 HF3) | (with_reducible exact(RedR.put KP T M7 N7 HF3).drew))
  case rest =>
    clear KP;obtain⟨k6, a, b, c, d, rfl, KP, n60, n61, M6, HF⟩ := hcut;have f0 : (0 : Y) <= (f : Y) := yFw _
    go_upto_region 3 with fail
    go_cut [1] (λs1 wx => ∃q : I, s1 = .slice (J ⟨g, q, F⟩) (n - f) (cap - f) /\ E (0 < n - f -> q = o + f) /\ IS w k0 [⟨k6, 0, a, b, c, d⟩, ⟨k0, 0, g0, g1, g2, 0⟩, ⟨k1, 0, 0, 0, 0, 0⟩] wx)
    case first =>
      by_cases ec : cap = f
      · have en : n = f := S
        have HEN : E (n = f /\ cap = f) := ⟨en, ec⟩;go_wp2
        go_meet
        refine⟨o, ?_, λh => ?_, KP⟩
        · rw [HEN.1, HEN.2]; try simp
        · have := HEN.1; omega
      · go_wp2
        go_meet
        exact⟨o + f, rfl, λ_ => rfl, KP⟩
    case rest =>
    clear KP;obtain⟨q0, rfl, HQ0, KP⟩ := hcut;go_wp2_with fail
    go_loopg [1] (n - f) (λgk s1 wr => ∃(l q lc a b c d : I), gk = l /\ l <= n /\ s1 = .slice (J ⟨g, q, F⟩) l lc /\ E (l % 32 = 0 /\ (0 < l -> q = o + (n - l)) /\ lc = cap - (n - l)) /\ IS w k0 [⟨k6, 0, a, b, c, d⟩, ⟨k0, 0, g0, g1, g2, 0⟩, ⟨k1, 0, 0, 0, 0, 0⟩] wr /\
      E (GS (.agg #[.int .u64 (a : Y), .int .u64 (b : Y), .int .u64 (c : Y), .int .u64 (d : Y)]) (beV (bs.extract 0 (n - l)).toList % P)))
    case atStart =>
      refine⟨n - f, q0, cap - f, a, b, c, d, rfl, S, rfl, ⟨by have := Hf.out; omega, λh => by have := HQ0.out h; omega, S⟩, KP, ?_⟩;rw [show n - (n - f) = f by omega];exact HF
    case round =>
      clear KP HF;obtain⟨l, q, lc, a, b, c, d, hgk, hln, rfl, HQ3, KP, HF⟩ := hrel;clear e2 e3 e4 f0 hbs HS hf32 hfn HQ0;have hlcl : l <= lc := by have := HQ3.out; omega
      by_cases h0 : l = 0
      · subst h0
        obtain⟨xc0, xc1, xc2, xc3, xf⟩ := KP.head.at4;have z7 := KP.head.lt;go_wp2_with fail
        refine(kV HF.out).mono ?_;rintro e w3 ⟨v, rfl, hb3, rfl⟩;have KP3 := KP.call hb3;clear hb3 xc0 xc1 xc2 xc3 xf z7 KP;obtain⟨rc0, rc1, rc2, rc3, rf⟩ := KP3.tail.tail.head.at4;have z3 := KP3.tail.tail.head.lt;go_wp2;have RF := KP3.tail.tail.head.at4.self4 a b c d;unfold set4 at RF;refine Zx (by simp [results, Tryz.results228, go_sem, RF.c0, RF.c1, RF.c2, RF.c3]; rfl) Z ?_;refine⟨_, rfl, ?_, ?_⟩
        · rw [H0.out]
          exact aH KP3.bl Q1.out
        · have := HF.out
          rw [wt, <-HSZ.out, R.extract_size]at this;exact this
      · have h32 : 32 <= l := by have := HQ3.out; omega
        have HQ : E (o + (n - l) = q) := (HQ3.2.1 S).symm;have h32c : 32 <= lc := S;have i1 : (32 : Y) <= (lc : Y) := S;have i2 : (32 : Y) <= (l : Y) := S;have i3 : (0 : Y) < (l : Y) := S;have HSL : E (n - l + 32 <= bs.size) := by unfold E; have := HSZ.out; omega
        have HS3 : E ((bs.extract (n - l) (n - l + 32)).size = 32) := by unfold E; rw [yq]; have := HSL.out; omega
        obtain⟨tc0, tc1, tc2, tc3, tf⟩ := KP.head.at4;have zt := KP.head.lt;obtain⟨pc0, pc1, pc2, pc3, pf⟩ := KP.tail.head.at4;have hl6 : ∀x ∈ ([⟨k0, 0, g0, g1, g2, 0⟩, ⟨k1, 0, 0, 0, 0, 0⟩] : G Blk), k6 ≠ x.k := by simp only [fT, ZJ, or_false]; rintro x (rfl | rfl); exact n60; exact n61
        have HFF : E (_ = _) := MC (P := P) bs (n - l) HSL.out;go_wp2_with fail
        go_region_with (first | (go_at_call 146; refine(lW (J ⟨g, q, F⟩) g q 32 lc (bs.extract (n - l) (n - l + 32)) _ (Zo 32) h32c HS3.out (ZW ⟨Z, HQ.out ▸ As (p:=(n - l)) (l:=32) (by first | (with_reducible exact Holds.below HBS.out KP.bl hg) | (with_reducible exact Holds.below HBS.out KP.drew.bl hg)) HSL.out⟩)).mono ?_; rintro e w1 ⟨v, rfl, hb1, hF1⟩; obtain⟨a1, b1, c1, d1, rfl, ha1, hb1', hc1, hd1, es1⟩ := id hF1; clear es1; have HF1 : E (GS _ _) := hF1; clear hF1; (first | (with_reducible have KP1 := KP.call hb1) | (with_reducible have KP1 := KP.drew.call hb1)); clear KP; have KP := KP1; clear KP1 hb1; obtain⟨tc0, tc1, tc2, tc3, tf⟩ := KP.head.at4; have zt := KP.head.lt; obtain⟨pc0, pc1, pc2, pc3, pf⟩ := KP.tail.head.at4) | (go_at_call 148; refine(kY HF1.out).mono ?_; rintro e w1 ⟨v, rfl, hb1, rfl⟩; (first | (with_reducible have KP1 := KP.call hb1) | (with_reducible have KP1 := KP.drew.call hb1)); clear KP; have KP := KP1; clear KP1 hb1; obtain⟨tc0, tc1, tc2, tc3, tf⟩ := KP.head.at4; have zt := KP.head.lt; obtain⟨pc0, pc1, pc2, pc3, pf⟩ := KP.tail.head.at4) | (go_at_call 223; refine(AA g0 g1 g2 _ _ _ _ P HG.h0 HG.h1 HG.h2 HG.hor HG.hP HG.hP2 HF1.out HF.out _).mono ?_; rintro e w1 ⟨v, rfl, hb1, hF3⟩; obtain⟨a', b', c', d', rfl, ha', hb', hc', hd', es3⟩ := id hF3; clear es3; have HF3 : E (GS _ _) := hF3; clear hF3; (first | (with_reducible have KP1 := KP.call hb1) | (with_reducible have KP1 := KP.drew.call hb1)); clear KP; have KP := KP1; clear KP1 hb1; obtain⟨tc0, tc1, tc2, tc3, tf⟩ := KP.head.at4; have zt := KP.head.lt; obtain⟨pc0, pc1, pc2, pc3, pf⟩ := KP.tail.head.at4))
        all_goals (rw [HFF.out]at HF3)
        all_goals (by_cases i4 : lc = 32)
        all_goals (try go_wp2)
        all_goals
          (go_roundg (l - 32)
           case measure => omega
           case rel =>
            first
              | refine⟨l - 32, q + 32, lc - 32, a', b', c', d', rfl, S, rfl, ⟨by have := HQ3.out; omega, λ_ => by have := HQ.out; omega, by have := HQ3.out; omega⟩, ?_, ?_⟩
              | refine⟨l - 32, q, lc - 32, a', b', c', d', rfl, S, by first | rfl | (rw [i4]), ⟨by have := HQ3.out; omega, λh => S, by have := HQ3.out; omega⟩, ?_, ?_⟩
              | fail
            · first | (with_reducible exact KP.put M6 hl6 a' b' c' d') | (with_reducible exact(KP.put M6 hl6 a' b' c' d').drew) | fail
            · rw [show n - (l - 32) = n - l + 32 by omega]; exact HF3)
def sPl(N a b:I):I:=(a+b)%N
def PC(O:Ord N)(c:a<N)(k:b<N):FL 163 #[gv1,nv a,nv b] (nv (sPl N a b)):=λw =>
 (Fg O.gap (O.four c) (O.four k) c k).mono (by rintro e w' ⟨v,rfl,k,d⟩;exact⟨_,Z,k,d.nv⟩)
def oS(O:Ord N)(a b:I)(c:a<N)(d:b<N):FL 114 #[(nv a),(nv b)] (nv (sPl N a b)):=by
 intro w;go_enter func114,ntmps114;refine RG.M.enter [(0,.v (nv a)),(1,.v (nv b))] 12 kR λa0 k=>?_
 refine Zq <| k.T [.m 0,.m 1,.m 2] [(0,wn a),(1,wn b),(2,RG.z 4)] [] [2,3,4] ⟨mk 0 93,mk 1 93,mk 2 93,Fs⟩ λj g m l i e=>?_
 refine Zq <| e.D [.c gv1,.s (.p 0 0),.x (nv a),.s (.p 1 0),.x (nv b),.c (nv (sPl N a b)),.x (nv (sPl N a b)),.u 2] [] [(2,7,wn (sPl N a b))] [4] ⟨cl jK,st,ld u38 i38,st,ld u38 i38,cl (PC O c d),st,RG.pt i40,Fs⟩ λa2 n f=>?_
 exact ag (f.rr 2 Z u40 i40)
def nW(N:I)(bs:Bs):I:=beV bs.toList%N
def Vl(v:Zm)(n:I):G It:=[.c 3 [] gv1,.x 4 [] v,.c 5 [(3,0),(4,1)] (nv n),.x 6 [(5,2)] (nv n),.u [(6,3)] 0]
def BH(O:Ord N)(g:I)(bs:Bs)(hs:bs.size=64)(w:Zl)(c:g<w.heap.size)(j:hZ w g 0 bs):eZ 211 #[sZ g 64 64] w (nv (nW N bs)):=by
 have l:∀w',BelX w.heap.size [] w w'->cZ 228 #[gv1,sZ g 64 64] w' (Ret λe k=>kZ w' k/\e=nv (nW N bs)):=λw' b =>
  (Fh _ _ _ N g 0 64 64 bs O.gap w' hs (Zo _) (Zn c b.below.size) (Holds.below j b.below c)).mono (by rintro e k ⟨v,rfl,b,d⟩;exact⟨_,Z,b,d.nv⟩)
 go_enter func211,ntmps211;refine RG.M.enter [(0,.v (sZ g 64 64))] 7 kR λa0 i=>?_
 refine Zq <| i.T [.m 0] [(0,RG.z 4)] [] [0,2] ⟨mk 0 93,Fs⟩ λn o m d=>?_
 refine Zq <| d.t (Vl (sZ g 64 64) (nW N bs)) [] [(0,4,wn (nW N bs))] [wn (nW N bs)] [(2,.p 0 0)] ⟨cl jK,st,clB (λ_ _=>kR) l,st,RG.pt i40,Fs⟩ λa2 p f=>?_
 exact ag (f.rr 0 Z u40 i40)
def qP{bs:Bs}(O:Ord N):nW N bs<N:=gD _ O.pos
def chL(N:I)(k:G Fk)(b:G (G Fk)):I:=nW N (oH (kH k b).toList 64)
def LR(O:Ord N)(r2:I)(T:Bs)(w:Zl)(s:T.size=32)(hT:hZ w r2 0 T):
 eZ 167 #[sZ r2 32 32] w (nv (nW N (oH T.toList 64))):=by
 let⟨S,t⟩:∃S,E (oH T.toList 64=S):=⟨_,Z⟩
 have p:S.size=64:=t.out▸BE;rw[t.out];let⟨c,k⟩:∃c,E (w.alloc (.cells #[U 0,U 0,U 0,U 0] 93)=c):=⟨_,Z⟩
 have f:E (FJ c w.heap.size [U 0,U 0,U 0,U 0]/\kZ w c/\hZ c r2 0 T):=by rw[<-k.out];exact⟨aE,aD _,Holds.below hT (aD _) (Holds.lt hT oM)⟩
 clear hT;go_enter func167,ntmps167;go_wp2_with fail
 rw[k.out];clear k;apply(Bc (J (aZ r2)) r2 0 32 32 64 T c dC s (Zo _) dC (ZW ⟨Z,f.2.2⟩)).mono;rintro e j ⟨u,rfl,h1,o,r⟩;rw[t.out]at r;have d:E (FJ j w.heap.size [U 0,U 0,U 0,U 0]/\kZ w j/\hZ j u 0 S):=⟨f.1.below o,f.2.1.trans (o.mono f.2.1.size),r⟩
 clear h1 o r f;go_wp2_with fail
 apply(BH O u S p j (Holds.lt d.2.2 oM) d.2.2).mono;rintro e n ⟨v,rfl,b,rfl⟩;have q:E (FJ n w.heap.size [U 0,U 0,U 0,U 0]/\kZ w n):=⟨d.1.below b,d.2.1.trans (b.mono d.2.1.size)⟩
 clear b d;let⟨m,y⟩:∃m,E (nW N S=m):=⟨_,Z⟩
 rw[y.out];let⟨l,i⟩:∃l,E (n.setCells w.heap.size 0 (wn m)=l):=⟨_,Z⟩
 have x:E (FJ l w.heap.size (wn m)/\kZ w l):=by rw[<-i.out];exact⟨q.1.put Z,RG.below_setCells (Zo _) _ _ _ q.2⟩
 let⟨z,g⟩:∃z,E (nv m=z):=⟨_,Z⟩
 rw[g.out];go_wp2_with (refine ZZ Z 93 _ _ Z w.heap.size 0 (wn m).toArray ?_ ?_ ?_ ?_ ?_ ?_;rfl;exact g.symm;exact q.1.2.2;exact i40;exact aK;rw[show(wn m).toArray.toList=wn m from Z,i.out])
 refine Zx (aG 2 Z x.1 Z u40 i40) Z ?_;exact⟨_,Z,x.2,by rw[y.out];rfl⟩
def EU(O:Ord N)(k:Fd)(s:GJ gE)(n cap:I)(i:G (G Fk))(w:Zl)(p:k.size<=1048576)(L:i.length=n)(o:n<=1048576)(P:PartsOk w s i):
 eZ 97 #[.string k,.slice s n cap] w (nv (chL N k.data.toList i)):=by
 let⟨T,hT⟩:∃T,E (kH k.data.toList i=T):=⟨_,Z⟩
 have a:T.size=32:=hT.out▸eG;have C:chL N k.data.toList i=nW N (oH T.toList 64):=by unfold chL;rw[hT.out]
 rw[C];clear C;let⟨c,f⟩:∃c,E (w.alloc (.cells #[U 0,U 0,U 0,U 0] 93)=c):=⟨_,Z⟩
 have b:E (FJ c w.heap.size [U 0,U 0,U 0,U 0]/\kZ w c):=by rw[<-f.out];exact⟨aE,aD _⟩
 have d:E (cZ 92 #[.string k,.slice s n cap] c λe w'=>∃r,e=.returned (sZ r 32 32)/\c.heap.size<=r/\kZ c w'/\hZ w' r 0 T):=by
  subst L;rw[<-hT.out];exact yN k s cap i c p o (P.below b.2)
 clear P L o;go_enter func97,ntmps97;go_wp2_with fail
 rw[f.out];clear f;refine d.mono ?_;rintro e t ⟨r2,rfl,h1,y,K⟩;have j:E (FJ t w.heap.size [U 0,U 0,U 0,U 0]/\kZ w t/\hZ t r2 0 T):=⟨b.1.below y,b.2.trans (y.mono b.2.size),K⟩
 clear h1 y K d b;go_wp2_with fail
 apply(LR O r2 T t a j.2.2).mono;rintro e x ⟨v,rfl,g,rfl⟩;have z:E (FJ x w.heap.size [U 0,U 0,U 0,U 0]/\kZ w x):=⟨j.1.below g,j.2.1.trans (g.mono j.2.1.size)⟩
 clear g j;let⟨m,M⟩:∃m,E (nW N (oH T.toList 64)=m):=⟨_,Z⟩
 rw[M.out];let⟨u,q⟩:∃u,E (x.setCells w.heap.size 0 (wn m)=u):=⟨_,Z⟩
 have A:E (FJ u w.heap.size (wn m)/\kZ w u):=by rw[<-q.out];exact⟨z.1.put Z,RG.below_setCells (Zo _) _ _ _ z.2⟩
 let⟨Q,l⟩:∃Q,E (nv m=Q):=⟨_,Z⟩
 rw[l.out];go_wp2_with (refine ZZ Z 93 _ _ Z w.heap.size 0 (wn m).toArray ?_ ?_ ?_ ?_ ?_ ?_;rfl;exact l.symm;exact z.1.2.2;exact i40;exact aK;rw[show(wn m).toArray.toList=wn m from Z,q.out])
 refine Zx (aG 4 Z A.1 Z u40 i40) Z ?_;exact⟨_,Z,A.2,by rw[M.out];rfl⟩
section
section
variable {P:ai}{ops:Array Z4}{rest:List Z4}{op:Z4}{a:Act}{w w':Zl}{v:Zm}{Q:Exit->Act->Zl->Prop}
def bH(k:op.guard=F)(X:Op)(_:op.op=X)(b:(Z0 a.eval op).run P w=.ok (.value v) w')(h:wpList P ops Q rest (a.put op.dst v) w'):wpList P ops Q (op :: rest) a w:=
 wpList_plain k λK c=>by
  rw[Oper.wp,b];exact c _ _ h
end
variable {N:Nat}
def Row.only{W':Zl}(h:FJ W k vs)(f:SP.Only b o n W W')(d:k≠b):FJ W' k vs:=by
 refine⟨Zn h.1 f.size,λj v e=>?_,λj e=>?_⟩
 .rw[(f.other (c:=k) (o:=0+j) d h.1).1];exact h.2.1 j v e
 have h1:=h.2.2 j e;have g:=f.other (c:=k) (o:=0+j) d h.1;exact⟨by rw[g.1];exact h1.1,by rw[g.2];exact h1.2⟩
def bU{q y:I}(h:SP.Only y o n w W)(e:y<w.heap.size)(f:w.heap.size<=k):SP.Only y o n w (W.setCells k q vs):=
 have b:=RG.below_setCells f _ _ _ (ZF _ _)
 ⟨b.os.trans h.os,b.tape.trans h.tape,b.output.trans h.output,Zw h.size b.size,λj d c=>(b.block j d).trans (h.block j d c),λp g=>(ZP (a:=⟨y,p,F⟩) (b.block y e)).trans (h.cell p g),λp=>(sI (a:=⟨y,p,F⟩) (b.block y e)).trans (h.froz p)⟩
def Hid.mk'{p:Prop}(h:p):Hid p:=h
def u124:yZ 116:=yQ
def i124:gZ 116 1:=gQ
def JP(k:Fd)(w:Zl)(n:k.size<=1048576):dZ 186 #[.string k] w λe w'=>∃r,e=.agg #[jZ r]/\w.heap.size<=r/\r<w'.heap.size/\hZ w' r 0 (newL k.data.toList):=by
 obtain⟨L,s⟩:=hE (newL k.data.toList);have u:L.size=32:=by rw[<-s.out];exact wE
 rw[s.out];obtain⟨c,d⟩:=yH (w.alloc (.cells #[.pointer F] 116));have m:E (FJ c w.heap.size [.pointer F]/\kZ w c):=by rw[<-d.out];exact⟨aE,aD _⟩
 go_enter func186,ntmps186;go_wp2_with fail
 rw[d.out];clear d;refine(H6 k c n).mono ?_;rintro e g ⟨rfl,f,b⟩;rw[s.out]at b;have l:c.heap.size<g.heap.size:=Holds.lt b S;obtain⟨r,t⟩:=yH c.heap.size;rw[t.out]at b l⊢;have y:w.heap.size<r:=by rw[<-t.out];exact m.1.1
 have p:E (FJ g w.heap.size [.pointer F]/\kZ w g/\hZ g r 0 L):=⟨m.1.below f,m.2.trans (f.mono m.2.size),b⟩
 clear f b m t;obtain⟨i,o⟩:=yH (g.setCells w.heap.size 0 [jZ r]);have q:E (FJ i w.heap.size [jZ r]/\kZ w i/\hZ i r 0 L/\r<i.heap.size):=by
  rw[<-o.out];refine⟨p.1.put Z,RG.below_setCells (Zo _) _ _ _ p.2.1,λj x=>?_,by rw[setCells_size];exact l⟩;have e:=aM (k:=w.heap.size) [jZ r] 0 g r S;rw[ZP (a:=⟨r,0+j,F⟩) e,sI (a:=⟨r,0+j,F⟩) e];exact p.2.2 j x
 go_wp2_with (refine bH (v:=.agg #[jZ r]) (w':=g) Z (.build 116 _) Z ?_ ?_;kernel_rfl;refine E.out ?_)
 show wpList _ _ _ _ _ _;refine ZZ Z 116 _ _ Z w.heap.size 0 #[jZ r] ?_ ?_ ?_ ?_ ?_ ?_
 .kernel_rfl
 .kernel_rfl
 .exact p.1.2.2
 .exact i124
 .kernel_rfl
 rw[show(#[jZ r]).toList=[jZ r] from Z,o.out];go_wp2;refine Zx (aG 2 Z q.1 Z u124 i124) Z ?_;exact⟨_,Z,q.2.1,r,Z,S,q.2.2.2,q.2.2.1⟩
def cha(N:I)(L:Bs):I:=nW N (xR L [99,104,97,108,108,101,110,103,101] 64)
end
namespace RG
variable {P:ai}{ops:Array Z4}{Q:Exit->Act->Zl->Prop}{w:Zl}{a0:Act}{F:Flow}
def qX{o:Z4}(ho:ops[i]? = J o)(k:∀e∈o.after,ml .any e=H->on L e.on=H)(b:depOn ops i j=H):on L j=H:=by
 unfold depOn at b;rw[ho]at b;let⟨e,d,c⟩:=yt.1 b
 simp only[ZD,beq_iff_eq]at c;have:=k e d c.1;rw[c.2]at this;exact this
def rY(k:R Z4):I->I->I->Hc
 | 0,i,j=>depOn k i j
 | f+1,i,j=>depOn k i j || (fo i).any (λx=>depOn k i x && rY k f x j)
def mB(k:R Z4)(n:I):Hc:=(fo n).all (λj=>rY k 5 n j) && (fo k.size).all (λi=>decide (i<=n) || depOn k i (i-1))
def UW(h:mB ops n=H)(b:n<i)(k:i<ops.size):depOn ops i (i-1)=H:=by
 unfold mB at h;rw[ZD]at h;have h1:=Z7.1 h.2 i (p9.2 k);rw[xj,decide_eq_true_eq]at h1;rcases h1 with h1|h1
 .omega
 exact h1
def Eg{L:R Hc}{a:Act}(b:InvF F ops a0 L a w):∀(f i j:I),i<ops.size->on L i=H->rY ops f i j=H->on L j=H
 | 0,i,j,his,hi,h=>by
  have k:=ZS his;unfold rY depOn at h;rw[k]at h;exact G6 (ho:=k) b h hi
 | f+1,i,j,his,hi,h=>by
  have k:=ZS his;unfold rY at h;rw[xj]at h;have hd:∀x,depOn ops i x=H->on L x=H:=λx hx=>by
   unfold depOn at hx;rw[k]at hx;exact G6 (ho:=k) b hx hi
  rcases h with h|h
  .exact hd j h
  let⟨x,hx,c⟩:=yFK.1 h
  rw[ZD]at c;exact Eg b f x j (oN (p9.1 hx)) (hd x c.1) c.2
def JM(K:∀i,n<i->i<ops.size->depOn ops i (i-1)=H)(t:∀(i:I) (o:Z4),ops[i]? = J o->∀e∈o.after,ml .any e=H->e.on<i):∀(c:I) (L:R Hc) (a:Act) (w:Zl) (m:I),n<=m->m<=ops.size->L.size=ops.size->(∀j,on L j=H↔j<m)->unl L=c->wpList P ops Q (ops.toList.drop m) a w->wpAny P .any ops Q c L a w:=by
 intro c;induction c with
 | zero =>
  intro L a w m y u s k z h;have p:m=ops.size:=by
   rcases tE m ops.size with h1|h1
   .have:=sU z (i:=m) S;rw[k]at this;omega
   omega
  rw[p,<-ZE,yFI]at h;refine⟨?_,h⟩;apply G.eq_nil_iff_forall_not_mem.2;intro i q;obtain⟨h1,o,ho,-⟩:=mem_ready.1 q;have d:=(k i).2 (by rw[p];exact(ZO.1 ho).1);unfold on at d;rw[ZB]at h1 d;cases hh:L[i]? with
  | none=>rw[hh]at h1;cases h1
  | some b=>rw[hh]at h1 d;rw[show b=D from h1]at d;cases d
 | succ c ih =>
  intro L a w m y u s k z h;have r:∀i,i∈ZX .any ops L->i=m:=λi q=>by
   obtain⟨h1,o,ho,l⟩:=mem_ready.1 q;have f:on L i=D:=by
    unfold on;rw[ZB]at h1⊢;cases hh:L[i]? with
    | none=>rfl
    | some b=>rw[hh]at h1;exact h1
   have g:=(ZO.1 ho).1;rcases I.lt_trichotomy i m with d|d|d
   .rw[(k i).2 d]at f;cases f
   .exact d
   have:=(k (i-1)).1 (qX ho l (K i S g));omega
  refine⟨λC=>?_,λi q=>?_⟩
  .rcases tE m ops.size with h1|h1
   .exfalso;have ho:ops[m]? = J ops[m]:=ZS _;have f:on L m=D:=by
     cases v:on L m with
     | false=>rfl
     | true=>have:=(k m).1 v;omega
    have:m∈ZX .any ops L:=mem_ready.2 ⟨?_,_,ho,λe x v=>(k e.on).2 (t m _ ho e x v)⟩
    .rw[C]at this;cases this
    unfold on at f;rw[ZB,ZS (by rw[s];exact h1)]at f⊢;exact f
   have p:m=ops.size:=S;rw[p,<-ZE,yFI]at h;exact h
  obtain rfl:=r i q;obtain⟨h1,o,ho,l⟩:=mem_ready.1 q;have g:=(ZO.1 ho).1;have f:ops.toList.drop i=o :: ops.toList.drop (i+1):=by
   rw[G.drop_eq_getElem_cons (by rw[ZE];exact g)];have:ops.toList[i]? = J o:=by rw[qi];exact ho
   rw[ZH (by rw[ZE];exact g)]at this;rw[ZV.inj this]
  rw[f]at h;have v:wpOp P ops Q i (λx w'=>wpList P ops Q (ops.toList.drop (i+1)) x w') a w:=by
   rw[wpOp,ho];exact h
  refine xm (λx w' A=>ih _ x w' (i+1) S S (by rw[rh];exact s) (λj=>?_) (oN (sW h1)) A) v;rw[fV (by rw[s];omega)];constructor
  .intro p;rw[xj]at p;rcases p with p|p
   .have:=(k j).1 p;omega
   have:i=j:=by simpa using p
   omega
  intro p;by_cases d:j<i
  .rw[(k j).2 d,Hc.true_or]
  rw[show j=i by omega];simp
def XK:∀(k:I) (L:R Hc) (a:Act) (w:Zl),wpAny P .any ops Q k L a w->anyS P ops Q (λ_ _=>True) k L a w
 | 0,_,_,_,h=>h
 | k+1,_,_,_,h=>⟨h.1,λi d=>xm (λc w' b=>⟨trivial,XK k _ c w' b⟩) (h.2 i d)⟩
def qE(k:R Z4)(n:I)(late:G I):Hc:=(fo n).all (λj=>late.contains j || rY k 5 n j) && (fo k.size).all (λi=>decide (i<=n) || depOn k i (i-1))
def AX{late:G I}(h:qE ops n late=H)(b:n<i)(k:i<ops.size):depOn ops i (i-1)=H:=by
 unfold qE at h;rw[ZD]at h;have h1:=Z7.1 h.2 i (p9.2 k);rw[xj,decide_eq_true_eq]at h1;rcases h1 with h1|h1
 .omega
 exact h1
structure LateP(P:ai)(F:Flow)(ops:R Z4)(n:I)(late:G I)(j:I):Prop where
 lt:j<n
 o:∃o,ops[j]? = J o/\o.guard=none/\(∀i oi,ops[i]? = J oi->i≠j->(i∈late\/n<=i)->(∀e∈oi.after,ml .any e=H->e.on≠j)->o.apart ops oi=H)/\(∃p op,n<=p/\ops[p]? = J op/\∃e∈op.after,ml .any e=H/\e.on=j)/\(∀e∈o.after,ml .any e=H->e.on<n/\e.on ∉ late)/\∃j' t,bV o j'=H/\aP ops j'=J t/\F.kill j'=[]/\∀v w,F.R j' v w->∃u,F.R j u w/\F.E j w w/\∀(a:Act) (W:Zl),a.eval (.tmp t)=v->(Z0 a.eval o).run P W=.ok (.value u) W
def AC{id:I}(F:Flow)(late:G I)(Z:Array Hc->Act->Prop)(k7:∀j∈late,LateP P F ops n late j/\(∀c (a:Act) t v w,Q (.panic c) (a.put (J t) v) w->Q (.panic c) a w)/\Region.noSelect ops=H/\∀(o:Z4) (L:Array Hc) (a:Act) (w:Zl) (u:Zm),ops[j]? = J o->InvF F ops a0 L a w->Z L a->Z (L.setIfInBounds j H) (a.put o.dst u))(hn:n<ops.size)(hc:qE ops n late=H)(hm:P.follows .mixedOrders=H)(R:RegF P Q F ops a0 n)(hB:∀b,F.B b w.drew)(hZ:∀L,(∀i,on L i=D)->Z L a0)(k5:∀(k:I) (o:Z4) (L:Array Hc) (a:Act) (w:Zl),k<n->(∀i,on L i=H->i<n)->ops[k]? = J o->on L k=D->(∀e∈o.after,ml .any e=H->on L e.on=H)->InvF F ops a0 L a w->Z L a->wpOp P ops Q k (λa' w'=>InvF F ops a0 (L.setIfInBounds k H) a' w'/\Z (L.setIfInBounds k H) a') a w)(hp:∀(V:I->Zm) (w':Zl),(∀i,i<n->F.kill i=[]->F.R i (V i) w')->(∀b,F.killB b=[]->F.B b w')->(∃L a,Z L a/\∀i,i<n->on L i=H/\∀d,aP ops i=J d->a.tmps[d]? = J (V i))->wpList P ops Q (ops.toList.drop n) (cD V (ops.toList.take n) 0 a0) w'):(gH id ops H).wp P Q a0 w:=by
 have k4:∀(i:I) (o:Z4),ops[i]? = J o->∀e∈o.after,ml .any e=H->e.on<i:=λi o ho=>(R.of ho).1
 have key:∀(m:I) (L:Array Hc) (a:Act) (w:Zl),unl L=m->(∀j,n<=j->on L j=D)->InvF F ops a0 L a w->Z L a->wpAny P .any ops Q m L a w:=by
  intro m;induction m with
  | zero =>
   intro L a w hu f s hS;have:=sU hu (by rw[s.size];omega);rw[f n (Zo _)]at this;cases this
  | succ m ih =>
   intro L a w hu f s hS;by_cases q:∀j,j<n->j ∉ late->on L j=H
   .by_cases h7:∃j,j∈late/\on L j=D
    .obtain⟨j,r,z⟩:=h7;obtain⟨⟨k2,o,ho,hg,kb,⟨p,op,kf,ke,kd⟩,h8,j',t,ka,k8,k1,hq⟩,hQ,hs,k6⟩:=k7 j r;have T:∀x∈F.kill j',on L x=D:=λx hx=>by rw[k1]at hx;cases hx
     obtain⟨V,O,h5⟩:=s.all;have g:∀e∈o.after,ml .any e=H->on L e.on=H:=λe he hb=>q _ (h8 e he hb).1 (h8 e he hb).2
     obtain⟨e,he,A⟩:=yt.1 ka;simp only[ZD,beq_iff_eq]at A;have y:on L j'=H:=by rw[<-A.2];exact g e he A.1
     obtain⟨u,kc,k0,k9⟩:=hq (V j') w (h5 j' y T);have ha:=(ZO.1 ho).1;have h9:L.getD j H=D:=by
      unfold on at z;rw[ZB,ZS (by rw[s.size];exact ha)]at z⊢;exact z
     have ht:∀i,on L i=H->i<n:=λi M=>by
      rcases tE i n with h|h
      .exact h
      rw[f i h]at M;cases M
     have N:=s.nx R k2 ht ho z g k0 kc;have h6:=ih (L.setIfInBounds j H) (a.put o.dst u) w (oN (sW h9)) (λi M=>by
      rw[fV (by rw[s.size];exact ha),f i M];simp only[yE8,beq_eq_false_iff_ne];omega) N (k6 o L a w u ho s hS)
     refine anyS.any _ _ _ _ (anyS.first (S:=λ_ _=>True) (p:=p) ho ke kd oM (λ_ _ _=>trivial) (Region.noSelect_spec hs) (λc a w h=>by
      cases hd:o.dst with
      | none=>rw[hd]at h;exact h
      | some t=>rw[hd]at h;exact hQ c a t u w h) m L a w ?_ (λi oi K hz hy k3=>kb i oi K hz (by
      rcases tE i n with h|h
      .by_cases hw:i∈late
       .exact Z5 hw
       have X:=q i h hw;have C:=(ZO.1 K).1;unfold on at X;rw[ZB,ZS (by rw[s.size];exact C)]at X hy;exact zd (X.symm.trans hy)
      exact ZW h) k3) (mem_ready.2 ⟨h9,o,ho,?_⟩) (Z5 ⟨bI hg,λW _=>k9 a W (C7 (O j' t y k8))⟩) ⟨#[],by simp,Fs⟩ trivial (XK m _ _ _ h6))
     .have:=f p kf;unfold on at this;exact this
     intro e he hb;exact g e he hb
    have y:∀j,j<n->on L j=H:=λj r=>by
     by_cases A:j∈late
     .cases h:on L j with
      | true=>rfl
      | false=>exact absurd ⟨j,A,h⟩ h7
     exact q j r A
    have z:∀j,on L j=H↔j<n:=λj=>⟨λr=>(by
     rcases tE j n with h|h
     .exact h
     rw[f j h]at r;cases r),y j⟩
    obtain⟨V,O,h5⟩:=s.all;have T:∀l:G I,l=[]->∀x∈l,on L x=D:=λl hl x hx=>by rw[hl]at hx;cases hx
    have h0:=hp V w (λj r hk=>h5 j (y j r) (T _ hk)) (λb hb=>s.base b (T _ hb)) ⟨L,a,hS,λi M=>⟨y i M,λd hd=>O i d (y i M) hd⟩⟩;rw[<-(s.act R oM z O)]at h0;exact JM (λi h1 X=>AX hc h1 X) k4 _ L a w n (Zo _) oM s.size z hu h0
   refine⟨λT=>?_,λi M=>?_⟩
   .exact absurd (λj r _=>s.full R T j oM) q
   obtain⟨h1,o,ho,g⟩:=mem_ready.1 M;have C:=(ZO.1 ho).1;have K:on L i=D:=by
    unfold on;rw[ZB]at h1⊢;cases hh:L[i]? with
    | none=>rfl
    | some b=>rw[hh]at h1;exact h1
   have O:i<n:=by
    rcases tE i n with h|h
    .exact h
    exfalso;rcases tE n i with X|X
    .have:=qX ho g (AX hc X C);rw[f (i-1) oM]at this;cases this
    obtain rfl:i=n:=oM;refine q λj r A=>?_
    unfold qE at hc;rw[ZD]at hc;have y:=Z7.1 hc.1 j (p9.2 r);rw[xj]at y;replace y:=y.resolve_left (by simpa using A);unfold rY at y;rw[xj]at y;rcases y with y|y
    .exact qX ho g y
    obtain⟨x,hx,z⟩:=yFK.1 y;rw[ZD]at z;exact Eg s 4 x j (oN (p9.1 hx)) (qX ho g z.1) z.2
   refine xm (λa' w' N=>ih _ a' w' (oN (sW h1)) (λj r=>?_) N.1 N.2) (k5 i o L a w O (λj r=>?_) ho K g s hS)
   .rw[fV (by rw[s.size];exact C),f j r];simp only[yE8,beq_eq_false_iff_ne];omega
   rcases tE j n with h|h
   .exact h
   rw[f j h]at r;cases r
 have f:∀i,on (ZA ops.size D) i=D:=λi=>by
  rw[on,ZB,Array.getElem?_replicate];by_cases h:i<ops.size
  .rw[GD h];rfl
  rw[Id h];rfl
 refine wp_region_any hm (key _ _ a0 _ ?_ (λj _=>f j) ⟨ZL,(λi o _ h=>by rw[f]at h;cases h),rfl,rfl,λ_ _=>rfl,⟨λ_=>undef,λi d h=>(by rw[f]at h;cases h),λi h=>(by rw[f]at h;cases h)⟩,λb _=>hB b⟩ (hZ _ f));rw[unl,Array.toList_replicate,G.countP_replicate];simp
def GU{id:I}(F:Flow)(Z:Array Hc->Act->Prop)(l:n<ops.size)(q:mB ops n=H)(m:P.follows .mixedOrders=H)(R:RegF P Q F ops a0 n)(p:∀b,F.B b w.drew)(j:∀L,(∀i,on L i=D)->Z L a0)(c:∀(k:I) (o:Z4) (L:Array Hc) (a:Act) (w:Zl),k<n->(∀i,on L i=H->i<n)->ops[k]? = J o->on L k=D->(∀e∈o.after,ml .any e=H->on L e.on=H)->InvF F ops a0 L a w->Z L a->wpOp P ops Q k (λf w'=>InvF F ops a0 (L.setIfInBounds k H) f w'/\Z (L.setIfInBounds k H) f) a w)(g:∀(V:I->Zm) (w':Zl),(∀i,i<n->F.kill i=[]->F.R i (V i) w')->(∀b,F.killB b=[]->F.B b w')->(∃L a,Z L a/\∀i,i<n->on L i=H/\∀d,aP ops i=J d->a.tmps[d]? = J (V i))->wpList P ops Q (ops.toList.drop n) (cD V (ops.toList.take n) 0 a0) w'):(gH id ops H).wp P Q a0 w:=
 AC F [] Z (λ_ h=>by cases h) l (by simpa[mB,qE]using q) m R p j c g
def AB{id:I}(F:Flow)(j:n<ops.size)(q:mB ops n=H)(l:P.follows .mixedOrders=H)(R:RegF P Q F ops a0 n)(p:∀b,F.B b w.drew)(f:∀(V:I->Zm) (w':Zl),(∀i,i<n->F.kill i=[]->F.R i (V i) w')->(∀b,F.killB b=[]->F.B b w')->wpList P ops Q (ops.toList.drop n) (cD V (ops.toList.take n) 0 a0) w'):(gH id ops H).wp P Q a0 w:=
 GU F (λ_ _=>True) j q l R p (λ_ _=>trivial) (λk o L a w h1 c g d e m _=>xm (λ_ _ h=>⟨h,Fs⟩) (LQ R h1 c g d e m)) λV w' h1 c _=>f V w' h1 c
def Gw.tail2{id:I}(G:Gw)(n:I)(k:(decide (n<ops.size) && mB ops n)=H)(c:P.follows .mixedOrders=H)(f:Df ops a0.tmps.size=H)(h:kC P Q G.flow ops a0 0 (ops.toList.take n))(e:G.B w.drew)
 (b:∀(V:I->Zm) (w':Zl),(∀i,i<n->G.R i (V i) w')->G.B w'->wpList P ops Q (ops.toList.drop n) (cD V (ops.toList.take n) 0 a0) w'):(gH id ops H).wp P Q a0 w:=by
 rw[ZD,decide_eq_true_eq]at k;exact AB G.flow k.1 k.2 c (Gw.reg f h) (λ_=>e) λV w' h1 d=>b V w' (λi g=>h1 i g Z) (d 0 Z)
end RG
namespace SP
attribute [local go_sem] dD eE dW rN
def gR{a b:Y}(k:0<=a/\a<=1000)(c:0<=b/\b<=1000)(h:a%5+5*(b%5)=(n:Y)):
 cZ 240 #[iZ a,iZ b] w λe w'=>e=.returned (iZ n)/\w'=w:=by
 let⟨d,a2⟩:=k
 let⟨b1,f⟩:=c
 rw[<-h];clear h;go_enter func240,ntmps240;go_wp2;go_ret;exact⟨Z,Z⟩
theorem EF(x:BitVec 64)(b:k<64):
 ae prog 241 #[.int .u64 (u x),.int .i64 k] w λe w'=>e=.returned (.int .u64 (u (rol x k)))/\∃n,w'=w.drewN n:=by
 have h1:(0:Y)<=64-(k:Y):=S;have c:(64:Y)-(k:Y)<=64:=S;have g:(k:Y)<=64:=S;have d:ZN.wrap (64-(k:Y))=64-(k:Y):=po _ S;have f:((64:Y)-(k:Y)).toNat=64-k:=S;have s1:=BG x k;have s2:=Ik x (64-k);go_enter func241,ntmps241;go_wp2;go_quiet (fail);go_wp2;go_ret;refine⟨ret_int ?_,_,Z⟩;rfl
def Q9(t:I)(w:Zl)(m:t<=1000):
 cZ 242 #[iZ t] w λe w'=>e=.returned (U (u (Rc t)))/\w'=w:=by
 go_enter func242,ntmps242;go_wp2
 go_loop [3,4] (λs3 s4=>∃(i q:I),i<=t/\s4=iZ i/\s3=iZ q/\q<256/\E (Ea i=q)) (λ_ s4=>t-(intOf s4).toNat)
 exact⟨0,1,S,Z,Z,dC,Z⟩;obtain⟨i,q,n,rfl,rfl,d,g⟩:=hrel;by_cases j:i<t
 .have a2:=MD d;rw[Y.mul_comm]at a2;have b:=zM d;have f:E (Ea (i+1)=nS q):=by show nS (Ea i)=_;rw[g.out]
  by_cases k:255<2*q
  .have c:E (nS q=2*q ^^^ 369):=GD k;rw[c.out]at b;generalize 2*q ^^^ 369=l at *;go_wp2
   go_round
   case rel=>exact⟨i+1,l,S,by go_num,Z,b,by rw[f.out,c.out];rfl⟩
   case measure=>simp[intOf];omega
  have c:E (nS q=2*q):=Id k;go_wp2
  go_round
  case rel=>exact⟨i+1,2*q,S,by go_num,by go_num,S,by rw[f.out,c.out];rfl⟩
  case measure=>simp[intOf];omega
 have b:=ME d;have k:i=t:=S;subst k;go_wp2;go_ret;rw[Rc,g.out];exact⟨Z,Z⟩
end SP
namespace SP
attribute [local go_sem] dD eE dW rN
def Gq(k:j<7):min (cW.wrap (cW.wrap ((2:Y)^j)-1)).toNat 64=2^j-1:=by
 have H:∀j:B 7,min (cW.wrap (cW.wrap ((2:Y)^j.val)-1)).toNat 64=2^j.val-1:=dK;exact H ⟨j,k⟩
def Dc(r:I)(w:Zl)(i:r<24):
 cZ 233 #[iZ r] w λe w'=>e=.returned (U (u (G8 r)))/\w'=w:=by
 go_enter func233,ntmps233;go_wp2
 go_loop [3,4] (λs3 s4=>∃(j:I) (c:BitVec 64),j<=7/\s4=iZ j/\s3=U (u c)/\E (ER r j=c)) (λ_ s4=>7-(intOf s4).toNat)
 exact⟨0,0,S,Z,Z,Z⟩;obtain⟨j,c,g,rfl,rfl,f⟩:=hrel;by_cases k:j<7
 .have b:(j:Y)<=6:=S;go_wp2_with fail
  rw[show(j:Y)+7*(r:Y)=((j+7*r:I):Y) from by omega];apply(Q9 (j+7*r) _ S).mono;rintro e w' ⟨rfl,rfl⟩;go_wp2
  go_round
  case rel =>
   refine⟨j+1,ER r (j+1),S,by go_num,?_,Z⟩;rw[Gq k,BG,dW];show _=U (u (ER r j ||| Rc (j+7*r) <<< (2^j-1)));rw[f.out]
  case measure=>simp[intOf];omega
 have b:¬(j:Y)<=6:=S;have d:j=7:=S;subst d;go_wp2;go_ret;rw[G8,f.out];exact⟨Z,Z⟩
def Px:prog.underlying 288=J (.slice 3):=kR
def info3:(prog.info? 3).map (λi=>(i.zero,i.size,i.bytes))=J (J (iZ 0),1,8):=kR
def U7{off:I}{d:R I}(h:FE encI w b off d)(k:i<d.size){x:I}(hx:d[i]! = x):
 w.cell? ⟨b,off+i,F⟩=J (iZ x)/\w.frozen? ⟨b,off+i,F⟩=D:=by
 rw[<-hx];exact h i k
def offs_int'(h:t<24):(wrap64 ((wrap64 (((t:Y)+1)*((t:Y)+2))).tdiv 2)).tmod 64=(Aa t:Y):=by
 have H:∀j:B 24,(wrap64 ((wrap64 (((j.val:Y)+1)*((j.val:Y)+2))).tdiv 2)).tmod 64=(Aa j.val:Y):=dK;exact H ⟨t,h⟩
def Eu(w:Zl):
 ae prog 231 #[] w λe w'=>e=.returned (.slice (J ⟨w.heap.size,0,F⟩) 25 25)/\Below w.heap.size w w'/\FE encI w' w.heap.size 0 cU:=by
 have u:∀w:Zl,(ue 288 (.int .i64 25) (.int .i64 25)).run prog w=.ok (.slice (J ⟨w.heap.size,0,F⟩) 25 25) (w.alloc (.cells (madeCells #[.int .i64 0] 25) 3)):=
  yD2 (P:=prog) 288 3 (.int .i64 0) 8 Px info3 Z .i64 .i64 25 S S
 go_enter func231,ntmps231;go_wp2;generalize k:(w.alloc _)=r;go_loopg [2,3,4] 24 (λg sx q st wr=>∃t T,t+g=24/\st=.int .i64 (t:I)/\sx=.int .i64 (T.x:I)/\q=.int .i64 (T.y:I)/\FE encI wr w.heap.size 0 T.o/\Only w.heap.size 0 25 r wr/\E (T=lV t))
 case atStart =>
  refine⟨0,lV 0,Z,Z,Z,Z,?_,Only.refl _ _ _ _,Z⟩;rw[<-k];exact Holds.made (enc:=encI) w 3 25 0
 case round =>
  obtain⟨t,⟨x,y,o⟩,z,rfl,rfl,rfl,j,m,n⟩:=hrel;have b:=Qt t;rw[<-n.out]at b;obtain⟨hx,s,hs⟩:=b;dsimp only at hx s hs j;by_cases l:t<24
  .obtain⟨i,v⟩:=vH (x%5+5*(y%5));obtain⟨c,f⟩:=j i S;rw[Zs]at c f;have d:=mk1 (v);go_wp2_with fail
   apply(gR (a:=(x:Y)) (b:=(y:Y)) (n:=i) S S (oN d)).mono;rintro e w' ⟨rfl,rfl⟩;have p:=offs_int' (t:=t) l;go_wp2;go_roundg (gk-1)
   case measure=>omega
   case rel =>
    refine⟨t+1,⟨y,(2*x+3*y)%5,o.setIfInBounds i (Aa t)⟩,S,by go_num,Z,by go_num,?_,?_,?_⟩
    .have:=Holds.set j (i:=i) S (Aa t);rw[Zs]at this;exact this
    .exact m.setCell (o:=i) S S _
    .show _=(Of.mk (lV t).y ((2*(lV t).x+3*(lV t).y)%5) ((lV t).o.setIfInBounds ((lV t).x%5+5*((lV t).y%5)) (Aa t)));rw[<-n.out];dsimp only;rw[d.out]
  .have d:t=24:=S;subst d;go_wp2;go_ret;refine⟨Z,?_,?_⟩
   .rw[<-k]at m;exact m.fresh
   .rw[cU,<-n.out];exact j
end SP
namespace SP
attribute [local go_sem] dD eE dW sN rN
def Cz:prog.underlying 287=J (.slice 37):=kR
def GN:(prog.info? 37).map (λi=>(i.zero,i.size,i.bytes))=J (J (U 0),1,8):=kR
theorem JQ(ab tb:I)(a:St)(m:R I)(c:BitVec 64)(w:Zl)(ha:a.size=25)(ht:m.size=25)(hA:FE enc w ab 0 a)(hT:FE encI w tb 0 m)(kd:∀i,i<25->m[i]! < 64):
 ae prog 232 #[.slice (J ⟨ab,0,F⟩) 25 25,.slice (J ⟨tb,0,F⟩) 25 25,.int .u64 (u c)] w λe w'=>∃r,e=.returned (.slice (J ⟨r,0,F⟩) 25 25)/\w.heap.size<=r/\Below w.heap.size w w'/\FE enc w' r 0 (fE a m c):=by
 have k4:=Holds.lt hA S;have hm:=Holds.lt hT S;have k0:∀w:Zl,(ue 287 (.int .i64 5) (.int .i64 5)).run prog w=.ok (.slice (J ⟨w.heap.size,0,F⟩) 5 5) (w.alloc (.cells (madeCells #[.int .u64 0] 5) 37)):=
  yD2 (P:=prog) 287 37 (.int .u64 0) 8 Cz GN Z .i64 .i64 5 S S
 have K:∀w:Zl,(ue 287 (.int .i64 25) (.int .i64 25)).run prog w=.ok (.slice (J ⟨w.heap.size,0,F⟩) 25 25) (w.alloc (.cells (madeCells #[.int .u64 0] 25) 37)):=
  yD2 (P:=prog) 287 37 (.int .u64 0) 8 Cz GN Z .i64 .i64 25 S S
 have Q:E _:=K;clear K;go_enter func232,ntmps232;go_wp2;clear k0;have he:FE enc (w.alloc (.cells (madeCells #[.int .u64 0] 5) 37)) w.heap.size 0 (qD a 0):=Holds.made (enc:=enc) w 37 5 0;have L:Below w.heap.size w (w.alloc (.cells (madeCells #[.int .u64 0] 5) 37)):=(ZF _ _).alloc (Zo _) _;generalize hq:(w.alloc _)=W1 at he L⊢;have hw:w.heap.size<W1.heap.size:=by rw[<-hq];simp
 have hp:=Holds.below hA L k4;have kj:=Holds.below hT L hm;clear hq;go_loopg [8] 5 (λg s8 wr=>∃(x:I) (ck:St),x+g=5/\s8=.int .i64 x/\FE enc wr w.heap.size 0 ck/\Only w.heap.size 0 5 W1 wr/\E (ck=qD a x))
 case atStart=>exact⟨0,_,Z,Z,he,Only.refl _ _ _ _,Z⟩
 case round =>
  obtain⟨x,ck,hx,rfl,hC,n,HE⟩:=hrel;have kb:ck.size=5:=by rw[HE.out,Ha]
  by_cases M:x<5
  .have l5:(x:Y)<5:=S;go_wp2;go_loopg [9] 5 (λg s9 T=>∃(y:I) (d:St),y+g=5/\s9=.int .i64 y/\FE enc T w.heap.size 0 d/\Only w.heap.size 0 5 W1 T/\E (d=AP a x ck y))
   case atStart=>exact⟨0,ck,Z,Z,hC,n,Z⟩
   case round =>
    obtain⟨y,d,hy,rfl,f,k,b⟩:=hrel;have l:d.size=5:=by rw[b.out,AO,kb]
    by_cases V:y<5
    .have h8:=Holds.other hp k S S;obtain⟨z,t⟩:∃z,a[x+5*y]! = z:=⟨_,Z⟩
     obtain⟨v,hv⟩:∃z,d[x]! = z:=⟨_,Z⟩
     obtain⟨q,O⟩:=aX h8 (i:=(x+5*y)) S t;obtain⟨c1,f1⟩:=aX f (i:=x) S hv;rw[Zs]at q c1 f1;have HZ:E (a[x+5*y]! = z):=t;have HV:E (d[x]! = v):=hv;obtain⟨i,W⟩:=vH (x+5*y);rw[W]at q;have Hi:E (x+5*y=i):=W;have kh:i<25:=S;have k3:(i:Y)<25:=S;have y5:(y:Y)<5:=S;clear t hv W O;go_wp2_with fail
     refine wp_region_still_tail 14 mixed kR ?_;simp only[DQ,xu,yCJ,yDr];repeat still_step
     still_call (gR (a:=(x:Y)) (b:=(y:Y)) (n:=i) S S (oN Hi.out))
     repeat still_step
     refine wpStill_nil ?_;go_wp2;go_roundg (gk-1)
     case measure=>omega
     case rel =>
      refine⟨y+1,bL d x z,S,by go_num,?_,?_,?_⟩
      .have:=Holds.xor f (i:=x) S HV.out z;rw[Zs]at this;exact Holds.drew this
      .exact(k.setCell (o:=x) S S _).drew
      .show _=bL (AP a x ck y) x a[x+5*y]!;rw[HZ.out,b.out]
    .have s:y=5:=S;subst s;go_wp2;go_roundg (4-x)
     case measure=>omega
     case rel =>
      refine⟨x+1,d,S,by go_num,f,k,?_⟩;show _=AP a x (qD a x) 5;rw[b.out,HE.out]
  .have A:x=5:=S;subst A;have hn:Below w.heap.size w wr:=L.trans (n.below S (Zo _));have ka:w.heap.size<wr.heap.size:=Zn hw n.size;clear M hx he L hw hp kj n;have h5:=Q.out;go_wp2;clear h5;have h3:FE enc (wr.alloc (.cells (madeCells #[.int .u64 0] 25) 37)) wr.heap.size 0 (pK a m ck 0):=Holds.made (enc:=enc) wr 37 25 0;have f:Below wr.heap.size wr (wr.alloc (.cells (madeCells #[.int .u64 0] 25) 37)):=(ZF _ _).alloc (Zo _) _;generalize k1:(wr.alloc _)=W3 at h3 f⊢;have hg:wr.heap.size<W3.heap.size:=by rw[<-k1];simp
   have k6:=Holds.below hC f ka;have N:=hn.trans (f.mono S);have hu:=Holds.below hA N k4;have hk:=Holds.below hT N hm;clear k1 f hn hC;generalize kx:wr.heap.size=MB at *;go_loopg [11] 5 (λg s11 wr=>∃(x:I) (mk:St),x+g=5/\s11=.int .i64 x/\FE enc wr MB 0 mk/\Only MB 0 25 W3 wr/\E (mk=pK a m ck x))
   case atStart=>exact⟨0,_,Z,Z,h3,Only.refl _ _ _ _,Z⟩
   case round =>
    obtain⟨x,mk,hx,rfl,hM,n,hc⟩:=hrel;have kg:mk.size=25:=by rw[hc.out,GF]
    by_cases M:x<5
    .have k2:=Holds.other k6 n S S;obtain⟨y0,X⟩:∃z,ck[(x+4)%5]! = z:=⟨_,Z⟩
     obtain⟨y1,C⟩:∃z,ck[(x+1)%5]! = z:=⟨_,Z⟩
     obtain⟨q,O⟩:=aX k2 (i:=((x+4)%5)) S X;obtain⟨c1,f1⟩:=aX k2 (i:=((x+1)%5)) S C;rw[Zs]at q c1;have HD:E (bT ck x=y0 ^^^ rol y1 1):=by rw[<-X,<-C];rfl
     clear X C O f1;have l5:(x:Y)<5:=S;have q1:0<=((x:Y)+4)%5:=S;have q2:((x:Y)+4)%5<5:=S;have q3:(((x:Y)+4)%5).toNat=(x+4)%5:=S;have q4:0<=((x:Y)+1)%5:=S;have q5:((x:Y)+1)%5<5:=S;have q6:(((x:Y)+1)%5).toNat=(x+1)%5:=S;go_wp2_with fail
     go_quiet ((go_at_call 241;exact Calls.quiet_of (EF _ (k:=1) dC)));clear q c1 q1 q2 q3 q4 q5 q6;go_wp2;have k9:=Holds.drewN hM nq;have ke:=n.drewN nq;generalize y0 ^^^ rol y1 1=dv at *;go_loopg [13] 5 (λg s13 T=>∃(y:I) (my:St),y+g=5/\s13=.int .i64 y/\FE enc T MB 0 my/\Only MB 0 25 W3 T/\E (my=Ak a m x dv mk y))
     case atStart=>exact⟨0,mk,Z,Z,k9,ke,Z⟩
     case round =>
      obtain⟨y,my,hy,rfl,d,k,b⟩:=hrel;have km:my.size=25:=by rw[b.out,Ai,kg]
      by_cases V:y<5
      .have h8:=Holds.other hu k S S;have k8:=Holds.other hk k S S;obtain⟨z,t⟩:∃z,a[x+5*y]! = z:=⟨_,Z⟩
       obtain⟨tv,l⟩:∃z,m[x+5*y]! = z:=⟨_,Z⟩
       obtain⟨q,O⟩:=aX h8 (i:=(x+5*y)) S t;obtain⟨c1,f1⟩:=U7 k8 (i:=(x+5*y)) S l;have kl:tv<64:=by rw[<-l];exact kd _ S
       obtain⟨i,W⟩:=vH (x+5*y);obtain⟨j,hj⟩:=vH (y%5+5*((2*x+3*y)%5));obtain⟨c2,f2⟩:=d j S;rw[Zs]at q c1 c2 f2;rw[W]at q c1;have Hi:E (x+5*y=i):=W;have Hj:E (y%5+5*((2*x+3*y)%5)=j):=hj;have HZ:E (a[x+5*y]! = z):=t;have HT:E (m[x+5*y]! = tv):=l;have kh:i<25:=S;have kt:j<25:=S;have k3:(i:Y)<25:=S;have ko:(j:Y)<25:=S;have y5:(y:Y)<5:=S;have s1:ZN.wrap (2*(x:Y))=2*(x:Y):=po _ S;have s2:ZN.wrap (3*(y:Y))=3*(y:Y):=po _ S;have s3:ZN.wrap (2*(x:Y)+3*(y:Y))=2*(x:Y)+3*(y:Y):=po _ S;clear t l W hj O f1;go_wp2_with fail
       have P1:∀w,E (ae prog 240 #[.int .i64 y,.int .i64 (2*(x:Y)+3*(y:Y))] w λe w'=>e=.returned (.int .i64 j)/\w'=w):=λw=>gR (n:=j) (w:=w) S S (oN Hj.out)
       have P2:∀w,E (ae prog 240 #[.int .i64 x,.int .i64 y] w λe w'=>e=.returned (.int .i64 i)/\w'=w):=λw=>gR (n:=i) (w:=w) S S (oN Hi.out)
       go_region_with (first|(go_at_call_of 240 (gM ZN (x:Y));refine yFl (P2 _).out ?_;rintro e w2 ⟨rfl,rfl⟩)|(go_at_call 240;refine yFl (P1 _).out ?_;rintro e w2 ⟨rfl,rfl⟩)|(go_at_call 241;refine(EF (z ^^^ dv) (k:=tv) kl).mono ?_;rintro e w2 ⟨rfl,n2,rfl⟩))
       all_goals
        go_wp2;go_roundg (gk-1)
        case measure=>omega
        case rel =>
         refine⟨y+1,my.setIfInBounds j (rol (z ^^^ dv) tv),S,by go_num,?_,?_,?_⟩
         .have:=Holds.set (Holds.drewN d (1+n2)) (i:=j) S (rol (z ^^^ dv) tv);rw[Zs]at this;exact this
         .exact(k.drewN (1+n2)).setCell (o:=j) S S _
         .show _=(Ak a m x dv mk y).setIfInBounds (y%5+5*((2*x+3*y)%5)) (rol (a[x+5*y]! ^^^ dv) m[x+5*y]!);rw[HZ.out,HT.out,Hj.out,b.out]
      .have s:y=5:=S;subst s;go_wp2;go_roundg (4-x)
       case measure=>omega
       case rel =>
        refine⟨x+1,my,S,by go_num,d,k,?_⟩;show _=Ak a m x (bT ck x) (pK a m ck x) 5;rw[b.out,hc.out,HD.out]
    .have A:x=5:=S;subst A;have k7:Below w.heap.size w wr:=N.trans (n.below S S);have kf:MB<wr.heap.size:=Zn hg n.size;clear M hx N hg hu hk k6 h3 n;have h5:=Q.out;go_wp2;clear h5;have k5:FE enc (wr.alloc (.cells (madeCells #[.int .u64 0] 25) 37)) wr.heap.size 0 (rL mk 0):=Holds.made (enc:=enc) wr 37 25 0;have l:Below wr.heap.size wr (wr.alloc (.cells (madeCells #[.int .u64 0] 25) 37)):=(ZF _ _).alloc (Zo _) _;generalize hr:(wr.alloc _)=W5 at k5 l⊢;have kp:wr.heap.size<W5.heap.size:=by rw[<-hr];simp
     have kc:=Holds.below hM l kf;have kk:=k7.trans (l.mono S);clear hr l k7 hM;generalize kv:wr.heap.size=W at *;go_loopg [15] 5 (λg s15 wr=>∃(x:I) (ok:St),x+g=5/\s15=.int .i64 x/\FE enc wr W 0 ok/\Only W 0 25 W5 wr/\E (ok=rL mk x))
     case atStart=>exact⟨0,_,Z,Z,k5,Only.refl _ _ _ _,Z⟩
     case round =>
      obtain⟨x,ok,hx,rfl,hU,n,h9⟩:=hrel;have ki:ok.size=25:=by rw[h9.out,zV]
      by_cases M:x<5
      .have l5:(x:Y)<5:=S;go_wp2;go_loopg [16] 5 (λg s16 T=>∃(y:I) (oy:St),y+g=5/\s16=.int .i64 y/\FE enc T W 0 oy/\Only W 0 25 W5 T/\E (oy=zX mk x ok y))
       case atStart=>exact⟨0,ok,Z,Z,hU,n,Z⟩
       case round =>
        obtain⟨y,oy,hy,rfl,h4,k,b⟩:=hrel;have kn:oy.size=25:=by rw[b.out,zW,ki]
        by_cases V:y<5
        .have d:=Holds.other kc k S S;obtain⟨C,h7⟩:=vH (x+5*y);obtain⟨i1,h0⟩:=vH ((x+1)%5+5*y);obtain⟨i2,X⟩:=vH ((x+2)%5+5*y);obtain⟨z0,h2⟩:∃z,mk[C]! = z:=⟨_,Z⟩
         obtain⟨z1,hb⟩:∃z,mk[i1]! = z:=⟨_,Z⟩
         obtain⟨z2,h6⟩:∃z,mk[i2]! = z:=⟨_,Z⟩
         obtain⟨q,O⟩:=aX d (i:=C) S h2;obtain⟨c1,f1⟩:=aX d (i:=i1) S hb;obtain⟨c2,f2⟩:=aX d (i:=i2) S h6;obtain⟨c3,f3⟩:=h4 C S;rw[Zs]at q c1 c2 c3 f3;have H0:E (x+5*y=C):=h7;have H1:E ((x+1)%5+5*y=i1):=h0;have H2:E ((x+2)%5+5*y=i2):=X;have HV:E (mk[x+5*y]! ^^^ (~~~mk[(x+1)%5+5*y]! &&& mk[(x+2)%5+5*y]!)=z0 ^^^ (~~~z1 &&& z2)):=by
          show _=_;rw[h7,h0,X,h2,hb,h6]
         have b0:C<25:=S;have kw:(C:Y)<25:=S;have ku:(i1:Y)<25:=S;have kr:(i2:Y)<25:=S;have y5:(y:Y)<5:=S;have s1:ZN.wrap ((x:Y)+1)=(x:Y)+1:=po _ S;have s2:ZN.wrap ((x:Y)+2)=(x:Y)+2:=po _ S;clear h2 hb h6 h7 h0 X O f1 f2;go_wp2_with fail
         refine wp_region_still_tail 28 mixed kR ?_;simp only[DQ,xu,yCJ,yDr];repeat still_step
         still_call (gR (a:=(x:Y)) (b:=(y:Y)) (n:=C) S S (oN H0.out))
         repeat still_step
         still_call (gR (a:=(x:Y)) (b:=(y:Y)) (n:=C) S S (oN H0.out))
         repeat still_step
         still_call (gR (a:=((x:Y)+1)) (b:=(y:Y)) (n:=i1) S S (oN H1.out))
         repeat still_step
         still_call (gR (a:=((x:Y)+2)) (b:=(y:Y)) (n:=i2) S S (oN H2.out))
         repeat still_step
         refine wpStill_nil ?_;go_wp2;go_roundg (gk-1)
         case measure=>omega
         case rel =>
          refine⟨y+1,oy.setIfInBounds C (z0 ^^^ (~~~z1 &&& z2)),S,by go_num,?_,?_,?_⟩
          .have:=Holds.set h4 (i:=C) S (z0 ^^^ (~~~z1 &&& z2));rw[Zs]at this;exact Holds.drew this
          .exact(k.setCell (o:=C) S S _).drew
          .show _=(zX mk x ok y).setIfInBounds (x+5*y) (mk[x+5*y]! ^^^ (~~~mk[(x+1)%5+5*y]! &&& mk[(x+2)%5+5*y]!));rw[HV.out,H0.out,b.out]
        .have s:y=5:=S;subst s;go_wp2;go_roundg (4-x)
         case measure=>omega
         case rel =>
          refine⟨x+1,oy,S,by go_num,h4,k,?_⟩;show _=zX mk x (rL mk x) 5;rw[b.out,h9.out]
      .have A:x=5:=S;subst A;obtain⟨z,t⟩:∃z,ok[0]! = z:=⟨_,Z⟩
       obtain⟨q,O⟩:=aX hU (i:=0) S t;rw[Zs]at q O;have HZ:E (ok[0]! = z):=t;clear t;go_wp2;go_ret;refine⟨W,Z,S,?_,?_⟩
       .exact(kk.trans (n.below S S)).setCell (p:=⟨W,0,F⟩) (by show _<=W;omega) _
       .have e:fE a m c=bL ok 0 c:=by unfold fE;rw[h9.out,hc.out,HE.out]
        rw[e];exact Holds.xor (i:=0) hU S HZ.out c
end SP
end Go.Proofs.YtndpeoebngkhmaaGreat
