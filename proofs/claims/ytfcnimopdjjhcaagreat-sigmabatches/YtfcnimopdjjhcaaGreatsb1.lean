import Derived.WalkKit
import Derived.Test.YtfcnimopdjjhcaaGreatRows
import Derived.Lib.Mul64
import Derived.Laws.Bits64b
import Derived.Laws.Externs
import Derived.Sort.Row
import Derived.Below
import Derived.Deep.LoopGhost
import Derived.Deep.QuietTactic
import Derived.StillTailTactics
import Derived.BigRegion
import Derived.BigQuiet
import Derived.WalkSpells
import Derived.WalkLawsBesides
import Derived.Deep.MidRow
import Derived.OrdersHeld
import Derived.Deep.CutRange
import Derived.Deep.Draws
import Derived.Deep.RegionHeld3
set_option linter.unusedVariables false
set_option linter.constructorNameAsVariable false
set_option linter.unusedSimpArgs false
set_option maxRecDepth 1000000
set_option maxHeartbeats 4000000
namespace Go.Proofs.YtfcnimopdjjhcaaGreat
open _root_.Array renaming any_eq_true'->Tk,getD_eq_getD_getElem?->PZ,getElem?_eq_getElem->Qo,getElem?_eq_some_iff->Qg,getElem?_replicate->Tf,getElem?_setIfInBounds->Ru,getElem?_toList->QE,replicate->PX,size_setIfInBounds->Qq
open _root_.Bool renaming and_eq_true->P3,or_false->Rr,true_or->Ta
open _root_.Classical renaming byContradiction->Rc
open _root_.Fin renaming ext->Ud,val->Wp,val_mul->S9
open _root_.Go.Code renaming region->Sq
open _root_.Go.Instr renaming alloc->VY
open _root_.Go.IntKind renaming u64->Qs,wrap_u64->Tp
open _root_.Go.Lib renaming half_mul_le->Vo
open _root_.Go.Oper renaming wp->Sf
open _root_.Go.Region renaming binds->RB,ready->R9,wanted->TV
open _root_.Go.Sem renaming run_bind->Qi
open _root_.Go.Value renaming agg->QD,int->QT,pointer->Xm
open _root_.Go.World renaming alloc->QN,block_lt_of_cell?->Rx,cell?_alloc_new->Qj,cell?_of_block->Qt,cell?_setCell_other->PO,cell?_setCell_same->Qu,frozen?_alloc_new->Ri,frozen?_setCell->Qk,setCells->Vn,size_alloc->Qa
open _root_.Int renaming add_zero->Vk,eq_ofNat_of_zero_le->VO,natCast_zero->Qz
open _root_.List renaming all_eq_true->Qp,countP_cons->WN,getD_eq_getElem?_getD->Rl,getElem?_cons_succ->To,getElem?_cons_zero->Uo,getElem?_eq_getElem->P6,getElem?_eq_none->RY,getElem?_eq_some_iff->Qe,getElem?_map->QX,getElem?_of_mem->RZ,getElem?_take->RA,length_map->Qb,mem_cons->QU,mem_cons_of_mem->Qv,mem_cons_self->Qy,mem_of_getElem?->QY,mem_range->Rh,mem_zipIdx_iff_getElem?->Vi,not_mem_nil->P4,range->QJ,size_toArray->QB
open _root_.Nat renaming Coprime->Vh,add_mod->T9,add_mod_right->WH,add_mul->SK,add_mul_mod_self_left->TX,add_zero->RD,div_add_mod->UF,div_div_eq_div_mul->SO,dvd_of_mod_eq_zero->SN,dvd_trans->UP,eq_zero_of_dvd_of_lt->Uc,gcd->WG,gcd_dvd_left->Vd,gcd_dvd_right->U2,le_of_dvd->Td,le_of_lt->SD,le_refl->PQ,le_succ->UO,le_total->XA,le_trans->Qn,lt_of_lt_of_le->PS,mod_add_mod->Xg,mod_eq_of_lt->Qf,mod_eq_sub_mod->Wq,mod_eq_zero_of_dvd->Ts,mod_lt->RN,mod_mod->V7,mod_mod_of_dvd->US,mod_mul_mod->Xf,mul_add->Sw,mul_assoc->RH,mul_comm->Qr,mul_le_mul->RJ,mul_left_comm->T8,mul_mod->RP,mul_one->Se,mul_zero->Ul,ne_of_lt->Rf,one_mul->TD,pow_add->RI,pow_dvd_pow->Xd,pow_mod->V6,pow_mul->T0,pow_one->TZ,pow_pos->U0,pow_succ->Rk,pow_zero->SX,strongRecOn->Xc,zero_add->PU,zero_le->SJ,zero_mul->Xy,zero_pow->Xx
open _root_.Nat.Coprime renaming mul_dvd_of_dvd_of_dvd->Rs
open _root_.Option renaming isSome_iff_exists->Qx,map_eq_some_iff->PV,some->Qh
open _root_.Or renaming inl->Ql,inr->Qc
open Go.Proofs.Tryz (prog)
section
open Go.RowKit
variable {P:Nat}[NeZero P]{N:Nat}
def val(a b c d:Nat):Nat:=a+18446744073709551616*b+340282366920938463463374607431768211456*c+6277101735386680763835789423207666416102355444464034512896*d
def Four(v:Value)(n:Nat):Prop:=∃a b c d:Nat,v=.agg #[.int .u64 a,.int .u64 b,.int .u64 c,.int .u64 d] /\
 a<18446744073709551616/\b<18446744073709551616/\c<18446744073709551616/\d<18446744073709551616/\n=val a b c d
def top:Nat:=115792089237316195423570985008687907853269984665640564039457584007913129639936
theorem eY{a b c d:Nat}(ha:a<18446744073709551616)(hb:b<18446744073709551616)(hc:c<18446744073709551616)(hd:d<18446744073709551616):val a b c d<top:=by
 unfold val top;omega
theorem Four.lt{v:Value}{n:Nat}(h:Four v n):n<top:=by
 obtain⟨a,b,c,d,-,ha,hb,hc,hd,rfl⟩:=h;exact eY ha hb hc hd
theorem val_inj{a b c d p q r s:Nat}(ha:a<18446744073709551616)(hb:b<18446744073709551616)(hc:c<18446744073709551616)
 (hp:p<18446744073709551616) (hq:q<18446744073709551616) (hr:r<18446744073709551616) (h:val a b c d=val p q r s):a=p/\b=q/\c=r/\d=s:=by
 unfold val at h;omega
theorem Four.inj{v v':Value}{n:Nat}(h:Four v n)(h':Four v' n):v=v':=by
 obtain⟨a,b,c,d,rfl,ha,hb,hc,hd,e⟩:=h;obtain⟨p,q,r,s,rfl,hp,hq,hr,hs,e'⟩:=h';obtain⟨rfl,rfl,rfl,rfl⟩:=val_inj ha hb hc hp hq hr (e.symm.trans e');rfl
theorem Four.num{v:Value}{n m:Nat}(h:Four v n)(h':Four v m):n=m:=by
 obtain⟨a,b,c,d,rfl,ha,hb,hc,hd,rfl⟩:=h;obtain⟨p,q,r,s,e,hp,hq,hr,hs,rfl⟩:=h';simp only[QD.injEq,Array.mk.injEq,List.cons.injEq,QT.injEq,true_and,and_true,Int.ofNat_inj]at e;obtain⟨rfl,rfl,rfl,rfl⟩:=e;rfl
theorem Four.mk{a b c d n:Nat}(ha:a<18446744073709551616)(hb:b<18446744073709551616)(hc:c<18446744073709551616)(hd:d<18446744073709551616)(hn:n=val a b c d):
 Four (.agg #[.int .u64 a,.int .u64 b,.int .u64 c,.int .u64 d]) n:=⟨a,b,c,d,rfl,ha,hb,hc,hd,hn⟩
theorem ret_int{k:IntKind}{a b:Int}(h:a=b):Ending.returned (.int k a)=.returned (.int k b):=by rw[h]
end
section
open Go.RowKit Go.Sort
variable {P:Nat}[NeZero P]{N:Nat}
theorem mixed:prog.follows .mixedOrders=true:=by kernel_rfl
theorem kX(x y c:Nat)(hx:x<18446744073709551616)(hy:y<18446744073709551616)(hc:c<=1):
 ∃s k:Nat,(∀w,(callFunc 110 #[.int .u64 x,.int .u64 y,.int .u64 c]).run prog w=.ok (.value (.tuple #[.int .u64 s,.int .u64 k])) w) /\
  s<18446744073709551616/\k<=1/\s+18446744073709551616*k=x+y+c:=by
 refine⟨(x+y+c)%18446744073709551616,(x+y+c)/18446744073709551616,fun w=>?_,by omega,by omega,by omega⟩;rw[run_callFunc_extern Tryz.func110 (by kernel_rfl) (by kernel_rfl) (by kernel_rfl) (e:=add64Entry) (by kernel_rfl),run_add64 x y c (by omega) (by omega) (by omega) (by omega)];simp only[Result.andThen]
 congr 5<;>omega
theorem iL(x y c:Nat)(hx:x<18446744073709551616)(hy:y<18446744073709551616)(hc:c<=1):
 ∃s k:Nat,(∀w,(callFunc 105 #[.int .u64 x,.int .u64 y,.int .u64 c]).run prog w=.ok (.value (.tuple #[.int .u64 s,.int .u64 k])) w) /\
  s<18446744073709551616/\k<=1/\s+y+c=x+18446744073709551616*k:=by
 refine⟨(x+18446744073709551616-y-c)%18446744073709551616,if x<y+c then 1 else 0,fun w=>?_,by omega,by split<;>omega,by split<;>omega⟩;rw[run_callFunc_extern Tryz.func105 (by kernel_rfl) (by kernel_rfl) (by kernel_rfl) (e:=(Extern.MathBitsCarry.rows[1]).2) (by kernel_rfl)];have:c=0\/c=1:=by omega
 rcases this with rfl|rfl<;>rfl
theorem pA(x y:Nat)(hx:x<18446744073709551616)(hy:y<18446744073709551616):
 ∃s k:Nat,(∀w,(callFunc 110 #[.int .u64 x,.int .u64 y,.int .u64 0]).run prog w=.ok (.value (.tuple #[.int .u64 s,.int .u64 k])) w) /\
  s<18446744073709551616/\k<=1/\s+18446744073709551616*k=x+y:=kX x y 0 hx hy (SJ 1)
theorem vP(x y:Nat)(hx:x<18446744073709551616)(hy:y<18446744073709551616):
 ∃s k:Nat,(∀w,(callFunc 105 #[.int .u64 x,.int .u64 y,.int .u64 0]).run prog w=.ok (.value (.tuple #[.int .u64 s,.int .u64 k])) w) /\
  s<18446744073709551616/\k<=1/\s+y=x+18446744073709551616*k:=iL x y 0 hx hy (SJ 1)
theorem maskN(a:Nat)(ha:a<18446744073709551616):bits .and .u64 (a:Int) 4294967295=((a%4294967296:Nat):Int):=by
 have h:=bits_and_u64_nat a 4294967295 ha (by omega);rw[show a &&& 4294967295=a%4294967296 from Nat.and_two_pow_sub_one_eq_mod a 32]at h;exact h
theorem divN(a:Nat):(a:Int)/4294967296=((a/4294967296:Nat):Int):=by omega
theorem mulN(a b:Nat):(a:Int)*(b:Int)=((a*b:Nat):Int):=(Int.natCast_mul a b).symm
theorem addN(a b:Nat):(a:Int)+(b:Int)=((a+b:Nat):Int):=(Int.natCast_add a b).symm
theorem wrapN(a:Nat)(ha:a<18446744073709551616):Qs.wrap (a:Int)=(a:Int):=by rw[Tp];omega
theorem wrapM(a:Nat):Qs.wrap (a:Int)=((a%18446744073709551616:Nat):Int):=by rw[Tp];omega
theorem L9(x y:Nat)(hx:x<18446744073709551616)(hy:y<18446744073709551616)(w:World):
 Calls prog 109 #[.int .u64 x,.int .u64 y] w fun e w'=>e=.returned (.tuple #[.int .u64 ((x*y/18446744073709551616:Nat):Int),.int .u64 ((x*y%18446744073709551616:Nat):Int)])/\w'=w:=by
 obtain⟨bd,bt,bw,hhi⟩:=Lib.mul64_hi x y hx hy;have ba:=Vo (a:=x/4294967296) (b:=y/4294967296) (by omega) (by omega);have bb:=Vo (a:=x/4294967296) (b:=y%4294967296) (by omega) (by omega);have bc:=Vo (a:=x%4294967296) (b:=y/4294967296) (by omega) (by omega);have b1:x/4294967296*(y/4294967296)<18446744073709551616:=by omega
 have b2:x/4294967296*(y%4294967296)<18446744073709551616:=by omega
 have b3:x%4294967296*(y/4294967296)<18446744073709551616:=by omega
 have bh1:x/4294967296*(y/4294967296)+(x/4294967296*(y%4294967296)+x%4294967296*(y%4294967296)/4294967296)/4294967296<18446744073709551616:=by omega
 have bh:x/4294967296*(y/4294967296)+(x/4294967296*(y%4294967296)+x%4294967296*(y%4294967296)/4294967296)/4294967296+((x/4294967296*(y%4294967296)+x%4294967296*(y%4294967296)/4294967296)%4294967296+x%4294967296*(y/4294967296))/4294967296<18446744073709551616:=by omega
 go_enter Tryz.func109,Tryz.ntmps109;go_wp2;simp only[maskN x hx,maskN y hy,divN,mulN,addN,wrapN _ bd,wrapN _ b2,wrapN _ bt,maskN _ bt,wrapN _ b3,wrapN _ bw,wrapN _ b1,wrapN _ bh1,wrapN _ bh,wrapM (x*y)];rw[hhi]
 go_ret2
 exact⟨rfl,rfl⟩
theorem Gv(x y:Nat)(hx:x<18446744073709551616)(hy:y<18446744073709551616):
 ∃h l:Nat,(∀w,Calls prog 109 #[.int .u64 x,.int .u64 y] w fun e w'=>e=.returned (.tuple #[.int .u64 h,.int .u64 l])/\w'=w) /\
  h<18446744073709551616/\l<18446744073709551616/\l+18446744073709551616*h=x*y:=by
 have hxy:x*y<=18446744073709551615*18446744073709551615:=RJ (by omega) (by omega);exact⟨_,_,fun w=>L9 x y hx hy w,by omega,by omega,by omega⟩
theorem NK(x y:Nat)(hx:x<18446744073709551616)(hy:y<18446744073709551616)(w:World):
 Calls prog 109 #[.int .u64 x,.int .u64 y] w fun e w'=>w'=w/\∃h l:Nat,e=.returned (.tuple #[.int .u64 h,.int .u64 l]) /\
  h<18446744073709551616/\l<18446744073709551616/\l+18446744073709551616*h=x*y:=by
 obtain⟨h,l,hc,h1,h2,h3⟩:=Gv x y hx hy;exact(hc w).mono fun e w' he=>⟨he.2,h,l,he.1,h1,h2,h3⟩
theorem cH(x y o c:Nat)(hx:x<18446744073709551616)(hy:y<18446744073709551616)(ho:o<18446744073709551616)(hc:c<18446744073709551616):
 ∃h l s1 k1 s2 k2 g cy:Nat,(∀w,Calls prog 109 #[.int .u64 x,.int .u64 y] w fun e w'=>e=.returned (.tuple #[.int .u64 h,.int .u64 l])/\w'=w) /\
  (∀w,(callFunc 110 #[.int .u64 l,.int .u64 c,.int .u64 0]).run prog w=.ok (.value (.tuple #[.int .u64 s1,.int .u64 k1])) w) /\
  (∀w,(callFunc 110 #[.int .u64 o,.int .u64 s1,.int .u64 0]).run prog w=.ok (.value (.tuple #[.int .u64 s2,.int .u64 k2])) w) /\
  Qs.wrap ((h:Int)+(k1:Int))=(g:Int)/\Qs.wrap ((g:Int)+(k2:Int))=(cy:Int) /\
  s2<18446744073709551616/\cy<18446744073709551616/\s2+18446744073709551616*cy=x*y+o+c:=by
 have hxy:x*y<=18446744073709551615*18446744073709551615:=RJ (by omega) (by omega);obtain⟨h,l,hm,hh,hl,e1⟩:=Gv x y hx hy;obtain⟨s1,k1,a1,hs1,hk1,e2⟩:=pA l c hl hc;obtain⟨s2,k2,a2,hs2,hk2,e3⟩:=pA o s1 ho hs1;refine⟨h,l,s1,k1,s2,k2,h+k1,h+k1+k2,hm,a1,a2,?_,?_,hs2,by omega,by omega⟩
 ·rw[addN];exact wrapN _ (by omega)
 ·rw[addN];exact wrapN _ (by omega)
theorem nK(x y o c:Nat)(hx:x<18446744073709551616)(hy:y<18446744073709551616)(ho:o<18446744073709551616)(hc:c<18446744073709551616)(w:World):
 Calls prog 171 #[.int .u64 x,.int .u64 y,.int .u64 o,.int .u64 c] w fun e w'=>w'=w/\∃l h:Nat,e=.returned (.tuple #[.int .u64 l,.int .u64 h]) /\
  h<18446744073709551616/\l<18446744073709551616/\l+18446744073709551616*h=x*y+o+c:=by
 have hxy:x*y<=18446744073709551615*18446744073709551615:=RJ (by omega) (by omega);go_enter Tryz.func171,Tryz.ntmps171;go_wp2_with fail
 refine(NK x y hx hy _).mono ?_;rintro e w1 ⟨rfl,h,l,rfl,hh,hl,e1⟩;obtain⟨s1,k1,a1,hs1,hk1,e2⟩:=pA l o hl ho;obtain⟨s2,k2,a2,hs2,hk2,e3⟩:=pA s1 c hs1 hc;have w1:Qs.wrap ((h:Int)+(k1:Int))=((h+k1:Nat):Int):=by rw[addN];exact wrapN _ (by omega)
 have w2:Qs.wrap (((h+k1:Nat):Int)+(k2:Int))=((h+k1+k2:Nat):Int):=by rw[addN];exact wrapN _ (by omega)
 go_wp2
 go_ret2
 refine⟨rfl,s2,h+k1+k2,?_,by omega,by omega,by omega⟩;rfl
def Ret(Q:Value->World->Prop)(e:Ending)(w:World):Prop:=∃v,e=.returned v/\Q v w
theorem aE(w:World)(o1:Obj):Below w.heap.size w (w.alloc o1):=(Below.refl _ _).alloc (PQ _) o1
theorem below2(w:World)(o1 o2:Obj):Below w.heap.size w ((w.alloc o1).alloc o2):=(aE w o1).alloc (by simp) o2
theorem below3(w:World)(o1 o2 o3:Obj):Below w.heap.size w (((w.alloc o1).alloc o2).alloc o3):=(below2 w o1 o2).alloc (by simp;omega) o3
theorem eI(w:World)(o1 o2 o3 o4:Obj):Below w.heap.size w ((((w.alloc o1).alloc o2).alloc o3).alloc o4):=(below3 w o1 o2 o3).alloc (by simp;omega) o4
theorem m6(x y:Value)(m n:Nat)(hx:Four x m)(hy:Four y n)(w:World):
 Calls prog 116 #[x,y] w (Ret fun e w'=>Below w.heap.size w w'/\∃(v:Value) (s k:Nat),e=.tuple #[v,.int .u64 k]/\Four v s/\k<=1/\s+top*k=m+n):=by
 obtain⟨a,b,c,d,rfl,ha,hb,hc,hd,em⟩:=hx;obtain⟨p,q,r,s,rfl,hp,hq,hr,hs,en⟩:=hy;obtain⟨s0,k0,a0,hs0,hk0,e0⟩:=pA a p ha hp;obtain⟨s1,k1,a1,hs1,hk1,e1⟩:=kX b q k0 hb hq hk0;obtain⟨s2,k2,a2,hs2,hk2,e2⟩:=kX c r k1 hc hr hk1;obtain⟨s3,k3,a3,hs3,hk3,e3⟩:=kX d s k2 hd hs hk2;have hv:val s0 s1 s2 s3+top*k3=m+n:=by rw[em,en];unfold val top;omega
 clear e0 e1 e2 e3 em en;go_enter Tryz.func116,Tryz.ntmps116;go_wp2_with (first|simp only[a0]|simp only[a1]|simp only[a2]|simp only[a3])
 refine bodyPost_ret (v:=?v) ?hr rfl ?hR
 case hr=>simp[results,Tryz.results116,go_sem];rfl
 exact⟨_,rfl,below3 _ _ _ _,_,_,k3,rfl,Four.mk hs0 hs1 hs2 hs3 rfl,hk3,hv⟩
theorem oV(x y:Value)(m n:Nat)(hx:Four x m)(hy:Four y n)(w:World):
 Calls prog 165 #[x,y] w (Ret fun e w'=>Below w.heap.size w w'/\∃(v:Value) (s k:Nat),e=.tuple #[v,.int .u64 k]/\Four v s/\k<=1/\s+n=m+top*k):=by
 obtain⟨a,b,c,d,rfl,ha,hb,hc,hd,em⟩:=hx;obtain⟨p,q,r,s,rfl,hp,hq,hr,hs,en⟩:=hy;obtain⟨s0,k0,a0,hs0,hk0,e0⟩:=vP a p ha hp;obtain⟨s1,k1,a1,hs1,hk1,e1⟩:=iL b q k0 hb hq hk0;obtain⟨s2,k2,a2,hs2,hk2,e2⟩:=iL c r k1 hc hr hk1;obtain⟨s3,k3,a3,hs3,hk3,e3⟩:=iL d s k2 hd hs hk2;have hv:val s0 s1 s2 s3+n=m+top*k3:=by rw[em,en];unfold val top;omega
 clear e0 e1 e2 e3 em en;go_enter Tryz.func165,Tryz.ntmps165;go_wp2_with (first|simp only[a0]|simp only[a1]|simp only[a2]|simp only[a3])
 refine bodyPost_ret (v:=?v) ?hr rfl ?hR
 case hr=>simp[results,Tryz.results165,go_sem];rfl
 exact⟨_,rfl,below3 _ _ _ _,_,_,k3,rfl,Four.mk hs0 hs1 hs2 hs3 rfl,hk3,hv⟩
theorem f9(x:Value)(m:Nat)(hx:Four x m)(w:World):
 Calls prog 117 #[x] w (Ret fun e w'=>Below w.heap.size w w'/\e=x):=by
 obtain⟨a,b,c,d,rfl,ha,hb,hc,hd,em⟩:=hx;clear em;go_enter Tryz.func117,Tryz.ntmps117;go_wp2;refine bodyPost_ret (v:=?v) ?hr rfl ?hR
 case hr=>simp[results,Tryz.results117,go_sem];rfl
 exact⟨_,rfl,below2 _ _ _,rfl⟩
theorem fW(x:Value)(m:Nat)(hx:Four x m)(w:World):
 Calls prog 139 #[x] w (Ret fun e w'=>Below w.heap.size w w'/\e=x):=by
 obtain⟨a,b,c,d,rfl,ha,hb,hc,hd,em⟩:=hx;clear em;go_enter Tryz.func139,Tryz.ntmps139;go_wp2;refine bodyPost_ret (v:=?v) ?hr rfl ?hR
 case hr=>simp[results,Tryz.results139,go_sem];rfl
 exact⟨_,rfl,below2 _ _ _,rfl⟩
theorem wH(x a b c d:Nat):x*val a b c d=val (x*a) (x*b) (x*c) (x*d):=by
 unfold val;rw[Sw,Sw,Sw,T8 x _ b,T8 x _ c,T8 x _ d]
theorem mQ{x a b c d p q r s l0 l1 l2 l3 h0 h1 h2 h3 m n:Nat}(em:m=val a b c d)(en:n=val p q r s)
 (e0:l0+18446744073709551616*h0=x*a+p+0) (e1:l1+18446744073709551616*h1=x*b+q+h0)
 (e2:l2+18446744073709551616*h2=x*c+r+h1) (e3:l3+18446744073709551616*h3=x*d+s+h2) :
 l0+18446744073709551616*val l1 l2 l3 h3=x*m+n:=by
 rw[em,en,wH x a b c d];generalize x*a=xa at *;generalize x*b=xb at *;generalize x*c=xc at *;generalize x*d=xd at *;unfold val;omega
theorem gZ(x:Nat)(y z:Value)(m n:Nat)(hx:x<18446744073709551616)(hy:Four y m)(hz:Four z n)(w:World):
 Calls prog 159 #[.int .u64 x,y,z] w (Ret fun e w'=>Below w.heap.size w w'/\∃(l:Nat) (v:Value) (s:Nat),e=.tuple #[.int .u64 l,v]/\l<18446744073709551616/\Four v s/\l+18446744073709551616*s=x*m+n):=by
 obtain⟨a,b,c,d,rfl,ha,hb,hc,hd,em⟩:=hy;obtain⟨p,q,r,s,rfl,hp,hq,hr,hs,en⟩:=hz;go_enter Tryz.func159,Tryz.ntmps159;go_wp2_with fail
 refine(nK x a p 0 hx ha hp (by decide) _).mono ?_;rintro e w1 ⟨rfl,l0,h0,rfl,hh0,hl0,e0⟩;go_wp2_with fail
 refine(nK x b q h0 hx hb hq hh0 _).mono ?_;rintro e w1 ⟨rfl,l1,h1,rfl,hh1,hl1,e1⟩;go_wp2_with fail
 refine(nK x c r h1 hx hc hr hh1 _).mono ?_;rintro e w1 ⟨rfl,l2,h2,rfl,hh2,hl2,e2⟩;go_wp2_with fail
 refine(nK x d s h2 hx hd hs hh2 _).mono ?_;rintro e w1 ⟨rfl,l3,h3,rfl,hh3,hl3,e3⟩;go_wp2;refine bodyPost_ret (v:=?v) ?hr rfl ?hR
 case hr=>simp[results,Tryz.results159,go_sem];rfl
 exact⟨_,rfl,below3 _ _ _ _,l0,_,_,rfl,hl0,Four.mk hl1 hl2 hl3 hh3 rfl,mQ em en e0 e1 e2 e3⟩
end
namespace RG
open Go Go.RowKit
inductive SV where
 | v (x:Value)
 | p (b o:Nat)
 | s (b n c:Nat)
 | t (b n c:Nat) (y:Value)
def SV.at(μ:Nat->Nat):SV->Value
 | .v x=>x
 | .p b o=>.pointer (some ⟨μ b,o,none⟩)
 | .s b n c=>.slice (some ⟨μ b,0,none⟩) n c
 | .t b n c y=>.tuple #[.slice (some ⟨μ b,0,none⟩) n c,y]
def SV.blk:SV->Option Nat
 | .v _=>none
 | .p b _=>some b
 | .s b _ _=>some b
 | .t b _ _ _=>some b
theorem SV.at_congr{μ ν:Nat->Nat}{s:SV}(h:∀b,s.blk=some b->μ b=ν b):s.at μ=s.at ν:=by
 cases s with
 | v x=>rfl
 | p b o=>show Xm (some ⟨μ b,o,none⟩)=.pointer (some ⟨ν b,o,none⟩);rw[h b rfl]
 | s b n c=>show Value.slice (some ⟨μ b,0,none⟩) n c=.slice (some ⟨ν b,0,none⟩) n c;rw[h b rfl]
 | t b n c y=>show Value.tuple #[.slice (some ⟨μ b,0,none⟩) n c,y]=.tuple #[.slice (some ⟨ν b,0,none⟩) n c,y];rw[h b rfl]
inductive Kind where
 | stay
 | pass
 | call
 | make (b:Nat)
 | put (b:Nat)
structure It where
 dst:Option Tmp
 need:List (Tmp × Nat)
 out:SV
 kind:Kind
structure Bl where
 before:List Value
 after:List Value
 al:Option Nat
 st:Option Nat
def on(L:Array Bool)(i:Nat):Bool:=L.getD i false
def Bl.live(e:Bl)(L:Array Bool):Bool:=(e.al.map (on L)).getD true
def Bl.put(e:Bl)(L:Array Bool):Bool:=(e.st.map (on L)).getD false
def Bl.now(e:Bl)(L:Array Bool):List Value:=if e.put L=true then e.after else e.before
theorem fB{L:Array Bool}{i j:Nat}(h:i<L.size):on (L.setIfInBounds i true) j=(on L j || i == j):=by
 unfold on;simp only[PZ,Ru];by_cases hij:i=j
 ·subst hij;simp[h]
 ·simp[hij]
theorem eV{e:Bl}{L:Array Bool}{i:Nat}(h:i<L.size):e.live (L.setIfInBounds i true)=(e.live L || e.al == some i):=by
 unfold Bl.live;cases ha:e.al with
 | none=>rfl
 | some j =>
  show on _ j=(on L j || _);rw[fB h];by_cases hij:i=j
  ·subst hij;simp
  ·have h1:(i == j)=false:=by simpa using hij
   have h2:(some j == some i)=false:=by simpa using fun h=>hij h.symm
   rw[h1,h2]
theorem h9{e:Bl}{L:Array Bool}{i:Nat}(h:i<L.size):e.put (L.setIfInBounds i true)=(e.put L || e.st == some i):=by
 unfold Bl.put;cases ha:e.st with
 | none=>rfl
 | some j =>
  show on _ j=(on L j || _);rw[fB h];by_cases hij:i=j
  ·subst hij;simp
  ·have h1:(i == j)=false:=by simpa using hij
   have h2:(some j == some i)=false:=by simpa using fun h=>hij h.symm
   rw[h1,h2]
theorem range_below{B k o:Nat}{w w':World}{cs:List Value}(h:w.rangeAt k o cs)(hb:Below B w w')(hk:k<B):w'.rangeAt k o cs:=fun j v hv=>by
 rw[hb.cell (p:=⟨k,o+j,none⟩) hk];exact h j v hv
theorem dN{B k o n:Nat}{w w':World}(h:w.there k o n)(hb:Below B w w')(hk:k<B):w'.there k o n:=fun j hj=>by
 rw[hb.cell (p:=⟨k,o+j,none⟩) hk,hb.frozen (p:=⟨k,o+j,none⟩) hk];exact h j hj
theorem below_setCells{B k:Nat}{w0:World}(hk:B<=k):∀(vs:List Value) (o:Nat) (w:World),Below B w0 w->Below B w0 (w.setCells k o vs)
 | [],_,_,h=>h
 | v :: r,o,w,h=>below_setCells hk r (o+1) _ (h.setCell (p:=⟨k,o,none⟩) hk v)
theorem setCells_size(k:Nat):∀(vs:List Value) (o:Nat) (w:World),(w.setCells k o vs).heap.size=w.heap.size
 | [],_,_=>rfl
 | v :: r,o,w=>by
  rw[Vn,setCells_size k r (o+1)];simp[World.setCell]
theorem there_setCells{k b o n:Nat}:∀(vs:List Value) (i:Nat) (w:World),w.there b o n->(w.setCells k i vs).there b o n
 | [],_,_,h=>h
 | v :: r,i,w,h=>there_setCells r (i+1) _ fun j hj=>⟨World.isSome_setCells k [v] i w _ (h j hj).1,by rw[Qk];exact(h j hj).2⟩
structure BelX(k0:Nat)(X:List Nat)(w w':World):Prop where
 os:w'.os=w.os
 tape:w'.tape=w.tape
 output:w'.output=w.output
 size:w.heap.size<=w'.heap.size
 block:∀j,j<k0->j ∉ X->w'.heap[j]? = w.heap[j]?
theorem BelX.below{k0:Nat}{w w':World}(h:BelX k0 [] w w'):Below k0 w w':=⟨h.os,h.tape,h.output,h.size,fun j hj=>h.block j hj P4⟩
theorem BelX.drew{k0:Nat}{X:List Nat}{w w':World}(h:BelX k0 X w w'):BelX k0 X w w'.drew:=⟨h.os,h.tape,h.output,h.size,h.block⟩
theorem BelX.refl(k0:Nat)(X:List Nat)(w:World):BelX k0 X w w:=⟨rfl,rfl,rfl,PQ _,fun _ _ _=>rfl⟩
theorem BelX.trans{k0:Nat}{X:List Nat}{a b c:World}(h:BelX k0 X a b)(k:BelX k0 X b c):BelX k0 X a c:=
 ⟨k.os.trans h.os,k.tape.trans h.tape,k.output.trans h.output,Qn h.size k.size,fun i hi hx=>(k.block i hi hx).trans (h.block i hi hx)⟩
structure Wd(w0:World)(k0:Nat)(X:List Nat)(bl:List Bl)(L:Array Bool)(μ:Nat->Nat)(w:World):Prop where
 bel:BelX k0 X w0 w
 le:k0<=w.heap.size
 has:∀(b:Nat) (e:Bl),bl[b]? = some e->e.live L=true->w.rangeAt (μ b) 0 (e.now L)/\w.there (μ b) 0 e.before.length/\μ b<w.heap.size/\(k0<=μ b\/μ b∈X)
 inj:∀(b c:Nat) (e f:Bl),bl[b]? = some e->bl[c]? = some f->e.live L=true->f.live L=true->b≠c->μ b≠μ c
variable {w0 w w':World}{k0:Nat}{X:List Nat}{bl:List Bl}{L:Array Bool}{μ:Nat->Nat}
theorem Wd.same{L':Array Bool}(h:Wd w0 k0 X bl L μ w)(hl:∀(b:Nat) (e:Bl),bl[b]? = some e->e.live L'=e.live L/\e.put L'=e.put L):Wd w0 k0 X bl L' μ w:=by
 refine⟨h.bel,h.le,fun b e hb hv=>?_,fun b c e f hb hc he hf=>h.inj b c e f hb hc ((hl b e hb).1 ▸ he) ((hl c f hc).1 ▸ hf)⟩;have:=h.has b e hb ((hl b e hb).1 ▸ hv);unfold Bl.now at this⊢;rw[(hl b e hb).2];exact this
theorem Wd.call(h:Wd w0 k0 X bl L μ w)(hb:Below w.heap.size w w'):Wd w0 k0 X bl L μ w':=by
 refine⟨h.bel.trans ⟨hb.os,hb.tape,hb.output,hb.size,fun k hk _=>hb.block k (PS hk h.le)⟩,Qn h.le hb.size,fun b e hbe hv=>?_,h.inj⟩;obtain⟨h1,h2,h3,h4⟩:=h.has b e hbe hv;exact⟨range_below h1 hb h3,dN h2 hb h3,PS h3 hb.size,h4⟩
def upd(μ:Nat->Nat)(b k:Nat):Nat->Nat:=fun c=>if c=b then k else μ c
structure Made(w:World)(k:Nat)(c:List Value)(w':World):Prop where
 bel:Below w.heap.size w w'
 le:w.heap.size<=k
 lt:k<w'.heap.size
 range:w'.rangeAt k 0 c
 there:w'.there k 0 c.length
theorem Made.alloc(w:World)(c:List Value)(t:TypeId):Made w w.heap.size c (w.alloc (.cells c.toArray t)):=by
 refine⟨aE w _,PQ _,by rw[Qa];omega,fun j v hj=>?_,fun j hj=>⟨?_,Ri _ _ _ _⟩⟩
 ·rw[PU,Qj];simpa using hj
 ·rw[PU,Qj];simp[hj]
theorem Wd.make{i b k:Nat}{e:Bl}(h:Wd w0 k0 X bl L μ w)(hi:i<L.size)(hb:bl[b]? = some e)(ha:e.al=some i)(hne:∀(c:Nat) (f:Bl),bl[c]? = some f->c≠b->f.al≠some i)
 (hst:∀(c:Nat) (f:Bl),bl[c]? = some f->f.st≠some i) (hp:e.put L=false) (hm:Made w k e.before w') :
 Wd w0 k0 X bl (L.setIfInBounds i true) (upd μ b k) w':=by
 have hput:∀(c:Nat) (f:Bl),bl[c]? = some f->f.put (L.setIfInBounds i true)=f.put L:=fun c f hc=>by
  rw[h9 hi,show(f.st == some i)=false by simpa using hst c f hc,Rr]
 have hliv:∀(c:Nat) (f:Bl),bl[c]? = some f->c≠b->f.live (L.setIfInBounds i true)=f.live L:=fun c f hc hcb=>by
  rw[eV hi,show(f.al == some i)=false by simpa using hne c f hc hcb,Rr]
 have hold:∀(c:Nat) (f:Bl),bl[c]? = some f->c≠b->f.live (L.setIfInBounds i true)=true->μ c<w.heap.size:=fun c f hc hcb hv=>(h.has c f hc (hliv c f hc hcb ▸ hv)).2.2.1
 have hal:=hm.bel;have hmk:=hm.le;refine⟨h.bel.trans ⟨hal.os,hal.tape,hal.output,hal.size,fun k hk _=>hal.block k (PS hk h.le)⟩,Qn h.le hal.size,fun c f hc hv=>?_,fun c d f g hc hd hf hg hcd=>?_⟩
 ·by_cases hcb:c=b
  ·subst hcb;rw[hb]at hc;obtain rfl:e=f:=Qh.inj hc;have hn:e.now (L.setIfInBounds i true)=e.before:=by unfold Bl.now;rw[hput c e hb,hp];rfl
   rw[hn];unfold upd;rw[if_pos rfl];exact⟨hm.range,hm.there,hm.lt,Ql (Qn h.le hmk)⟩
  ·obtain⟨h1,h2,h3,h4⟩:=h.has c f hc (hliv c f hc hcb ▸ hv);unfold upd;rw[if_neg hcb];have hn:f.now (L.setIfInBounds i true)=f.now L:=by unfold Bl.now;rw[hput c f hc]
   rw[hn];exact⟨range_below h1 hal h3,dN h2 hal h3,PS h3 hal.size,h4⟩
 ·unfold upd;by_cases hcb:c=b
  ·subst hcb;rw[if_pos rfl,if_neg (fun h=>hcd h.symm)];exact Nat.ne_of_gt (PS (hold d g hd (fun h=>hcd h.symm) hg) hmk)
  ·by_cases hdb:d=b
   ·subst hdb;rw[if_pos rfl,if_neg hcb];exact Rf (PS (hold c f hc hcb hf) hmk)
   ·rw[if_neg hcb,if_neg hdb];exact h.inj c d f g hc hd (hliv c f hc hcb ▸ hf) (hliv d g hd hdb ▸ hg) hcd
structure PutTo(k n:Nat)(cs:List Value)(w w':World):Prop where
 os:w'.os=w.os
 tape:w'.tape=w.tape
 output:w'.output=w.output
 size:w.heap.size<=w'.heap.size
 block:∀j,j<w.heap.size->j≠k->w'.heap[j]? = w.heap[j]?
 range:w'.rangeAt k 0 cs
 there:w'.there k 0 n
theorem bK(k:Nat):∀(vs:List Value) (o:Nat) (w:World) (j:Nat),j≠k->(w.setCells k o vs).heap[j]? = w.heap[j]?
 | [],_,_,_,_=>rfl
 | v :: r,o,w,j,h=>by
  rw[Vn,bK k r (o+1) _ j h,Below.heap_setCell _ _ _ _ h]
theorem pD(k:Nat):∀(vs:List Value) (o:Nat) (w:World),(w.setCells k o vs).os=w.os/\(w.setCells k o vs).tape=w.tape/\(w.setCells k o vs).output=w.output
 | [],_,_=>⟨rfl,rfl,rfl⟩
 | v :: r,o,w=>by rw[Vn];exact pD k r (o+1) _
theorem PutTo.store{k n o:Nat}{before after vs:List Value}(ht:w.there k 0 n)(hr:w.rangeAt k 0 before)(hl:o+vs.length<=n)(ha:∀j,after[j]? = if o<=j/\j<o+vs.length then vs[j-o]? else before[j]?):PutTo k n after w (w.setCells k o vs):=by
 obtain⟨h1,h2,h3⟩:=pD k vs o w;refine⟨h1,h2,h3,by rw[setCells_size];exact PQ _,fun j _ hj=>bK k vs o w j hj,fun j v hv=>?_,there_setCells _ _ _ ht⟩;have hto:w.there k o vs.length:=fun j hj=>by have:=ht (o+j) (by omega);rwa[PU]at this
 rw[ha j]at hv;rw[PU];by_cases hj:o<=j/\j<o+vs.length
 ·rw[if_pos hj]at hv;have:=World.rangeAt_setCells_same w k o vs hto (j-o) v hv;rwa[show o+(j-o)=j by omega]at this
 ·rw[if_neg hj]at hv;have h5:w.rangeAt k j [v]:=fun i u hu=>by
   cases i with
   | zero =>
    obtain rfl:v=u:=by simpa using hu
    have:=hr j v hv;rwa[PU]at this
   | succ i=>simp at hu
  have h6:=World.rangeAt_setCells_apart h5 k o vs (Qc (by simp only[List.length_cons,List.length_nil];omega));have:=h6 0 v rfl;exact this
theorem PutTo.whole{k:Nat}{before after:List Value}(ht:w.there k 0 before.length)(hr:w.rangeAt k 0 before)(hl:after.length=before.length):PutTo k before.length after w (w.setCells k 0 after):=
 PutTo.store ht hr (by omega) (fun j=>by
  by_cases hj:0<=j/\j<0+after.length
  ·rw[if_pos hj];rfl
  ·rw[if_neg hj,RY (by omega),RY (by omega)])
theorem Wd.put{i b:Nat}{e:Bl}(h:Wd w0 k0 X bl L μ w)(hi:i<L.size)(hb:bl[b]? = some e)(hs:e.st=some i)(hv:e.live L=true)(hp:PutTo (μ b) e.before.length e.after w w')
 (hne:∀(c:Nat) (f:Bl),bl[c]? = some f->c≠b->f.st≠some i) (hal:∀(c:Nat) (f:Bl),bl[c]? = some f->f.al≠some i) :
 Wd w0 k0 X bl (L.setIfInBounds i true) μ w':=by
 have hliv:∀(c:Nat) (f:Bl),bl[c]? = some f->f.live (L.setIfInBounds i true)=f.live L:=fun c f hc=>by
  rw[eV hi,show(f.al == some i)=false by simpa using hal c f hc,Rr]
 obtain⟨g1,g2,g3,g4⟩:=h.has b e hb hv;have hle:=h.le;refine⟨h.bel.trans ⟨hp.os,hp.tape,hp.output,hp.size,fun j hj hx=>hp.block j (by omega) (fun e=>g4.elim (fun h=>by omega) (fun h=>hx (e ▸ h)))⟩,Qn h.le hp.size,fun c f hc hvc=>?_,fun c d f g hc hd hf hg=>h.inj c d f g hc hd (hliv c f hc ▸ hf) (hliv d g hd ▸ hg)⟩;rw[hliv c f hc]at hvc;obtain⟨h1,h2,h3,h4⟩:=h.has c f hc hvc;by_cases hcb:c=b
 ·subst hcb;rw[hb]at hc;obtain rfl:e=f:=Qh.inj hc;have hn:e.now (L.setIfInBounds i true)=e.after:=by
   unfold Bl.now;rw[h9 hi,hs];simp
  rw[hn];exact⟨hp.range,hp.there,PS h3 hp.size,h4⟩
 ·have hn:f.now (L.setIfInBounds i true)=f.now L:=by
   unfold Bl.now;rw[h9 hi,show(f.st == some i)=false by simpa using hne c f hc hcb,Rr]
  rw[hn];have hsame:=hp.block (μ c) h3 (h.inj c b f e hc hb hvc hv hcb);refine⟨fun j v hj=>?_,fun j hj=>?_,PS h3 hp.size,h4⟩
  ·rw[Qt (w:=w) (a:=⟨μ c,0+j,none⟩) hsame];exact h1 j v hj
  ·rw[Qt (w:=w) (a:=⟨μ c,0+j,none⟩) hsame,World.frozen?_of_block (w:=w) (a:=⟨μ c,0+j,none⟩) hsame];exact h2 j hj
end RG
namespace RG
open Go Go.RowKit
variable {P:Program}{ops:Array Oper}{Q:Exit->Act->World->Prop}{w0 w:World}{k0:Nat}{X:List Nat}{its:List It}{bl:List Bl}{olds:List (Tmp × SV)}{a0:Act}{L:Array Bool}{μ μ' μ0:Nat->Nat}
structure Ac(its:List It)(bl:List Bl)(a0:Act)(L:Array Bool)(μ:Nat->Nat)(a:Act):Prop where
 defers:a.defers=a0.defers
 size:a.tmps.size=a0.tmps.size
 got:∀(i:Nat) (it:It) (d:Tmp),its[i]? = some it->on L i=true->it.dst=some d->a.tmps[d]? = some (it.out.at μ)/\∀b,it.out.blk=some b->∃e:Bl,bl[b]? = some e/\e.live L=true
 rest:∀t:Tmp,(∀(i:Nat) (it:It),its[i]? = some it->on L i=true->it.dst≠some t)->a.tmps[t]? = a0.tmps[t]?
def jO(o:Oper)(j:Nat):Bool:=o.after.any (fun e=>RB .any e && e.on == j)
def C9(ops:Array Oper)(its:List It)(i:Nat)(t:Tmp):Bool:=its.zipIdx.all (fun x=>x.1.dst != some t || (match ops[x.2]? with|some o=>jO o i|none=>false))
def Known(ops:Array Oper)(i:Nat)(its:List It)(olds:List (Tmp × SV))(need:List (Tmp × Nat))(μ:Nat->Nat)(a:Act):Prop:=
 (∀(t:Tmp) (j:Nat) (it:It),(t,j)∈need->its[j]? = some it->a.eval (.tmp t)=it.out.at μ)/\(∀(t:Tmp) (s:SV),(t,s)∈olds->C9 ops its i t=true->a.eval (.tmp t)=s.at μ)
def readB(ops:Array Oper)(i:Nat)(e:Bl):Bool:=match e.st with|none=>true|some s=>match ops[s]? with|some o=>jO o i|none=>false
def Reads(ops:Array Oper)(i:Nat)(bl:List Bl)(μ:Nat->Nat)(w:World):Prop:=∀(b:Nat) (e:Bl),bl[b]? = some e->(e.al=none\/∃(o:Oper) (j:Nat),ops[i]? = some o/\e.al=some j/\jO o j=true)->readB ops i e=true->w.rangeAt (μ b) 0 e.before
def Does(P:Program)(Q:Exit->Act->World->Prop)(bl:List Bl)(o:Oper)(it:It)(μ:Nat->Nat)(a:Act)(w:World)(K:Act->World->Prop):Kind->Prop
 | .stay=>K (a.put o.dst (it.out.at μ)) w->o.wp P a w K Q
 | .pass=>it.out=.v undef
 | .call=>(∀w',Below w.heap.size w w'->K (a.put o.dst (it.out.at μ)) w')->o.wp P a w K Q
 | .make b=>∀e:Bl,bl[b]? = some e->(∀(k:Nat) (w':World),Made w k e.before w'->K (a.put o.dst (it.out.at (upd μ b k))) w')->o.wp P a w K Q
 | .put b=>∀e:Bl,bl[b]? = some e->w.there (μ b) 0 e.before.length->w.rangeAt (μ b) 0 e.before->(∀w',PutTo (μ b) e.before.length e.after w w'->K (a.put o.dst (it.out.at μ)) w')->o.wp P a w K Q
def Cert(P:Program)(Q:Exit->Act->World->Prop)(w0:World)(k0:Nat)(X:List Nat)(ops:Array Oper)(i:Nat)(its:List It)(bl:List Bl)(olds:List (Tmp × SV))(o:Oper)(it:It):Prop:=
 ∀(μ:Nat->Nat) (a:Act) (w:World) (K:Act->World->Prop),Known ops i its olds it.need μ a->Reads ops i bl μ w->BelX k0 X w0 w->Does P Q bl o it μ a w K it.kind
def GI(its:List It)(bl:List Bl)(o:Oper)(it:It)(b:Nat):Bool:=
 (match bl[b]? with|some e=>(match e.al with|none=>true|some j=>jO o j)|none=>false) || it.need.any (fun x=>jO o x.2 && (match its[x.2]? with|some jt=>jt.dst.isSome && jt.out.blk == some b|none=>false))
def uO(its:List It)(bl:List Bl)(i:Nat)(o:Oper)(it:It):Kind->Bool
 | .stay | .pass | .call=>bl.all (fun e=>e.al != some i && e.st != some i) && (match it.out.blk with|none=>true|some b=>GI its bl o it b)
 | .make b=>(match it.out.blk with|some c=>c == b|none=>false) && bl.zipIdx.all (fun x=>x.1.st != some i && (x.1.al == some i) == (x.2 == b)) && (bl[b]?).isSome
 | .put b=>(match it.out with | .v _=>true|_=>false) && bl.zipIdx.all (fun x=>x.1.al != some i && (x.1.st == some i) == (x.2 == b)) && (match bl[b]? with|some e=>(match e.al with|none=>true|some j=>jO o j)|none=>false)
def Kind.isPass:Kind->Bool
 | .pass=>true
 | _=>false
def GN(its:List It)(o:Oper)(it:It):Bool:=
 match o.guard with
 | none=>!it.kind.isPass
 | some (j,want)=>jO o j && (match its[j]? with|some jt=>jt.dst.isSome && (match jt.out with | .v (.bool b)=>(b == want) == !it.kind.isPass|_=>false)|none=>false)
def okB(its:List It)(bl:List Bl)(i:Nat)(o:Oper)(it:It):Bool:=
 (o.dst == it.dst) && GN its o it && o.after.all (fun e=>!RB .any e || e.on<i) && it.need.all (fun tj=>jO o tj.2 && ((its[tj.2]?).bind (·.dst)) == some tj.1) && uO its bl i o it it.kind
def tN:List It->Bool
 | []=>true
 | it :: r=>(match it.dst with|none=>true|some d=>r.all (fun jt=>jt.dst != some d)) && tN r
def OZ(bl:List Bl)(olds:List (Tmp × SV)):Bool:=
 olds.all (fun x=>(match x.2.blk with|none=>true|some b=>match bl[b]? with|some e=>e.al.isNone|none=>false))
def allB(ops:Array Oper)(its:List It)(bl:List Bl)(olds:List (Tmp × SV))(n:Nat):Bool:=
 ops.size == its.length && tN its && OZ bl olds && its.all (fun it=>match it.dst with|none=>true|some d=>d<n) &&
 (QJ its.length).all (fun i=>match ops[i]?,its[i]? with|some o,some it=>okB its bl i o it|_,_=>false)
theorem G8:∀ {its:List It},tN its=true->∀(i j:Nat) (it jt:It) (d:Tmp),its[i]? = some it->its[j]? = some jt->it.dst=some d->jt.dst=some d->i=j
 | [],_,i,_,_,_,_,h,_,_,_=>by simp at h
 | x :: r,h,i,j,it,jt,d,hi,hj,di,dj=>by
  simp only[tN,P3]at h;match i,j with
  | 0,0=>rfl
  | 0,j+1 =>
   simp only[Uo,Qh.injEq]at hi;simp only[To]at hj;subst hi;rw[di]at h;have:=Qp.1 h.1 jt (QY hj);rw[dj]at this;simp at this
  | i+1,0 =>
   simp only[Uo,Qh.injEq]at hj;simp only[To]at hi;subst hj;rw[dj]at h;have:=Qp.1 h.1 it (QY hi);rw[di]at this;simp at this
  | i+1,j+1 =>
   simp only[To]at hi hj;rw[G8 h.2 i j it jt d hi hj di dj]
theorem lJ{e:Bl}{i:Nat}(hi:i<L.size)(h:e.live L=true):e.live (L.setIfInBounds i true)=true:=by rw[eV hi,h,Ta]
theorem Ac.put{a:Act}{i:Nat}{it:It}(h:Ac its bl a0 L μ a)(hd:tN its=true)(hi:i<L.size)(hit:its[i]? = some it)(hμ:∀(b:Nat) (e:Bl),bl[b]? = some e->e.live L=true->μ' b=μ b)
 (hin:∀d,it.dst=some d->d<a0.tmps.size) (hl:∀d,it.dst=some d->∀b,it.out.blk=some b->∃e:Bl,bl[b]? = some e/\e.live (L.setIfInBounds i true)=true)
 (v:Value) (hv:∀d,it.dst=some d->v=it.out.at μ'):Ac its bl a0 (L.setIfInBounds i true) μ' (a.put it.dst v):=by
 have hsame:∀(j:Nat) (jt:It) (d:Tmp),its[j]? = some jt->on L j=true->jt.dst=some d->a.tmps[d]? = some (jt.out.at μ')/\∀b,jt.out.blk=some b->∃e:Bl,bl[b]? = some e/\e.live (L.setIfInBounds i true)=true:=fun j jt d hj ho hjd=>by
  obtain⟨h1,h2⟩:=h.got j jt d hj ho hjd;refine⟨?_,fun b hbo=>?_⟩
  ·rw[h1]
   congr 1
   refine SV.at_congr fun b hb=>?_
   obtain⟨e,he,hl⟩:=h2 b hb;rw[hμ b e he hl]
  ·obtain⟨e,he,hl⟩:=h2 b hbo;exact⟨e,he,lJ hi hl⟩
 cases hdst:it.dst with
 | none =>
  show Ac its bl a0 _ μ' a;refine⟨h.defers,h.size,fun j jt d hj ho hjd=>?_,fun t ht=>h.rest t fun j jt hj ho=>ht j jt hj (by rw[fB hi,ho,Ta])⟩;rw[fB hi]at ho;by_cases hij:i=j
  ·subst hij;rw[hit]at hj;obtain rfl:it=jt:=Qh.inj hj;rw[hdst]at hjd;cases hjd
  ·exact hsame j jt d hj (by simpa[hij]using ho) hjd
 | some d0 =>
  have hd0:=hin d0 hdst;refine⟨h.defers,?_,fun j jt d hj ho hjd=>?_,fun t ht=>?_⟩
  ·show(a.tmps.setIfInBounds d0 v).size=_;rw[Qq];exact h.size
  ·show(a.tmps.setIfInBounds d0 v)[d]? = _/\_;rw[Ru];rw[fB hi]at ho;by_cases hij:i=j
   ·subst hij;rw[hit]at hj;obtain rfl:it=jt:=Qh.inj hj;rw[hdst]at hjd;obtain rfl:d0=d:=Qh.inj hjd;rw[if_pos rfl,if_pos (by rw[h.size];exact hd0),hv d0 hdst];exact⟨rfl,hl d0 hdst⟩
   ·have hne:d0≠d:=fun hdd=>hij (G8 hd i j it jt d0 hit hj hdst (hdd ▸ hjd))
    rw[if_neg hne];exact hsame j jt d hj (by simpa[hij]using ho) hjd
  ·show(a.tmps.setIfInBounds d0 v)[t]? = _;have hne:d0≠t:=fun hdt=>ht i it hit (by rw[fB hi];simp) (by rw[hdst,hdt])
   rw[Ru,if_neg hne];exact h.rest t fun j jt hj ho=>ht j jt hj (by rw[fB hi,ho,Ta])
structure Inv(ops:Array Oper)(its:List It)(bl:List Bl)(a0:Act)(w0:World)(k0:Nat)(X:List Nat)(μ0:Nat->Nat)(L:Array Bool)(a:Act)(w:World):Prop where
 size:L.size=its.length
 cl:∀(i:Nat) (o:Oper),ops[i]? = some o->on L i=true->∀e∈o.after,RB .any e=true->on L e.on=true
 all:∃μ,(∀(b:Nat) (e:Bl),bl[b]? = some e->e.al=none->μ b=μ0 b)/\Ac its bl a0 L μ a/\Wd w0 k0 X bl L μ w/\∀(b:Nat) (e:Bl),bl[b]? = some e->e.put L=true->e.live L=true
theorem xQ{o:Oper}(h:o.guard=none)(y:Nat->Option Bool):TV o y=true:=by unfold TV;rw[h]
theorem gR{p:Bl × Nat->Bool}(h:bl.zipIdx.all p=true)(b:Nat)(e:Bl)(hb:bl[b]? = some e):p (e,b)=true:=
 Qp.1 h (e,b) (by rw[Vi];exact hb)
theorem two{s t:Option Nat}{i c b:Nat}(h:(s != some i && (t == some i) == (c == b))=true):s≠some i/\(t=some i↔c=b):=by
 rw[P3]at h;refine⟨by simpa using h.1,?_⟩;have h2:(t == some i)=(c == b):=by simpa using h.2
 constructor
 ·intro ht;rw[ht]at h2;simpa using h2.symm
 ·intro hc;rw[hc]at h2;simpa using h2
theorem step{i:Nat}{o:Oper}{it:It}{a:Act}(hd:tN its=true)(ho:ops[i]? = some o)(hit:its[i]? = some it)(hok:okB its bl i o it=true)(hin:∀d,it.dst=some d->d<a0.tmps.size)
 (holds:∀(t:Tmp) (s:SV),(t,s)∈olds->a0.tmps[t]? = some (s.at μ0)/\∀b,s.blk=some b->∃e:Bl,bl[b]? = some e/\e.al=none)
 (hdops:∀(j:Nat) (oj:Oper) (jt:It),ops[j]? = some oj->its[j]? = some jt->oj.dst=jt.dst) (hops:ops.size=its.length) (hc:Cert P Q w0 k0 X ops i its bl olds o it) (hun:on L i=false) (hdep:∀e∈o.after,RB .any e=true->on L e.on=true) (h:Inv ops its bl a0 w0 k0 X μ0 L a w) :
 wpOp P ops Q i (Inv ops its bl a0 w0 k0 X μ0 (L.setIfInBounds i true)) a w:=by
 obtain⟨hsz,hcl,μ,hμ,hA,hW,hO⟩:=h;have hi:i<L.size:=by rw[hsz];exact(Qe.1 hit).1
 simp only[okB,P3]at hok;obtain⟨⟨⟨⟨hdst,hg⟩,haft⟩,hneed⟩,hkind⟩:=hok;have hdst':o.dst=it.dst:=by simpa using hdst
 have hdepB:∀j,jO o j=true->on L j=true:=fun j hj=>by
  obtain⟨e,he,hb⟩:=Tk.1 hj;simp only[P3,beq_iff_eq]at hb;rw[<-hb.2];exact hdep e he hb.1
 have hwant:TV o (yielded ops a.tmps) = !it.kind.isPass:=by
  unfold TV;unfold GN at hg;cases hgd:o.guard with
  | none=>rw[hgd]at hg;dsimp only at hg⊢;rw[hg]
  | some jw =>
   obtain⟨j,want⟩:=jw;rw[hgd]at hg;dsimp only at hg⊢;rw[P3]at hg;cases hj:its[j]? with
   | none=>rw[hj]at hg;cases hg.2
   | some jt =>
    rw[hj]at hg;obtain⟨h1,h2⟩:=hg;dsimp only at h2;rw[P3]at h2;obtain⟨d,hdj⟩:=Qx.1 h2.1;have hjl:j<its.length:=(Qe.1 hj).1;have hoj:ops[j]? = some (ops[j]'(by rw[hops];exact hjl)):=Qo _;have h3:=(hA.got j jt d hj (hdepB j h1) hdj).1;have h4:yielded ops a.tmps j=match jt.out.at μ with | .bool b=>some b|_=>none:=by
     unfold yielded;rw[hoj];show(match (ops[j]'(by rw[hops];exact hjl)).dst.bind (a.tmps[·]?) with|some (.bool b)=>some b|_=>none)=_;rw[hdops j _ jt hoj hj,hdj];show(match a.tmps[d]? with|some (.bool b)=>some b|_=>none)=_;rw[h3];cases jt.out.at μ<;>rfl
    rw[h4];have h5:=h2.2;cases hout:jt.out with
    | p b x=>rw[hout]at h5;cases h5
    | s b x y=>rw[hout]at h5;cases h5
    | t b x y z=>rw[hout]at h5;cases h5
    | v x =>
     rw[hout]at h5;cases x with
     | bool b =>
      show(some b == some want)=_;dsimp only at h5;have:(b == want) = !it.kind.isPass:=by simpa using h5
      rw[<-this];cases b<;>cases want<;>rfl
     | _=>cases h5
 have hK:Known ops i its olds it.need μ a:=by
  refine⟨fun t j jt hm hj=>?_,fun t s hm hfree=>?_⟩
  ·have h1:=Qp.1 hneed (t,j) hm;simp only[P3,hj]at h1;have h2:jt.dst=some t:=by simpa using h1.2
   have h3:=(hA.got j jt t hj (hdepB j h1.1) h2).1;show a.tmps.getD t undef=_;rw[PZ,h3];rfl
  ·obtain⟨h2,h3⟩:=holds t s hm;have h4:=hA.rest t (fun j jt hj hon hdj=>by
    have h5:=Qp.1 hfree (jt,j) (by rw[Vi];exact hj);dsimp only at h5;rw[hdj]at h5;cases hoj:ops[j]? with
    | none=>rw[hoj]at h5;simp at h5
    | some oj =>
     rw[hoj]at h5;have h6:jO oj i=true:=by simpa using h5
     obtain⟨e',he',hb'⟩:=Tk.1 h6;simp only[P3,beq_iff_eq]at hb';have:=hcl j oj hoj hon e' he' hb'.1;rw[hb'.2,hun]at this;cases this)
   show a.tmps.getD t undef=_;rw[PZ,h4,h2];show s.at μ0=s.at μ;refine SV.at_congr fun b hb=>?_
   obtain⟨e,he,hal⟩:=h3 b hb;rw[hμ b e he hal]
 have hR:Reads ops i bl μ w:=fun b e hb hal hst=>by
  have:=(hW.has b e hb (by
   unfold Bl.live;rcases hal with hal|⟨o',j,ho',hal,hd⟩
   ·rw[hal];rfl
   ·rw[hal];show on L j=true;rw[ho]at ho';obtain rfl:=Qh.inj ho';exact hdepB j hd)).1
  unfold Bl.now Bl.put at this;unfold readB at hst;cases hs:e.st with
  | none=>rw[hs]at this;exact this
  | some s =>
   rw[hs]at this hst;dsimp only at hst;cases hos:ops[s]? with
   | none=>rw[hos]at hst;cases hst
   | some os =>
    rw[hos]at hst;have hns:on L s=false:=by
     cases hon:on L s with
     | false=>rfl
     | true =>
      obtain⟨e',he',hb'⟩:=Tk.1 hst;simp only[P3,beq_iff_eq]at hb';have:=hcl s os hos hon e' he' hb'.1;rw[hb'.2,hun]at this;cases this
    rw[show(Option.map (on L) (some s)).getD false=on L s from rfl,hns]at this;exact this
 have hlive:∀b,GI its bl o it b=true->∃e:Bl,bl[b]? = some e/\e.live L=true:=fun b hb=>by
  unfold GI at hb;rw[Bool.or_eq_true]at hb;rcases hb with h2|h2
  ·cases he:bl[b]? with
   | none=>rw[he]at h2;cases h2
   | some e =>
    rw[he]at h2;dsimp only at h2;refine⟨e,rfl,?_⟩;unfold Bl.live;cases hal:e.al with
    | none=>rfl
    | some j=>rw[hal]at h2;exact hdepB j h2
  ·obtain⟨x,hx,h3⟩:=List.any_eq_true.1 h2;rw[P3]at h3;cases hj:its[x.2]? with
   | none=>rw[hj]at h3;cases h3.2
   | some jt =>
    rw[hj]at h3;dsimp only at h3;rw[P3]at h3;obtain⟨d,hd2⟩:=Qx.1 h3.2.1;exact(hA.got x.2 jt d hj (hdepB x.2 h3.1) hd2).2 b (by simpa using h3.2.2)
 have hcl':∀(j:Nat) (oj:Oper),ops[j]? = some oj->on (L.setIfInBounds i true) j=true->∀e∈oj.after,RB .any e=true->on (L.setIfInBounds i true) e.on=true:=fun j oj hoj hon e he hb=>by
  rw[fB hi]at hon⊢;by_cases hij:i=j
  ·subst hij;rw[ho]at hoj;obtain rfl:o=oj:=Qh.inj hoj;rw[hdep e he hb,Ta]
  ·rw[hcl j oj hoj (by simpa[hij]using hon) e he hb,Ta]
 have hsz':(L.setIfInBounds i true).size=its.length:=by rw[Qq];exact hsz
 have hC:=hc μ a w (Inv ops its bl a0 w0 k0 X μ0 (L.setIfInBounds i true)) hK hR hW.bel;unfold wpOp;rw[ho];dsimp only;rw[hwant];cases hk:it.kind with
 | pass =>
  rw[hk]at hC hkind;simp only[uO,P3]at hkind;have hne:∀(b:Nat) (e:Bl),bl[b]? = some e->e.al≠some i/\e.st≠some i:=fun b e hb=>by simpa using Qp.1 hkind.1 e (QY hb)
  have hsame:∀(b:Nat) (e:Bl),bl[b]? = some e->e.live (L.setIfInBounds i true)=e.live L/\e.put (L.setIfInBounds i true)=e.put L:=fun b e hb =>
   ⟨by rw[eV hi,show(e.al == some i)=false by simpa using(hne b e hb).1,Rr],by rw[h9 hi,show(e.st == some i)=false by simpa using(hne b e hb).2,Rr]⟩
  show Inv ops its bl a0 w0 k0 X μ0 (L.setIfInBounds i true) (a.put o.dst undef) w;refine⟨hsz',hcl',μ,hμ,?_,hW.same hsame,fun b e hb=>by rw[(hsame b e hb).1,(hsame b e hb).2];exact hO b e hb⟩;rw[hdst'];have hout:it.out=.v undef:=hC;refine hA.put hd hi hit (fun _ _ _ _=>rfl) hin (fun _ _ b hbx=>?_) _ (fun _ _=>by rw[hout];rfl);rw[hout]at hbx;cases hbx
 | stay =>
  rw[hk]at hC hkind;simp only[uO,P3]at hkind;show o.wp P a w _ Q\/_;left;refine hC ?_;have hne:∀(b:Nat) (e:Bl),bl[b]? = some e->e.al≠some i/\e.st≠some i:=fun b e hb=>by simpa using Qp.1 hkind.1 e (QY hb)
  have hsame:∀(b:Nat) (e:Bl),bl[b]? = some e->e.live (L.setIfInBounds i true)=e.live L/\e.put (L.setIfInBounds i true)=e.put L:=fun b e hb =>
   ⟨by rw[eV hi,show(e.al == some i)=false by simpa using(hne b e hb).1,Rr],by rw[h9 hi,show(e.st == some i)=false by simpa using(hne b e hb).2,Rr]⟩
  refine⟨hsz',hcl',μ,hμ,?_,hW.same hsame,fun b e hb=>by rw[(hsame b e hb).1,(hsame b e hb).2];exact hO b e hb⟩;rw[hdst'];refine hA.put hd hi hit (fun _ _ _ _=>rfl) hin (fun _ _ b hbx=>?_) _ (fun _ _=>rfl);have h2:=hkind.2;rw[hbx]at h2;obtain⟨e,he,hl⟩:=hlive b h2;exact⟨e,he,lJ hi hl⟩
 | call =>
  rw[hk]at hC hkind;simp only[uO,P3]at hkind;show o.wp P a w _ Q\/_;left;refine hC fun w' hb'=>?_
  have hne:∀(b:Nat) (e:Bl),bl[b]? = some e->e.al≠some i/\e.st≠some i:=fun b e hb=>by simpa using Qp.1 hkind.1 e (QY hb)
  have hsame:∀(b:Nat) (e:Bl),bl[b]? = some e->e.live (L.setIfInBounds i true)=e.live L/\e.put (L.setIfInBounds i true)=e.put L:=fun b e hb =>
   ⟨by rw[eV hi,show(e.al == some i)=false by simpa using(hne b e hb).1,Rr],by rw[h9 hi,show(e.st == some i)=false by simpa using(hne b e hb).2,Rr]⟩
  refine⟨hsz',hcl',μ,hμ,?_,(hW.call hb').same hsame,fun b e hb=>by rw[(hsame b e hb).1,(hsame b e hb).2];exact hO b e hb⟩;rw[hdst'];refine hA.put hd hi hit (fun _ _ _ _=>rfl) hin (fun _ _ b hbx=>?_) _ (fun _ _=>rfl);have h2:=hkind.2;rw[hbx]at h2;obtain⟨e,he,hl⟩:=hlive b h2;exact⟨e,he,lJ hi hl⟩
 | make b =>
  rw[hk]at hC hkind;simp only[uO,P3]at hkind;obtain⟨⟨hout,hz⟩,hb0⟩:=hkind;obtain⟨e,hbe⟩:=Qx.1 hb0;have ha:e.al=some i:=(two (gR hz b e hbe)).2.2 rfl;have hstn:∀(c:Nat) (f:Bl),bl[c]? = some f->f.st≠some i:=fun c f hc=>(two (gR hz c f hc)).1
  have haln:∀(c:Nat) (f:Bl),bl[c]? = some f->c≠b->f.al≠some i:=fun c f hc hcb h=>hcb ((two (gR hz c f hc)).2.1 h)
  have hlv:e.live L=false:=by unfold Bl.live;rw[ha];exact hun
  have hpt:e.put L=false:=by
   cases hp:e.put L with
   | false=>rfl
   | true=>have:=hO b e hbe hp;rw[hlv]at this;cases this
  have hout':it.out.blk=some b:=by
   cases hoo:it.out.blk with
   | none=>rw[hoo]at hout;cases hout
   | some c =>
    rw[hoo]at hout;rw[show c=b by simpa using hout]
  show o.wp P a w _ Q\/_;left;refine hC e hbe fun k w' hm=>?_
  have hμb:∀(c:Nat) (f:Bl),bl[c]? = some f->f.live L=true->upd μ b k c=μ c:=fun c f hc hl=>by
   unfold upd;rw[if_neg];rintro rfl;rw[hbe]at hc;obtain rfl:e=f:=Qh.inj hc;rw[hlv]at hl;cases hl
  refine⟨hsz',hcl',upd μ b k,fun c f hc hal=>?_,?_,hW.make hi hbe ha haln hstn hpt hm,fun c f hc=>?_⟩
  ·rw[hμb c f hc (by unfold Bl.live;rw[hal];rfl)];exact hμ c f hc hal
  ·rw[hdst'];refine hA.put hd hi hit hμb hin (fun _ _ c hcx=>?_) _ (fun _ _=>rfl);rw[hout']at hcx;have h1:b=c:=Qh.inj hcx;subst h1;exact⟨e,hbe,by rw[eV hi,ha];simp⟩
  ·rw[h9 hi,show(f.st == some i)=false by simpa using hstn c f hc,Rr];exact fun hp=>lJ hi (hO c f hc hp)
 | put b =>
  rw[hk]at hC hkind;simp only[uO,P3]at hkind;obtain⟨⟨hdn,hz⟩,hb0⟩:=hkind;cases hbe:bl[b]? with
  | none=>rw[hbe]at hb0;cases hb0
  | some e =>
   rw[hbe]at hb0;dsimp only at hb0;have hs:e.st=some i:=(two (gR hz b e hbe)).2.2 rfl;have haln:∀(c:Nat) (f:Bl),bl[c]? = some f->f.al≠some i:=fun c f hc=>(two (gR hz c f hc)).1
   have hstn:∀(c:Nat) (f:Bl),bl[c]? = some f->c≠b->f.st≠some i:=fun c f hc hcb h=>hcb ((two (gR hz c f hc)).2.1 h)
   have hlv:e.live L=true:=by
    unfold Bl.live;cases hal:e.al with
    | none=>rfl
    | some j =>
     have h2:=hb0;rw[hal]at h2;exact hdepB j h2
   show o.wp P a w _ Q\/_;left;have hpn:e.put L=false:=by unfold Bl.put;rw[hs];exact hun
   have hnow:e.now L=e.before:=by unfold Bl.now;rw[hpn];rfl
   refine hC e hbe (hW.has b e hbe hlv).2.1 (hnow ▸ (hW.has b e hbe hlv).1) fun w' hPT=>?_
   refine⟨hsz',hcl',μ,hμ,?_,hW.put hi hbe hs hlv hPT hstn haln,fun c f hc hp=>?_⟩
   ·rw[hdst'];refine hA.put hd hi hit (fun _ _ _ _=>rfl) hin (fun d hdd c hcx=>?_) _ (fun d hdd=>rfl);cases hoo:it.out with
    | v x=>rw[hoo]at hcx;cases hcx
    | p x y=>rw[hoo]at hdn;cases hdn
    | s x y z=>rw[hoo]at hdn;cases hdn
    | t x y z u=>rw[hoo]at hdn;cases hdn
   ·rw[eV hi,show(f.al == some i)=false by simpa using haln c f hc,Rr];rw[h9 hi]at hp;by_cases hcb:c=b
    ·subst hcb;rw[hbe]at hc;obtain rfl:e=f:=Qh.inj hc;exact hlv
    ·rw[show(f.st == some i)=false by simpa using hstn c f hc hcb,Rr]at hp;exact hO c f hc hp
end RG
namespace RG
open Go Go.RowKit
variable {P:Program}{ops:Array Oper}{Q:Exit->Act->World->Prop}{w0 w:World}{k0:Nat}{X:List Nat}{its:List It}{bl:List Bl}{olds:List (Tmp × SV)}{a0:Act}{L:Array Bool}{μ μ0:Nat->Nat}
def puts(μ:Nat->Nat):List It->Act->Act
 | [],a=>a
 | it :: r,a=>puts μ r (a.put it.dst (it.out.at μ))
theorem kH(μ:Nat->Nat):∀(its:List It) (a:Act),(puts μ its a).defers=a.defers
 | [],_=>rfl
 | it :: r,a=>by
  rw[puts,kH μ r];cases it.dst<;>rfl
theorem mX(a:Act)(d:Option Tmp)(v:Value):(a.put d v).tmps.size=a.tmps.size:=by
 cases d with
 | none=>rfl
 | some d=>exact Qq ..
theorem uI(μ:Nat->Nat):∀(its:List It) (a:Act),(puts μ its a).tmps.size=a.tmps.size
 | [],_=>rfl
 | it :: r,a=>by rw[puts,uI μ r,mX]
theorem lF(a:Act){d:Option Tmp}(v:Value){t:Tmp}(h:d≠some t):(a.put d v).tmps[t]? = a.tmps[t]?:=by
 cases d with
 | none=>rfl
 | some d =>
  show(a.tmps.setIfInBounds d v)[t]? = _;rw[Ru,if_neg (fun e=>h (by rw[e]))]
theorem jG(μ:Nat->Nat):∀(its:List It) (a:Act) (t:Tmp),(∀it∈its,it.dst≠some t)->(puts μ its a).tmps[t]? = a.tmps[t]?
 | [],_,_,_=>rfl
 | it :: r,a,t,h=>by
  rw[puts,jG μ r _ t (fun x hx=>h x (Qv _ hx)),lF a _ (h it Qy)]
theorem oO(μ:Nat->Nat):∀(its:List It) (a:Act) (i:Nat) (it:It) (d:Tmp),tN its=true->its[i]? = some it->it.dst=some d->d<a.tmps.size->(puts μ its a).tmps[d]? = some (it.out.at μ)
 | [],_,i,_,_,_,h,_,_=>by simp at h
 | x :: r,a,0,it,d,hB,h,hd,hs=>by
  obtain rfl:x=it:=by simpa using h
  simp only[tN,P3,hd]at hB;rw[puts,jG μ r _ d (fun y hy=>by simpa using Qp.1 hB.1 y hy),hd];show(a.tmps.setIfInBounds d _)[d]? = _;rw[Ru,if_pos rfl,if_pos hs]
 | x :: r,a,i+1,it,d,hB,h,hd,hs=>by
  simp only[tN,P3]at hB;rw[puts];exact oO μ r _ i it d hB.2 (by simpa using h) hd (by rw[mX];exact hs)
theorem Act.ext'{a b:Act}(h1:a.tmps=b.tmps)(h2:a.defers=b.defers):a=b:=by
 cases a;cases b;subst h1;subst h2;rfl
theorem Ac.done{a:Act}(h:Ac its bl a0 L μ a)(hB:tN its=true)(hin:∀it∈its,∀d,it.dst=some d->d<a0.tmps.size)(hall:∀i,i<its.length->on L i=true):a=puts μ its a0:=by
 refine Act.ext' ?_ (by rw[kH];exact h.defers);apply Array.ext_getElem?;intro t;by_cases ht:∃(i:Nat) (it:It),its[i]? = some it/\it.dst=some t
 ·obtain⟨i,it,hi,hd⟩:=ht;rw[(h.got i it t hi (hall i (Qe.1 hi).1) hd).1,oO μ its a0 i it t hB hi hd (hin it (QY hi) t hd)]
 ·rw[h.rest t (fun i it hi _ hd=>ht ⟨i,it,hi,hd⟩),jG μ its a0 t (fun it hm hd=>?_)];obtain⟨i,hi⟩:=RZ hm;exact ht ⟨i,it,hi,hd⟩
def unl(L:Array Bool):Nat:=L.toList.countP (fun b=>!b)
theorem count_set:∀(l:List Bool) (i:Nat),l[i]? = some false->(l.set i true).countP (fun b=>!b)+1=l.countP (fun b=>!b)
 | [],i,h=>by simp at h
 | x :: r,0,h=>by
  obtain rfl:x=false:=by simpa using h
  simp
 | x :: r,i+1,h=>by
  have:=count_set r i (by simpa using h);rw[List.set_cons_succ,WN,WN];omega
theorem vJ{i:Nat}(h:L.getD i true=false):unl (L.setIfInBounds i true)+1=unl L:=by
 unfold unl;rw[Array.toList_setIfInBounds];refine count_set _ _ ?_;rw[QE];rw[PZ]at h;cases hh:L[i]? with
 | none=>rw[hh]at h;cases h
 | some b=>rw[hh]at h;rw[show b=false from h]
theorem qN(h:unl L=0)(i:Nat)(hi:i<L.size):on L i=true:=by
 have h1:=List.countP_eq_zero.1 h;have h2:=h1 L[i] (by simp);unfold on;rw[PZ,Qo hi];simpa using h2
structure Reg(P:Program)(ops:Array Oper)(Q:Exit->Act->World->Prop)(w0:World)(k0:Nat)(X:List Nat)(its:List It)(bl:List Bl)(olds:List (Tmp × SV))(a0:Act)(μ0:Nat->Nat):Prop where
 chk:allB ops its bl olds a0.tmps.size=true
 old:∀(t:Tmp) (s:SV),(t,s)∈olds->a0.tmps[t]? = some (s.at μ0)
 cert:∀(i:Nat) (o:Oper) (it:It),ops[i]? = some o->its[i]? = some it->Cert P Q w0 k0 X ops i its bl olds o it
theorem Reg.step{i:Nat}{o:Oper}{a:Act}(R:Reg P ops Q w0 k0 X its bl olds a0 μ0)(ho:ops[i]? = some o)(hun:on L i=false)(hdep:∀e∈o.after,RB .any e=true->on L e.on=true)(h:Inv ops its bl a0 w0 k0 X μ0 L a w):
 wpOp P ops Q i (Inv ops its bl a0 w0 k0 X μ0 (L.setIfInBounds i true)) a w:=by
 have hk:=R.chk;simp only[allB,P3,beq_iff_eq]at hk;obtain⟨⟨⟨⟨hsz,hd⟩,hold⟩,hin⟩,hok⟩:=hk;have hi:i<its.length:=by rw[<-hsz];exact(Qg.1 ho).1
 obtain⟨it,hit⟩:∃it,its[i]? = some it:=⟨its[i],P6 hi⟩
 have h1:=Qp.1 hok i (Rh.2 hi);rw[ho,hit]at h1;refine RG.step (olds:=olds) hd ho hit h1 (fun d hdd=>?_) (fun t s hm=>?_) (fun j oj jt hoj hjt=>?_) hsz (R.cert i o it ho hit) hun hdep h
 ·have:=Qp.1 hin it (QY hit);rw[hdd]at this;simpa using this
 ·have h2:=Qp.1 hold (t,s) hm;refine⟨R.old t s hm,fun b hbx=>?_⟩;have h3:=h2;dsimp only at h3;rw[hbx]at h3;dsimp only at h3;cases he:bl[b]? with
  | none=>rw[he]at h3;cases h3
  | some e=>rw[he]at h3;exact⟨e,rfl,by simpa using h3⟩
 ·have h4:=Qp.1 hok j (Rh.2 (Qe.1 hjt).1);rw[hoj,hjt]at h4;simp only[okB,P3]at h4;simpa using h4.1.1.1.1
theorem Reg.back{i:Nat}{o:Oper}(R:Reg P ops Q w0 k0 X its bl olds a0 μ0)(ho:ops[i]? = some o):i<its.length/\∀e∈o.after,RB .any e=true->e.on<i:=by
 have hk:=R.chk;simp only[allB,P3,beq_iff_eq]at hk;obtain⟨⟨⟨⟨hsz,hd⟩,hold⟩,hin⟩,hok⟩:=hk;have hi:i<its.length:=by rw[<-hsz];exact(Qg.1 ho).1
 have h1:=Qp.1 hok i (Rh.2 hi);rw[ho,P6 hi]at h1;simp only[okB,P3]at h1;refine⟨hi,fun e he hb=>?_⟩;have:=Array.all_eq_true'.1 h1.1.1.2 e he;simpa[hb]using this
theorem Reg.size(R:Reg P ops Q w0 k0 X its bl olds a0 μ0):ops.size=its.length:=by
 have hk:=R.chk;simp only[allB,P3,beq_iff_eq]at hk;exact hk.1.1.1.1
theorem Reg.full{a:Act}(R:Reg P ops Q w0 k0 X its bl olds a0 μ0)(h:Inv ops its bl a0 w0 k0 X μ0 L a w)(hr:R9 .any ops L=[]):∀i,i<its.length->on L i=true:=by
 intro i;induction i using Xc with
 | ind i ih =>
  intro hi;have ho:ops[i]? = some (ops[i]'(by rw[R.size];exact hi)):=Qo _;cases hon:on L i with
  | true=>rfl
  | false =>
   have:i∈R9 .any ops L:=mem_ready.2 ⟨?_,_,ho,fun e he hb=>?_⟩
   ·rw[hr]at this;cases this
   ·unfold on at hon;rw[PZ,Qo (by rw[h.size];exact hi)]at hon⊢;exact hon
   ·have hlt:=(R.back ho).2 e he hb;exact ih e.on hlt (Nat.lt_trans hlt hi)
def ad(ks:List Nat)(b:Nat):Nat:=ks.getD b 0
structure St(w0:World)(k0:Nat)(X:List Nat)(cs:List (List Value))(ks:List Nat)(w:World):Prop where
 bel:BelX k0 X w0 w
 le:k0<=w.heap.size
 len:ks.length=cs.length
 has:∀(b:Nat) (c:List Value),cs[b]? = some c->w.rangeAt (ad ks b) 0 c/\w.there (ad ks b) 0 c.length/\ad ks b<w.heap.size/\(k0<=ad ks b\/ad ks b∈X)
 inj:∀(b c:Nat),b<cs.length->c<cs.length->b≠c->ad ks b≠ad ks c
theorem St.drew{cs:List (List Value)}{ks:List Nat}(h:St w0 k0 X cs ks w):St w0 k0 X cs ks w.drew:=⟨h.bel.drew,h.le,h.len,h.has,h.inj⟩
def Bl.fin(e:Bl):List Value:=if e.st.isSome=true then e.after else e.before
def jY(bl:List Bl)(n:Nat):Bool:=bl.zipIdx.all (fun x=>x.1.al.isNone == decide (x.2<n)) && decide (n<=bl.length)
theorem uA{ops:Array Oper}{cs:List (List Value)}{ks:List Nat}(hS:St w0 k0 X cs ks w)(hB:jY bl cs.length=true)(hcs:(bl.map (·.before)).take cs.length=cs):
 Inv ops its bl a0 w0 k0 X (ad ks) (PX its.length false) a0 w:=by
 simp only[jY,P3]at hB;have hoff:∀i,on (PX its.length false) i=false:=fun i=>by
  unfold on;rw[PZ,Tf];by_cases h:i<its.length
  ·rw[if_pos h];rfl
  ·rw[if_neg h];rfl
 have hlive:∀(b:Nat) (e:Bl),bl[b]? = some e->e.live (PX its.length false)=true->b<cs.length:=fun b e hb hl=>by
  have h1:=gR hB.1 b e hb;unfold Bl.live at hl;cases ha:e.al with
  | none=>simpa[ha]using h1
  | some j=>rw[ha]at hl;have:on (PX its.length false) j=true:=hl;rw[hoff]at this;cases this
 have hput:∀e:Bl,e.put (PX its.length false)=false:=fun e=>by
  unfold Bl.put;cases e.st with
  | none=>rfl
  | some j=>exact hoff j
 have hget:∀(b:Nat) (e:Bl),bl[b]? = some e->b<cs.length->cs[b]? = some e.before:=fun b e hb hlt=>by
  rw[<-hcs,RA,if_pos hlt,QX,hb];rfl
 refine⟨Array.size_replicate,(fun i o _ h=>by rw[hoff]at h;cases h),ad ks,fun _ _ _ _=>rfl,⟨rfl,rfl,fun i it d hi ho=>?_,fun _ _=>rfl⟩,⟨hS.bel,hS.le,fun b e hb hl=>?_,fun b c e f hb hc he hf hbc=>hS.inj b c (hlive b e hb he) (hlive c f hc hf) hbc⟩,fun b e hb hp=>?_⟩
 ·rw[hoff]at ho;cases ho
 ·unfold Bl.now;rw[hput e];exact hS.has b e.before (hget b e hb (hlive b e hb hl))
 ·rw[hput e]at hp;cases hp
theorem Inv.done{a:Act}{cs:List (List Value)}{ks:List Nat}(R:Reg P ops Q w0 k0 X its bl olds a0 (ad ks))(h:Inv ops its bl a0 w0 k0 X (ad ks) L a w)(hlen:ks.length=cs.length)(hB:jY bl cs.length=true)(hall:∀i,i<its.length->on L i=true)
 (hst:∀e∈bl,∀j,e.al=some j\/e.st=some j->j<its.length) (hlenb:∀e∈bl,e.fin.length=e.before.length)
 (hp:∀(new:List Nat) (w':World),new.length=bl.length-cs.length->St w0 k0 X (bl.map Bl.fin) (ks++new) w'->Q .normal (puts (ad (ks++new)) its a0) w'):Q .normal a w:=by
 obtain⟨hsz,-,μ,hμ,hA,hW,hO⟩:=h;have hk:=R.chk;simp only[allB,P3,beq_iff_eq]at hk;obtain⟨⟨⟨⟨hsz2,hd⟩,hold⟩,hin⟩,hok⟩:=hk;have hB':=hB;simp only[jY,P3,decide_eq_true_eq]at hB;have hlive:∀(b:Nat) (e:Bl),bl[b]? = some e->e.live L=true:=fun b e hb=>by
  unfold Bl.live;cases ha:e.al with
  | none=>rfl
  | some j=>exact hall j (hst e (QY hb) j (Ql ha))
 have hnow:∀(b:Nat) (e:Bl),bl[b]? = some e->e.now L=e.fin:=fun b e hb=>by
  unfold Bl.now Bl.put Bl.fin;cases ha:e.st with
  | none=>rfl
  | some j =>
   have:=hall j (hst e (QY hb) j (Qc ha));simp[this]
 have hnew:∀b,b<bl.length->ad (ks++(QJ (bl.length-cs.length)).map (fun j=>μ (cs.length+j))) b=μ b:=fun b hb=>by
  unfold ad;rw[Rl];by_cases hlt:b<cs.length
  ·rw[List.getElem?_append_left (by rw[hlen];exact hlt)];obtain⟨e,he⟩:∃e,bl[b]? = some e:=⟨bl[b],P6 hb⟩
   have h1:=gR hB.1 b e he;have h2:e.al=none:=by simpa[hlt]using h1
   rw[hμ b e he h2];unfold ad;rw[Rl]
  ·rw[List.getElem?_append_right (by rw[hlen];omega),QX,hlen,List.getElem?_range (by omega)];show μ (cs.length+(b-cs.length))=μ b
   congr 1
   omega
 have hact:=hA.done hd (fun it hm d hdd=>by
  have:=Qp.1 hin it hm;rw[hdd]at this;simpa using this) hall
 have hpe:puts μ its a0=puts (ad (ks++(QJ (bl.length-cs.length)).map (fun j=>μ (cs.length+j)))) its a0:=by
  have key:∀it∈its,∀d,it.dst=some d->it.out.at μ=it.out.at (ad (ks++(QJ (bl.length-cs.length)).map (fun j=>μ (cs.length+j)))):=fun it hm d hdd=>by
   obtain⟨i,hi⟩:=RZ hm;have hg:=(hA.got i it d hi (hall i (Qe.1 hi).1) hdd).2;refine SV.at_congr fun b hb=>?_
   obtain⟨e,he,-⟩:=hg b hb;rw[hnew b (Qe.1 he).1]
  clear hA hact hold hok hin hd hsz2 hsz R hall hst hp;generalize a0=a1;induction its generalizing a1 with
  | nil=>rfl
  | cons it r ih =>
   rw[puts,puts];have h1:a1.put it.dst (it.out.at μ)=a1.put it.dst (it.out.at (ad (ks++(QJ (bl.length-cs.length)).map (fun j=>μ (cs.length+j))))):=by
    cases hdd:it.dst with
    | none=>rfl
    | some d=>rw[key it Qy d hdd]
   rw[h1];exact ih (fun x hx=>key x (Qv _ hx)) _
 rw[hact,hpe];refine hp _ w (by simp) ⟨hW.bel,hW.le,?_,fun b c hc=>?_,fun b c hb hc hbc=>?_⟩
 ·simp only[List.length_append,Qb,List.length_range];omega
 ·rw[QX]at hc;cases he:bl[b]? with
  | none=>rw[he]at hc;cases hc
  | some e =>
   rw[he]at hc;obtain rfl:e.fin=c:=Qh.inj hc;have h1:=hW.has b e he (hlive b e he);rw[hnow b e he]at h1;rw[hnew b (Qe.1 he).1,hlenb e (QY he)];exact h1
 ·rw[Qb]at hb hc;rw[hnew b hb,hnew c hc];exact hW.inj b c _ _ (P6 hb) (P6 hc) (hlive b _ (P6 hb)) (hlive c _ (P6 hc)) hbc
theorem region_draws'{id:Nat}{cs:List (List Value)}{ks:List Nat}(hm:P.follows .mixedOrders=true)(hS:St w0 k0 X cs ks w)(R:Reg P ops Q w0 k0 X its bl olds a0 (ad ks))(hB:jY bl cs.length=true)(hcs:(bl.map (·.before)).take cs.length=cs)(hE:(∀e∈bl,∀j,e.al=some j\/e.st=some j->j<its.length)/\∀e∈bl,e.fin.length=e.before.length)
 (hp:∀(new:List Nat) (w':World),new.length=bl.length-cs.length->St w0 k0 X (bl.map Bl.fin) (ks++new) w'->Q .normal (puts (ad (ks++new)) its a0) w'):(Sq id ops true).wp P Q a0 w:=by
 obtain⟨hst,hlenb⟩:=hE;have key:∀(fuel:Nat) (L:Array Bool) (a:Act) (w:World),unl L=fuel->Inv ops its bl a0 w0 k0 X (ad ks) L a w->wpAny P .any ops Q fuel L a w:=by
  intro fuel;induction fuel with
  | zero =>
   intro L a w hu hI;have hall:∀i,i<its.length->on L i=true:=fun i hi=>qN hu i (by rw[hI.size];exact hi)
   refine⟨?_,hI.done R hS.len hB hall hst hlenb hp⟩;apply List.eq_nil_iff_forall_not_mem.2;intro i hi;obtain⟨h1,o,ho,-⟩:=mem_ready.1 hi;have h2:=hall i (R.back ho).1;unfold on at h2;rw[PZ]at h1 h2;cases hh:L[i]? with
   | none=>rw[hh]at h1;cases h1
   | some b=>rw[hh]at h1 h2;rw[show b=false from h1]at h2;cases h2
  | succ fuel ih =>
   intro L a w hu hI;refine⟨fun hr=>hI.done R hS.len hB (R.full hI hr) hst hlenb hp,fun i hi=>?_⟩;obtain⟨h1,o,ho,hdep⟩:=mem_ready.1 hi;have hoff:on L i=false:=by
    unfold on;rw[PZ]at h1⊢;cases hh:L[i]? with
    | none=>rfl
    | some b=>rw[hh]at h1;exact h1
   exact wpOp_mono (fun a' w' hI'=>ih _ a' w' (by have:=vJ h1;omega) hI') (R.step ho hoff hdep hI)
 refine wp_region_any hm (key _ _ a0 _ ?_ ?_)
 ·unfold unl;rw[Array.toList_replicate,List.countP_replicate];simp
 ·rw[R.size];exact uA hS.drew hB hcs
theorem region_text'{id:Nat}{cs:List (List Value)}{ks:List Nat}(hS:St w0 k0 X cs ks w)(R:Reg P ops Q w0 k0 X its bl olds a0 (ad ks))(hB:jY bl cs.length=true)(hcs:(bl.map (·.before)).take cs.length=cs)(hE:(∀e∈bl,∀j,e.al=some j\/e.st=some j->j<its.length)/\∀e∈bl,e.fin.length=e.before.length)
 (hp:∀(new:List Nat) (w':World),new.length=bl.length-cs.length->St w0 k0 X (bl.map Bl.fin) (ks++new) w'->Q .normal (puts (ad (ks++new)) its a0) w'):(Sq id ops false).wp P Q a0 w:=by
 obtain⟨hst,hlenb⟩:=hE;have key:∀(m i:Nat) (L:Array Bool) (a:Act) (w:World),i+m=its.length->(∀j,j<its.length->on L j=decide (j<i))->Inv ops its bl a0 w0 k0 X (ad ks) L a w->wpOps P ops Q (List.range' i m) a w:=by
  intro m;induction m with
  | zero =>
   intro i L a w hi hL hI;exact hI.done R hS.len hB (fun j hj=>by rw[hL j hj];simp;omega) hst hlenb hp
  | succ m ih =>
   intro i L a w hi hL hI;rw[List.range'_succ,wpOps_cons];have ho:ops[i]? = some (ops[i]'(by rw[R.size];omega)):=Qo _;refine wpOp_mono (fun a' w' hI'=>ih (i+1) _ a' w' (by omega) (fun j hj=>?_) hI') (R.step ho (by rw[hL i (by omega)];simp) (fun e he hb=>?_) hI)
   ·rw[fB (by rw[hI.size];omega),hL j hj];by_cases h1:j<i
    ·simp[h1];omega
    ·by_cases h2:i=j
     ·subst h2;simp
     ·have:¬j<i+1:=by omega
      simp[h1,h2,this]
   ·have hlt:=(R.back ho).2 e he hb;rw[hL e.on (by omega)];simpa using hlt
 refine wp_region ?_;rw[List.range_eq_range',R.size];refine key its.length 0 (PX its.length false) a0 w (by omega) (fun j hj=>?_) (uA hS hB hcs);unfold on;rw[PZ,Tf,if_pos hj];simp
end RG
namespace RG
open Go Go.RowKit
variable {P:Program}{Q:Exit->Act->World->Prop}{its:List It}{bl:List Bl}{olds:List (Tmp × SV)}{ops:Array Oper}{i:Nat}{o:Oper}{it:It}{w0:World}{k0:Nat}{X:List Nat}
theorem bS(hk:it.kind=.stay)(hrun:∀(μ:Nat->Nat) (a:Act) (w:World),Known ops i its olds it.need μ a->BelX k0 X w0 w->(execOp a.eval o).run P w=.ok (.value (it.out.at μ)) w):Cert P Q w0 k0 X ops i its bl olds o it:=by
 intro μ a w K hK _ hbel;rw[hk];intro h;unfold Sf;rw[hrun μ a w hK hbel];exact h
theorem lM(hk:it.kind=.stay)(b off:Nat)(e:Bl)(hb:bl[b]? = some e)(hal:e.al=none)(hst:readB ops i e=true)(T:TypeId)(t:Tmp)(ho:o.op=.load T (.tmp t))(cs:List Value)(hout:it.out=.v (.agg cs.toArray))
 (hx:∀(μ:Nat->Nat) (a:Act),Known ops i its olds it.need μ a->a.eval (.tmp t)=(SV.p b off).at μ) (hsub:(e.before.drop off).take cs.length=cs)
 (hu:(P.underlying T).map (·.isRow)=some true) (hi:(P.info? T).map (·.size)=some cs.length):Cert P Q w0 k0 X ops i its bl olds o it:=by
 intro μ a w K hK hR _;rw[hk];intro h;rw[hout]at h;obtain⟨d,hu,hd⟩:=PV.1 hu;refine wp_load_mid T (.tmp t) ho (μ b) off (hx μ a hK) cs d (fun j v hj=>?_) hu hd hi h;have h1:=hR b e hb (Ql hal) hst (off+j) v ?_
 ·rw[PU]at h1;exact h1
 ·rw[<-hsub]at hj;have hlt:j<cs.length:=by
   have h2:=(Qe.1 hj).1;rw[hsub]at h2;exact h2
  rw[RA,if_pos hlt,List.getElem?_drop]at hj;exact hj
theorem oZ(hk:it.kind=.call)(f:FuncId)(args:Array Value)(v:Value)(hout:it.out=.v v)(hrun:∀(μ:Nat->Nat) (a:Act) (w:World),Known ops i its olds it.need μ a->BelX k0 X w0 w->(execOp a.eval o).run P w=.ok (.enter f args) w)
 (hc:∀w,BelX k0 X w0 w->Calls P f args w (Ret fun e w'=>Below w.heap.size w w'/\e=v)):Cert P Q w0 k0 X ops i its bl olds o it:=by
 intro μ a w K hK _ hbel;rw[hk];intro h;rw[hout]at h;unfold Sf;rw[hrun μ a w hK hbel,Oper.upon_enter];refine(hc w hbel).mono ?_;rintro e w' ⟨v',rfl,hb,rfl⟩;exact h w' hb
theorem uU(b:Nat)(hk:it.kind=.make b)(e:Bl)(hb:bl[b]? = some e)(t:TypeId)(hrun:∀(μ:Nat->Nat) (a:Act) (w:World),Known ops i its olds it.need μ a->BelX k0 X w0 w->(execOp a.eval o).run P w=.ok (.value (it.out.at (upd μ b w.heap.size))) (w.alloc (.cells e.before.toArray t))):Cert P Q w0 k0 X ops i its bl olds o it:=by
 intro μ a w K hK _ hbel;rw[hk];intro e' hb' h;rw[hb]at hb';obtain rfl:e=e':=Qh.inj hb';unfold Sf;rw[hrun μ a w hK hbel];exact h _ _ (Made.alloc w e.before t)
theorem Hr(b:Nat)(hk:it.kind=.put b)(e:Bl)(hb:bl[b]? = some e)(T:TypeId)(x y:Operand)(ho:o.op=.store T x y)(hdn:o.dst=none)(hlen:e.after.length=e.before.length)
 (hx:∀(μ:Nat->Nat) (a:Act),Known ops i its olds it.need μ a->a.eval x=(SV.p b 0).at μ) (hy:∀(μ:Nat->Nat) (a:Act),Known ops i its olds it.need μ a->a.eval y=.agg e.after.toArray)
 (hi:(P.info? T).map (·.size)=some e.after.length) (h1:e.after.all (·.oneCell')=true):Cert P Q w0 k0 X ops i its bl olds o it:=by
 intro μ a w K hK _ _;rw[hk];intro e' hb' ht hr h;rw[hb]at hb';obtain rfl:e=e':=Qh.inj hb';have hPT:=PutTo.whole ht hr hlen;refine wp_store_mid T x y ho (μ b) 0 e.after.toArray (hx μ a hK) (hy μ a hK) ?_ ?_ ?_ ?_
 ·rw[QB,hlen];exact ht
 ·rw[QB];exact hi
 ·exact all_oneCell_toArray (fun v hv=>Qp.1 h1 v hv)
 ·have:=h _ hPT;rw[hdn]at this⊢;exact this
theorem Known.op{need:List (Tmp × Nat)}{μ:Nat->Nat}{a:Act}(h:Known ops i its olds need μ a)(t:Tmp)(j:Nat)(hm:(t,j)∈need){jt:It}(hj:its[j]? = some jt):a.eval (.tmp t)=jt.out.at μ:=h.1 t j jt hm hj
theorem Known.old{need:List (Tmp × Nat)}{μ:Nat->Nat}{a:Act}(h:Known ops i its olds need μ a)(t:Tmp)(s:SV)(hm:(t,s)∈olds)(hf:C9 ops its i t=true):a.eval (.tmp t)=s.at μ:=h.2 t s hm hf
theorem len1{l:List Nat}(h:l.length=1):∃k,l=[k]:=List.length_eq_one_iff.1 h
end RG
namespace RG
open Go Go.RowKit
variable {P:Program}{ops:Array Oper}{Q:Exit->Act->World->Prop}{w0 w:World}{k0:Nat}{X:List Nat}{its:List It}{bl:List Bl}{olds:List (Tmp × SV)}{a0:Act}{L:Array Bool}{μ μ0:Nat->Nat}{i:Nat}{o:Oper}{it:It}
def Certs(P:Program)(Q:Exit->Act->World->Prop)(w0:World)(k0:Nat)(X:List Nat)(ops:Array Oper)(its:List It)(bl:List Bl)(olds:List (Tmp × SV)):Nat->List Oper->List It->Prop
 | _,[],_=>True
 | _,_ :: _,[]=>False
 | i,o :: os,it :: is=>Cert P Q w0 k0 X ops i its bl olds o it/\Certs P Q w0 k0 X ops its bl olds (i+1) os is
theorem Certs.get:∀ {os:List Oper}{is:List It}{n:Nat},Certs P Q w0 k0 X ops its bl olds n os is->∀(i:Nat) (o:Oper) (it:It),os[i]? = some o->is[i]? = some it->Cert P Q w0 k0 X ops (n+i) its bl olds o it
 | [],_,_,_,i,_,_,h,_=>by simp at h
 | _ :: _,[],_,h,_,_,_,_,_=>h.elim
 | o :: os,it :: is,_,h,0,o',it',ho,hi=>by
  obtain rfl:o=o':=by simpa using ho
  obtain rfl:it=it':=by simpa using hi
  exact h.1
 | o :: os,it :: is,n,h,i+1,o',it',ho,hi=>by
  have:=Certs.get h.2 i o' it' (by simpa using ho) (by simpa using hi);rw[show n+(i+1)=n+1+i by omega];exact this
def Olds(a0:Act)(μ0:Nat->Nat):List (Tmp × SV)->Prop
 | []=>True
 | x :: r=>a0.tmps[x.1]? = some (x.2.at μ0)/\Olds a0 μ0 r
theorem Olds.get:∀ {l:List (Tmp × SV)},Olds a0 μ0 l->∀(t:Tmp) (s:SV),(t,s)∈l->a0.tmps[t]? = some (s.at μ0)
 | [],_,_,_,h=>by cases h
 | x :: r,h,t,s,hm=>by
  rcases QU.1 hm with e|e
  ·subst e;exact h.1
  ·exact Olds.get h.2 t s e
theorem Reg.mk'(chk:allB ops its bl olds a0.tmps.size=true)(old:Olds a0 μ0 olds)(cert:Certs P Q w0 k0 X ops its bl olds 0 ops.toList its):Reg P ops Q w0 k0 X its bl olds a0 μ0:=
 ⟨chk,fun t s hm=>old.get t s hm,fun i o it ho hi=>by have:=cert.get i o it (by rw[QE];exact ho) hi;rwa[PU]at this⟩
theorem sS(hk:it.kind=.call)(f:FuncId)(t1:Tmp)(v1 v:Value)(hout:it.out=.v v)(hrun:∀(a:Act) (w:World),(execOp a.eval o).run P w=.ok (.enter f #[a.eval (.tmp t1)]) w)
 (h1:∀(μ:Nat->Nat) (a:Act),Known ops i its olds it.need μ a->a.eval (.tmp t1)=v1) (hc:∀w,Calls P f #[v1] w (Ret fun e w'=>Below w.heap.size w w'/\e=v)):Cert P Q w0 k0 X ops i its bl olds o it:=
 oZ hk f #[v1] v hout (fun μ a w hK _=>by rw[hrun,h1 μ a hK]) (fun w _=>hc w)
theorem J6{b k:Nat}(hout:it.out=.p b 0):it.out.at (upd μ b k)=.pointer (some ⟨k,0,none⟩):=by
 rw[hout];show Xm (some ⟨upd μ b k b,0,none⟩)=_;unfold upd;rw[if_pos rfl]
theorem mE(b:Nat)(hk:it.kind=.make b)(hout:it.out=.p b 0)(e:Bl)(hb:bl[b]? = some e)(T:TypeId)(ho:o.op=.alloc T)(hz:∀w:World,(VY T true (.tuple #[])).run P w=.ok (.pointer (some ⟨w.heap.size,0,none⟩)) (w.alloc (.cells e.before.toArray T))):Cert P Q w0 k0 X ops i its bl olds o it:=by
 refine uU b hk e hb T fun μ a w hK _=>?_
 unfold execOp;rw[ho];rw[J6 hout];show((VY T true (.tuple #[])) >>= fun v=>pure (Next.value v)).run P w=_;rw[Qi,hz];rfl
theorem aC{fn:Func}{a:Act}{cs:List (List Value)}{ks:List Nat}(hS:St w0 k0 X cs ks w)(t:Tmp)(T:TypeId)(hr:fn.results=#[.cell t T])(b:Nat)(c:List Value)(hc:cs[b]? = some c)(ht:a.tmps[t]? = some (.pointer (some ⟨ad ks b,0,none⟩)))
 (hu:(P.underlying T).map (·.isRow)=some true) (hi:(P.info? T).map (·.size)=some c.length):(results fn a.tmps).run P w=.ok (.agg c.toArray) w:=by
 obtain⟨d,hu,hd⟩:=PV.1 hu;have h1:=run_loadVar_mid (P:=P) w (ad ks b) 0 T c d (hS.has b c hc).1 hu hd hi;have h2:a.tmps.getD t undef=.pointer (some ⟨ad ks b,0,none⟩):=by rw[PZ,ht];rfl
 unfold results;rw[hr];simp only[Array.mapM_eq_mapM_toList,List.mapM_cons,List.mapM_nil,h2,asAddr];simp[Qi,h1]
theorem St.begin(w:World):St w w.heap.size [] [] [] w:=⟨BelX.refl _ _ _,PQ _,rfl,fun b c h=>by simp at h,fun b c h=>by simp at h⟩
end RG
namespace NT
def IsP(n:Nat):Prop:=2<=n/\∀m,m ∣ n->m=1\/m=n
theorem IsP.cop{p k:Nat}(h:IsP p)(h0:0<k)(hk:k<p):Vh p k:=by
 unfold Vh;rcases h.2 _ (Vd p k)with e|e
 ·exact e
 ·have:=Td h0 (U2 p k);omega
theorem IsP.cop_of{p k:Nat}(h:IsP p)(hk:¬p ∣ k):Vh p k:=by
 unfold Vh;rcases h.2 _ (Vd p k)with e|e
 ·exact e
 ·exact absurd (e ▸ U2 p k) hk
theorem IsP.euclid{p a b:Nat}(h:IsP p)(hd:p ∣ a*b):p ∣ a\/p ∣ b:=by
 by_cases ha:p ∣ a
 ·exact Ql ha
 ·exact Qc ((h.cop_of ha).dvd_of_dvd_mul_left hd)
/-! the binomials -/
def ch: Nat -> Nat -> Nat
  | _, 0 => 1
  | 0, _ + 1 => 0
  | n + 1, k + 1 => ch n k + ch n (k + 1)
theorem nI(n:Nat):ch n 0=1:=by cases n<;>rfl
theorem nJ:∀(n k:Nat),n<k->ch n k=0
 | 0,k+1,_=>rfl
 | n+1,k+1,h=>by
  rw[ch,nJ n k (by omega),nJ n (k+1) (by omega)]
theorem Dk:∀(n:Nat),ch n n=1
 | 0=>rfl
 | n+1=>by rw[ch,Dk n,nJ n (n+1) (by omega)]
theorem qI:∀(n k:Nat),(k+1)*ch (n+1) (k+1)=(n+1)*ch n k
 | 0,0=>rfl
 | 0,k+1=>by simp[ch]
 | n+1,0=>by
  have h:=qI n 0;have e:ch (n+1+1) (0+1)=ch (n+1) 0+ch (n+1) (0+1):=rfl;rw[nI]at h;rw[e,nI];omega
 | n+1,k+1=>by
  have h1:=qI n k;have h2:=qI n (k+1);have e:ch (n+1+1) (k+1+1)=ch (n+1) (k+1)+ch (n+1) (k+1+1):=rfl;have e3:ch (n+1) (k+1)=ch n k+ch n (k+1):=rfl;rw[e,Sw,h2];have:(k+1+1)*ch (n+1) (k+1)=(n+1)*ch n k+ch (n+1) (k+1):=by
   rw[<-h1,SK (k+1) 1,TD]
  rw[this,e3,SK (n+1) 1,TD,Sw];omega
def sumTo:Nat->(Nat->Nat)->Nat
 | 0,_=>0
 | n+1,f=>sumTo n f+f n
theorem sumTo_congr(f g:Nat->Nat):∀n,(∀k,k<n->f k=g k)->sumTo n f=sumTo n g
 | 0,_=>rfl
 | n+1,h=>by
  rw[sumTo,sumTo,sumTo_congr f g n (fun k hk=>h k (by omega)),h n (by omega)]
theorem tX(f g:Nat->Nat):∀n,sumTo n (fun k=>f k+g k)=sumTo n f+sumTo n g
 | 0=>rfl
 | n+1=>by simp only[sumTo];rw[tX f g n];omega
theorem tV(a:Nat)(f:Nat->Nat):∀n,sumTo n (fun k=>a*f k)=a*sumTo n f
 | 0=>rfl
 | n+1=>by simp only[sumTo];rw[tV a f n,Sw]
theorem gV(f:Nat->Nat):∀n,sumTo (n+1) f=f 0+sumTo n (fun k=>f (k+1))
 | 0=>by simp[sumTo]
 | n+1=>by rw[sumTo,gV f n];simp only[sumTo];omega
theorem tW(p:Nat)(f:Nat->Nat):∀n,(∀k,k<n->p ∣ f k)->p ∣ sumTo n f
 | 0,_=>Nat.dvd_zero p
 | n+1,h=>Nat.dvd_add (tW p f n (fun k hk=>h k (by omega))) (h n (by omega))
theorem KJ(a:Nat):∀n,(a+1)^n=sumTo (n+1) (fun k=>ch n k*a^k)
 | 0=>by simp[sumTo,ch]
 | n+1=>by
  rw[Rk,KJ a n,Sw,Se];rw[gV (fun k=>ch (n+1) k*a^k) (n+1)];have e:sumTo (n+1) (fun k=>ch (n+1) (k+1)*a^(k+1))
   = sumTo (n+1) (fun k=>a*(ch n k*a^k))+sumTo (n+1) (fun k=>ch n (k+1)*a^(k+1)):=by
   rw[<-tX];refine sumTo_congr _ _ _ ?_;intro k _;show(ch n k+ch n (k+1))*a^(k+1)=_;rw[SK,Rk];have:ch n k*(a^k*a)=a*(ch n k*a^k):=by
    rw[Qr a,RH]
   rw[this]
  rw[e,tV];have e2:sumTo (n+1) (fun k=>ch n k*a^k)
   = ch n 0*a^0+sumTo n (fun k=>ch n (k+1)*a^(k+1)):=gV (fun k=>ch n k*a^k) n
  have e3:sumTo (n+1) (fun k=>ch n (k+1)*a^(k+1))=sumTo n (fun k=>ch n (k+1)*a^(k+1)):=by
   rw[sumTo,nJ n (n+1) (by omega),Xy,RD]
  have e4:ch (n+1) 0*a^0=ch n 0*a^0:=by rw[nI,nI]
  rw[e3,e4,Qr _ a];omega
theorem IsP.ch_dvd{p k:Nat}(h:IsP p)(hk:k+1<p):p ∣ ch p (k+1):=by
 obtain⟨n,rfl⟩:∃n,p=n+1:=⟨p-1,by have:=h.1;omega⟩
 have e:=qI n k;have hd:(n+1) ∣ (k+1)*ch (n+1) (k+1):=e ▸ Nat.dvd_mul_right _ _;exact(h.cop (by omega) hk).dvd_of_dvd_mul_left hd
theorem IsP.frob{p:Nat}(h:IsP p)(a:Nat):(a+1)^p%p=(a^p+1)%p:=by
 obtain⟨n,rfl⟩:∃n,p=n+1:=⟨p-1,by have:=h.1;omega⟩
 rw[KJ,sumTo,gV,Dk,nI];obtain⟨c,hc⟩:(n+1) ∣ sumTo n (fun k=>ch (n+1) (k+1)*a^(k+1)):=
  tW _ _ _ (fun k hk=>Nat.dvd_mul_right_of_dvd (h.ch_dvd (by omega)) _)
 rw[hc];have:1*a^0+(n+1)*c+1*a^(n+1)=(a^(n+1)+1)+(n+1)*c:=by
  rw[SX];omega
 rw[this,TX]
theorem IsP.fermat{p:Nat}(h:IsP p):∀a,a^p%p=a%p
 | 0=>by
  rw[Xx (by have:=h.1;omega)]
 | a+1=>by
  rw[h.frob,T9,h.fermat a,<-T9]
theorem IsP.cancel{p a x y:Nat}(h:IsP p)(ha:¬p ∣ a)(e:a*x%p=a*y%p):x%p=y%p:=by
 have key:∀x y,y<=x->a*x%p=a*y%p->x%p=y%p:=by
  intro x y hle e;have h1:p ∣ a*x-a*y:=SN (Nat.sub_mod_eq_zero_of_mod_eq e);rw[<-Nat.mul_sub]at h1;obtain⟨c,hc⟩:=(h.cop_of ha).dvd_of_dvd_mul_left h1;have:x=y+p*c:=by omega
  rw[this,TX]
 rcases XA y x with hle|hle
 ·exact key x y hle e
 ·exact(key y x hle e.symm).symm
theorem IsP.fermat1{p:Nat}(h:IsP p)(a:Nat)(ha:¬p ∣ a):a^(p-1)%p=1:=by
 obtain⟨n,rfl⟩:∃n,p=n+1:=⟨p-1,by have:=h.1;omega⟩
 have e:=h.fermat a;rw[Rk,Qr]at e;have:=h.cancel ha (x:=a^n) (y:=1) (by rw[e,Se]);rw[Nat.add_sub_cancel,this,Qf h.1]
/-! powers that are 1 -/
theorem Jl(b r : Nat)(hr : 1<r)(x y : Nat): b^x%r=1 -> b^y%r=1 -> b^(WG x y)%r=1:=by
  induction x, y using WG.induction with
  | H0 n => intro _ h; rw[Nat.gcd_zero_left]; exact h
  | H1 m n hm ih =>
    intro h1 h2;rw[Nat.gcd_rec];refine ih ?_ h1;have e : b^n=(b^m)^(n/m) * b^(n%m):=by
      rw[<-T0, <-RI, UF]
    rw[e, RP, V6, h1, Nat.one_pow, Qf hr, TD, V7]at h2;exact h2
theorem nH:∀n,2<=n->∃r,IsP r/\r ∣ n/\(IsP n\/r*r<=n):=by
 intro n;induction n using Xc with
 | _ n ih =>
  intro hn;by_cases hp:IsP n
  ·exact⟨n,hp,Nat.dvd_refl n,Ql hp⟩
  ·have:∃m,m ∣ n/\m≠1/\m≠n:=by
    refine Rc fun hc=>hp ⟨hn,fun m hm=>?_⟩
    refine Rc fun hc2=>hc ⟨m,hm,fun e=>hc2 (Ql e),fun e=>hc2 (Qc e)⟩
   obtain⟨m,⟨k,hk⟩,h1,h2⟩:=this;have hm0:m≠0:=by intro e;rw[e,Xy]at hk;omega
   have hk0:k≠0:=by intro e;rw[e,Ul]at hk;omega
   have hk1:k≠1:=by intro e;rw[e,Se]at hk;omega
   have hmn:m<n:=by
    have:=Td (by omega) (⟨k,hk⟩:m ∣ n);omega
   have hkn:k<n:=by
    have:=Nat.mul_le_mul_right k (show 2<=m by omega);omega
   rcases XA m k with hle|hle
   ·obtain⟨r,hr,hrd,_⟩:=ih m hmn (by omega);have hrm:=Td (by omega) hrd;refine⟨r,hr,UP hrd ⟨k,hk⟩,Qc ?_⟩;rw[hk];exact RJ hrm (Qn hrm hle)
   ·obtain⟨r,hr,hrd,_⟩:=ih k hkn (by omega);have hrm:=Td (by omega) hrd;refine⟨r,hr,UP hrd ⟨m,by rw[hk,Qr]⟩,Qc ?_⟩;rw[hk];exact RJ (Qn hrm hle) hrm
/-! what of a prime of n - 1 goes into the primes of n -/
theorem part{n q a r : Nat}(hq : IsP q)(hr : IsP r)(hrn : r ∣ n)(hn : 1<n)
    (h1 : a^(n-1)%n=1) (hd : q ∣ n-1) (h2 : WG (a^((n-1)/q)%n + (n-1)) n=1) : q ∣ r-1:=by
  have hr2:=hr.1;have toR : ∀x y, x%n=y%n -> x%r=y%r:=by
    intro x y e;rw[<-US x hrn, e, US y hrn]
  have hm : a^(n-1)%r=1:=by
    have:=toR (a^(n-1)) 1 (by rw[h1, Qf hn]);rw[this, Qf hr2]
  have hra : ¬r ∣ a:=by
    intro hc;have hz : a^(n-1)%r=0:=Ts (UP hc (by
      have : a^1 ∣ a^(n-1):=Xd a (by omega);rwa[TZ]at this))
    omega
  have hb : (a^((n-1)/q))^q%r=1:=by
    rw[<-T0, Nat.div_mul_cancel hd]; exact hm
  have hbr : ¬r ∣ a^((n-1)/q):=by
    intro hc;have : r ∣ (a^((n-1)/q))^q:=UP hc (by
      have : (a^((n-1)/q))^1 ∣ (a^((n-1)/q))^q:=Xd _ (by have:=hq.1; omega);rwa[TZ]at this)
    have:=Ts this;omega
  have hg:=Jl _ r hr2 q (r-1) hb (hr.fermat1 _ hbr);rcases hq.2 _ (Vd q (r-1))with e|e
  · rw[e, TZ]at hg
    exfalso;have hx : r ∣ a^((n-1)/q)%n + (n-1):=by
      refine SN ?_;have e1 : (a^((n-1)/q)%n)%r=1:=by rw[US _ hrn]; exact hg
      have e2 : (n-1 + 1)%r=0:=by
        rw[Nat.sub_add_cancel (by omega)]; exact Ts hrn
      have : (a^((n-1)/q)%n + (n-1))%r=(1 + (n-1))%r:=by
        rw[T9, e1, T9 1 (n-1), Qf hr2]
      rw[this, Nat.add_comm, e2]
    have:=Nat.dvd_gcd hx hrn;rw[h2]at this;have:=Td (by omega) this;omega
  · rw[<-e]; exact U2 _ _
theorem yN{n f:Nat}(hn:1<n)(hf:n<(f+1)*(f+1))
 (hall:∀r,IsP r->r ∣ n->f ∣ r-1):IsP n:=by
 obtain⟨r,hr,hrn,h|h⟩:=nH n hn
 ·exact h
 ·have:=Td (by have:=hr.1;omega) (hall r hr hrn);have h2:f+1<=r:=by have:=hr.1;omega
  have:=RJ h2 h2;omega
/-! trial -/
def trial(n : Nat): Nat -> Nat -> Bool
  | 0, _ => true
  | k + 1, d => (n%d != 0) && trial n k (d + 1)
theorem xR(n:Nat):∀k d,trial n k d=true->∀m,d<=m->m<d+k->¬m ∣ n
 | 0,_,_,m,_,_=>by omega
 | k+1,d,h,m,h1,h2=>by
  simp only[trial,P3,bne_iff_ne,ne_eq]at h;rcases Nat.lt_or_ge d m with hlt|hge
  ·exact xR n k (d+1) h.2 m hlt (by omega)
  ·have:m=d:=by omega
   subst this;intro hd;exact h.1 (Ts hd)
theorem small{n k:Nat}(hn:2<=n)(ht:trial n k 2=true)(hk:n<(k+2)*(k+2)):IsP n:=by
 obtain⟨r,hr,hrn,h|h⟩:=nH n hn
 ·exact h
 ·have h2:=hr.1;have hlt:r<2+k:=by
   refine Rc fun hc=>?_
   have:=RJ (show k+2<=r by omega) (show k+2<=r by omega);omega
  exact absurd hrn (xR n k 2 ht r h2 hlt)
/-! powers, reckoned -/
def pm(n : Nat): Nat -> Nat -> Nat -> Nat -> Nat
  | 0, _, _, acc => acc
  | k + 1, a, e, acc => pm n k (a * a%n) (e/2) (if e%2=1 then acc * a%n else acc)
theorem CP(n:Nat):∀k a e acc,e<2^k->acc<n->pm n k a e acc=acc*a^e%n
 | 0,a,e,acc,h,ha=>by
  have:e=0:=by simpa using h
  subst this;rw[pm,SX,Se,Qf ha]
 | k+1,a,e,acc,h,ha=>by
  have hn:0<n:=by omega
  have hacc:(if e%2=1 then acc*a%n else acc)<n:=by
   split
   ·exact RN _ hn
   ·exact ha
  rw[pm,CP n k _ _ _ (by rw[Rk]at h;omega) hacc];have hsq:∀y,y*(a*a%n)^(e/2)%n=y*(a*a)^(e/2)%n:=by
   intro y;rw[RP,<-V6,<-RP]
  rw[hsq];have he:a^e=a^(e%2)*(a*a)^(e/2):=by
   have:(a*a)=a^2:=by rw[Rk,TZ]
   rw[this,<-T0,<-RI,Nat.mod_add_div]
  rw[he];split
  ·rename_i h1
   rw[h1,TZ,RP,V7,<-RP,RH]
  ·rename_i h1
   have:e%2=0:=by omega
   rw[this,SX,TD]
theorem part'{n q a r k:Nat}(hq:IsP q)(hr:IsP r)(hrn:r ∣ n)(hn:1<n)(hk:n<2^k)
 (h1:pm n k a (n-1) 1=1) (hd:(n-1)%q=0) (h2:WG (pm n k a ((n-1)/q) 1+(n-1)) n=1):q ∣ r-1:=by
 rw[CP n k a (n-1) 1 (by omega) hn,TD]at h1;rw[CP n k a _ 1 (Nat.lt_of_le_of_lt (Nat.div_le_self _ _) (by omega)) hn,TD]at h2;exact part hq hr hrn hn h1 (SN hd) h2
/-! the two primes -/
theorem x21: IsP 1627771:=small (k:=1275) (by decide) (by decide +kernel) (by decide)
theorem x30:IsP 545358713:=small (k:=23352) (by decide) (by decide +kernel) (by decide)
theorem x26:IsP 44706919:=small (k:=6686) (by decide) (by decide +kernel) (by decide)
theorem x17:IsP 120233:=small (k:=346) (by decide) (by decide +kernel) (by decide)
theorem x27:IsP 107590001:=small (k:=10372) (by decide) (by decide +kernel) (by decide)
theorem x23:IsP 7240687:=small (k:=2690) (by decide) (by decide +kernel) (by decide)
theorem x16:IsP 96557:=small (k:=310) (by decide) (by decide +kernel) (by decide)
theorem x39:IsP 297159362677:=
 yN (f:=1627771) (by decide) (by decide +kernel) (fun r hr hd=>part' (k:=39) (a:=2) x21 hr hd (by decide) (by decide +kernel) (by decide +kernel) (by decide +kernel) (by decide +kernel))
theorem c95:IsP 29047611873442575647497758179:=
 yN (f:=(545358713*297159362677)) (by decide) (by decide +kernel) (fun r hr hd=>Rs (by decide +kernel) (part' (k:=95) (a:=2) x30 hr hd (by decide) (by decide +kernel) (by decide +kernel) (by decide +kernel) (by decide +kernel)) (part' (k:=95) (a:=2) x39 hr hd (by decide) (by decide +kernel) (by decide +kernel) (by decide +kernel) (by decide +kernel)))
theorem b68:IsP 174723607534414371449:=
 yN (f:=(44706919*120233)) (by decide) (by decide +kernel) (fun r hr hd=>Rs (by decide +kernel) (part' (k:=68) (a:=2) x26 hr hd (by decide) (by decide +kernel) (by decide +kernel) (by decide +kernel) (by decide +kernel)) (part' (k:=68) (a:=2) x17 hr hd (by decide) (by decide +kernel) (by decide +kernel) (by decide +kernel) (by decide +kernel)))
theorem c109:IsP 341948486974166000522343609283189:=
 yN (f:=29047611873442575647497758179) (by decide) (by decide +kernel) (fun r hr hd=>part' (k:=109) (a:=2) c95 hr hd (by decide) (by decide +kernel) (by decide +kernel) (by decide +kernel) (by decide +kernel))
theorem pN:IsP 115792089237316195423570985008687907852837564279074904382605163141518161494337:=
 yN (f:=(174723607534414371449*341948486974166000522343609283189)) (by decide) (by decide +kernel) (fun r hr hd=>Rs (by decide +kernel) (part' (k:=256) (a:=2) b68 hr hd (by decide) (by decide +kernel) (by decide +kernel) (by decide +kernel) (by decide +kernel)) (part' (k:=256) (a:=2) c109 hr hd (by decide) (by decide +kernel) (by decide +kernel) (by decide +kernel) (by decide +kernel)))
theorem e128:IsP 255515944373312847190720520512484175977:=
 yN (f:=(107590001*7240687*96557)) (by decide) (by decide +kernel) (fun r hr hd=>Rs (by decide +kernel) (Rs (by decide +kernel) (part' (k:=128) (a:=2) x27 hr hd (by decide) (by decide +kernel) (by decide +kernel) (by decide +kernel) (by decide +kernel)) (part' (k:=128) (a:=2) x23 hr hd (by decide) (by decide +kernel) (by decide +kernel) (by decide +kernel) (by decide +kernel))) (part' (k:=128) (a:=2) x16 hr hd (by decide) (by decide +kernel) (by decide +kernel) (by decide +kernel) (by decide +kernel)))
theorem OU:IsP 205115282021455665897114700593932402728804164701536103180137503955397371:=
 yN (f:=255515944373312847190720520512484175977) (by decide) (by decide +kernel) (fun r hr hd=>part' (k:=237) (a:=2) e128 hr hd (by decide) (by decide +kernel) (by decide +kernel) (by decide +kernel) (by decide +kernel))
theorem pP:IsP 115792089237316195423570985008687907853269984665640564039457584007908834671663:=
 yN (f:=205115282021455665897114700593932402728804164701536103180137503955397371) (by decide) (by decide +kernel) (fun r hr hd=>part' (k:=256) (a:=2) OU hr hd (by decide) (by decide +kernel) (by decide +kernel) (by decide +kernel) (by decide +kernel))
end NT
namespace EC
structure Line{P:Nat}[NeZero P](x1 y1 x2 y2 l:Fin P):Prop where
 go:y2=y1+l*(x2-x1)
 on:l*(y1+y2)=x1^2+x1*x2+x2^2
variable {P:Nat}[NeZero P]
theorem yS(x1 y1 x2 y2 l x4 y4:Fin P)(h1:y1^2=x1^3+7)(h2:y2^2=x2^3+7)(hl:Line x1 y1 x2 y2 l)(hx:x4=l^2-x1-x2)(hy:y4=l*(x1-x4)-y1):y4^2=x4^3+7:=by
 obtain⟨e,h⟩:=hl;subst hy hx e
 grobner
theorem J9(x1 y1 x2 x3 l1 l2 y2 y3 x4 y4 x5 y5:Fin P)(L1:Line x1 y1 x2 y2 l1)(L2:Line x2 y2 x3 y3 l2)
 (e4:x4=l1^2-x1-x2) (f4:y4=l1*(x1-x4)-y1) (e5:x5=l2^2-x2-x3) (f5:y5=l2*(x2-x5)-y2) :
 ((y4-y3)^2-(x4+x3)*(x4-x3)^2)*(x5-x1)^2=((y5-y1)^2-(x1+x5)*(x5-x1)^2)*(x4-x3)^2:=by
 obtain⟨e2,h2⟩:=L1;obtain⟨e3,h3⟩:=L2;subst f4 f5 e4 e5 e3 e2
 grobner
theorem J8(x1 y1 x2 x3 l1 l2 y2 y3 x4 y4 x5 y5:Fin P)(L1:Line x1 y1 x2 y2 l1)(L2:Line x2 y2 x3 y3 l2)
 (e4:x4=l1^2-x1-x2) (f4:y4=l1*(x1-x4)-y1) (e5:x5=l2^2-x2-x3) (f5:y5=l2*(x2-x5)-y2) :
 ((y4-y3)^2-(x3+x4)*(x4-x3)^2)*((y5-y1)*(x4-x3)-(y4-y3)*(x5-x1))+(x4-x3)^2*(((y4-y3)*x3-y3*(x4-x3))*(x5-x1)-((y5-y1)*x1-y1*(x5-x1))*(x4-x3))=0:=by
 obtain⟨e2,h2⟩:=L1;obtain⟨e3,h3⟩:=L2;subst f4 f5 e4 e5 e3 e2
 grobner (ringSteps:=100000000)
theorem Ia(x1 y1 x2 x3 l1 l2 y2 y3 x5 y5:Fin P)(L1:Line x1 y1 x2 y2 l1)(L2:Line x2 y2 x3 y3 l2)
 (e4:x3=l1^2-x1-x2) (f4:y3=l1*(x1-x3)-y1) (e5:x5=l2^2-x2-x3) (f5:y5=l2*(x2-x5)-y2) :
 (9*x3^4-8*x3*y3^2)*(x5-x1)^2=((y5-y1)^2-(x1+x5)*(x5-x1)^2)*(4*y3^2):=by
 obtain⟨e2,h2⟩:=L1;obtain⟨e3,h3⟩:=L2;subst f5 e5 f4 e4 e2
 grobner (ringSteps:=100000000)
theorem H9(x1 y1 x2 x3 l1 l2 y2 y3 x5 y5:Fin P)(L1:Line x1 y1 x2 y2 l1)(L2:Line x2 y2 x3 y3 l2)
 (e4:x3=l1^2-x1-x2) (f4:y3=l1*(x1-x3)-y1) (e5:x5=l2^2-x2-x3) (f5:y5=l2*(x2-x5)-y2) :
 (3*x3^2*(x3*(4*y3^2)-(9*x3^4-8*x3*y3^2))-2*y3^2*(4*y3^2))*(x5-x1)=((y5-y1)*(x1*(4*y3^2)-(9*x3^4-8*x3*y3^2))-y1*(x5-x1)*(4*y3^2))*(2*y3):=by
 obtain⟨e2,h2⟩:=L1;obtain⟨e3,h3⟩:=L2;subst f5 e5 f4 e4 e2
 grobner (ringSteps:=100000000)
end EC
namespace EC
variable {P:Nat}[NeZero P]
theorem val_zero:(0:Fin P).val=0:=by simp
theorem val_one(h:NT.IsP P):(1:Fin P).val=1:=by
 have h2:=h.1;show 1%P=1;exact Qf (by omega)
theorem nzd(h:NT.IsP P){a b:Fin P}(e:a*b=0):a=0\/b=0:=by
 have h1:a.val*b.val%P=0:=by
  have:=congrArg Wp e;rw[S9,val_zero]at this;exact this
 rcases h.euclid (SN h1)with h2|h2
 ·exact Ql (Ud (by rw[val_zero];exact Uc h2 a.isLt))
 ·exact Qc (Ud (by rw[val_zero];exact Uc h2 b.isLt))
theorem mul_ne(h:NT.IsP P){a b:Fin P}(ha:a≠0)(hb:b≠0):a*b≠0:=fun e=>(nzd h e).elim ha hb
theorem cancel(h:NT.IsP P){a b c:Fin P}(ha:a≠0)(e:b*a=c*a):b=c:=by
 have h1:(b-c)*a=0:=by grobner
 rcases nzd h h1 with h2|h2
 ·grobner
 ·exact absurd h2 ha
def inv(a:Fin P):Fin P:=Fin.ofNat P (a.val^(P-2))
theorem inv_mul(h:NT.IsP P){a:Fin P}(ha:a≠0):inv a*a=1:=by
 apply Ud;have h2:=h.1;have hn:¬P ∣ a.val:=fun hd=>ha (Ud (by rw[val_zero];exact Uc hd a.isLt))
 rw[S9,val_one h];show a.val^(P-2)%P*a.val%P=1;rw[Xf,<-Rk,show(P-2).succ=P-1 by omega];exact h.fermat1 _ hn
end EC
namespace EC
variable {P:Nat}[NeZero P]
abbrev Pt(P:Nat):=Option (Fin P × Fin P)
def On:Pt P->Prop
 | none=>True
 | some (x,y)=>y^2=x^3+7
def neg:Pt P->Pt P
 | none=>none
 | some (x,y)=>some (x,-y)
def iM(x1 y1 x2 y2:Fin P):Fin P:=if x1=x2 then 3*x1^2*inv (2*y1) else(y2-y1)*inv (x2-x1)
def third(x1 y1 x2 l:Fin P):Pt P:=some (l^2-x1-x2,l*(x1-(l^2-x1-x2))-y1)
def add:Pt P->Pt P->Pt P
 | none,b=>b
 | a,none=>a
 | some (x1,y1),some (x2,y2)=>if x1=x2/\y2 = -y1 then none else third x1 y1 x2 (iM x1 y1 x2 y2)
theorem kA(h:NT.IsP P){x y1 y2:Fin P}(h1:y1^2=x^3+7)(h2:y2^2=x^3+7)(ho:¬y2 = -y1):y2=y1:=by
 have e:(y2-y1)*(y2+y1)=0:=by grobner
 rcases nzd h e with e|e
 ·grobner
 ·exact absurd (by grobner) ho
theorem qO{x y1:Fin P}(h:NT.IsP P)(h2:(2:Fin P)≠0)(ho:¬(x=x/\y1 = -y1)):2*y1≠0:=fun e=>by
 rcases nzd h e with e|e
 ·exact h2 e
 ·exact ho ⟨rfl,by rw[e];grobner⟩
theorem aZ(h:NT.IsP P)(h2:(2:Fin P)≠0){x1 y1 x2 y2:Fin P}(o1:y1^2=x1^3+7)(o2:y2^2=x2^3+7)(ho:¬(x1=x2/\y2 = -y1)):Line x1 y1 x2 y2 (iM x1 y1 x2 y2):=by
 unfold iM;by_cases hx:x1=x2
 ·subst hx;rw[if_pos rfl];have hy:=kA h o1 o2 (fun e=>ho ⟨rfl,e⟩);subst hy;have hi:=inv_mul h (qO h h2 ho);generalize inv (2*y2)=i at hi;exact⟨by grobner,by grobner⟩
 ·rw[if_neg hx];have hd:x2-x1≠0:=fun e=>hx (by grobner)
  have hi:=inv_mul h hd;generalize inv (x2-x1)=i at hi;refine⟨by grobner,cancel h hd (by grobner)⟩
theorem y8(h:NT.IsP P)(h2:(2:Fin P)≠0){x1 y1 x2 y2 l m:Fin P}(o1:y1^2=x1^3+7)(o2:y2^2=x2^3+7)(ho:¬(x1=x2/\y2 = -y1))(L:Line x1 y1 x2 y2 l)(M:Line x1 y1 x2 y2 m):l=m:=by
 obtain⟨a1,b1⟩:=L;obtain⟨a2,b2⟩:=M;by_cases hx:x1=x2
 ·subst hx;have hy:=kA h o1 o2 (fun e=>ho ⟨rfl,e⟩);subst hy;exact cancel h (qO h h2 ho) (by grobner)
 ·have hd:x2-x1≠0:=fun e=>hx (by grobner)
  exact cancel h hd (by grobner)
theorem bL(h:NT.IsP P)(h2:(2:Fin P)≠0){x1 y1 x2 y2 l:Fin P}(o1:y1^2=x1^3+7)(o2:y2^2=x2^3+7)(ho:¬(x1=x2/\y2 = -y1))(L:Line x1 y1 x2 y2 l):add (some (x1,y1)) (some (x2,y2))=third x1 y1 x2 l:=by
 show(if x1=x2/\y2 = -y1 then none else third x1 y1 x2 (iM x1 y1 x2 y2))=_;rw[if_neg ho,y8 h h2 o1 o2 ho (aZ h h2 o1 o2 ho) L]
theorem eO{x1 y1 x2 y2:Fin P}(ho:x1=x2/\y2 = -y1):add (some (x1,y1)) (some (x2,y2))=none:=by
 show(if x1=x2/\y2 = -y1 then none else third x1 y1 x2 (iM x1 y1 x2 y2))=_;rw[if_pos ho]
theorem bD(a:Pt P):add a none=a:=by cases a<;>rfl
theorem Line.swap{x1 y1 x2 y2 l:Fin P}(L:Line x1 y1 x2 y2 l):Line x2 y2 x1 y1 l:=by
 obtain⟨a,b⟩:=L;exact⟨by grobner,by grobner⟩
theorem As{x1 y1 x2 y2 l:Fin P}(L:Line x1 y1 x2 y2 l):third x1 y1 x2 l=third x2 y2 x1 l:=by
 obtain⟨a,b⟩:=L;unfold third;have e1:l^2-x1-x2=l^2-x2-x1:=by grobner
 have e2:l*(x1-(l^2-x1-x2))-y1=l*(x2-(l^2-x2-x1))-y2:=by grobner
 rw[e2,e1]
theorem add_comm(h:NT.IsP P)(h2:(2:Fin P)≠0)(a b:Pt P)(ha:On a)(hb:On b):add a b=add b a:=by
 rcases a with _|⟨x1,y1⟩
 ·rw[bD];rfl
 ·rcases b with _|⟨x2,y2⟩
  ·rfl
  ·by_cases ho:x1=x2/\y2 = -y1
   ·rw[eO ho,eO ⟨ho.1.symm,by rw[ho.2];grobner⟩]
   ·have ho':¬(x2=x1/\y1 = -y2):=fun e=>ho ⟨e.1.symm,by rw[e.2];grobner⟩
    have L:=aZ h h2 ha hb ho;rw[bL h h2 ha hb ho L,bL h h2 hb ha ho' L.swap,As L]
theorem BZ(h:NT.IsP P)(h2:(2:Fin P)≠0)(a b:Pt P)(ha:On a)(hb:On b):On (add a b):=by
 rcases a with _|⟨x1,y1⟩
 ·exact hb
 ·rcases b with _|⟨x2,y2⟩
  ·exact ha
  ·by_cases ho:x1=x2/\y2 = -y1
   ·rw[eO ho];trivial
   ·have L:=aZ h h2 ha hb ho;rw[bL h h2 ha hb ho L];exact yS x1 y1 x2 y2 _ _ _ ha hb L rfl rfl
end EC
namespace EC
variable {P:Nat}[NeZero P]
theorem b8{a:Pt P}(h:On a):On (neg a):=by
 rcases a with _|⟨x,y⟩
 ·trivial
 ·have h':y^2=x^3+7:=h;show(-y)^2=x^3+7
  grobner
theorem neg_neg'(a:Pt P):neg (neg a)=a:=by
 rcases a with _|⟨x,y⟩
 ·rfl
 ·show some (x,- -y)=some (x,y);have:- -y=y:=by grobner
  rw[this]
theorem add_neg(a:Pt P):add a (neg a)=none:=by
 rcases a with _|⟨x,y⟩
 ·rfl
 ·exact eO ⟨rfl,rfl⟩
theorem Line.neg{x1 y1 x2 y2 l:Fin P}(L:Line x1 y1 x2 y2 l):Line x1 (-y1) x2 (-y2) (-l):=by
 obtain⟨a,b⟩:=L;exact⟨by grobner,by grobner⟩
theorem neg_add(h:NT.IsP P)(h2:(2:Fin P)≠0){a b:Pt P}(ha:On a)(hb:On b):neg (add a b)=add (neg a) (neg b):=by
 rcases a with _|⟨x1,y1⟩
 ·rfl
 ·rcases b with _|⟨x2,y2⟩
  ·rfl
  ·by_cases ho:x1=x2/\y2 = -y1
   ·rw[eO ho];exact(eO ⟨ho.1,by rw[ho.2]⟩).symm
   ·have L:=aZ h h2 ha hb ho;have ho':¬(x1=x2/\-y2 = - -y1):=fun e=>ho ⟨e.1,by have:=e.2;grobner⟩
    rw[bL h h2 ha hb ho L];refine Eq.trans ?_ (bL h h2 (b8 (a:=some (x1,y1)) ha) (b8 (a:=some (x2,y2)) hb) ho' L.neg).symm;generalize iM x1 y1 x2 y2=l;unfold third;show some (l^2-x1-x2,-(l*(x1-(l^2-x1-x2))-y1))=some ((-l)^2-x1-x2,-l*(x1-((-l)^2-x1-x2)) - -y1);have e1:(-l)^2=l^2:=by grobner
    rw[e1];have e2:-(l*(x1-(l^2-x1-x2))-y1) = -l*(x1-(l^2-x1-x2)) - -y1:=by grobner
    rw[e2]
theorem Line.back{x2 y2 x3 y3 l x5 y5:Fin P}(L:Line x2 y2 x3 y3 l)(e5:x5=l^2-x2-x3)(f5:y5=l*(x2-x5)-y2):Line x2 (-y2) x5 y5 (-l):=by
 obtain⟨a,b⟩:=L;subst f5 e5 a;exact⟨by grobner,by grobner (ringSteps:=10000000)⟩
theorem MG{x2 x3 x5 l:Fin P}(e5:x5=l^2-x2-x3):(-l)^2-x2-x5=x3:=by
 subst e5
 grobner
theorem MF{x2 x3 y2 y3 l:Fin P}(a:y3=y2+l*(x3-x2)):-l*(x2-x3) - -y2=y3:=by
 subst a
 grobner
theorem L6{x y:Fin P}(z:y=0)(hb:y^2=x^3+7):x^3+7=0:=by
 have e:y*y=0:=by rw[z];exact Ud (by rw[S9,val_zero];simp)
 grobner
theorem yV(h:NT.IsP P)(h2:(2:Fin P)≠0)(h7:∀x:Fin P,x^3+7≠0){b c:Pt P}(hb:On b)(hc:On c):add (neg b) (add b c)=c:=by
 rcases b with _|⟨x2,y2⟩
 ·rfl
 ·rcases c with _|⟨x3,y3⟩
  ·rw[bD];exact eO ⟨rfl,by grobner⟩
  ·have hb':y2^2=x2^3+7:=hb;have hc':y3^2=x3^3+7:=hc;by_cases ho:x2=x3/\y3 = -y2
   ·rw[eO ho,bD,ho.1,ho.2];rfl
   ·have L:=aZ h h2 hb hc ho;have hon:=yS x2 y2 x3 y3 _ _ _ hb hc L rfl rfl;rw[bL h h2 hb hc ho L];generalize iM x2 y2 x3 y3=l at L hon;obtain⟨x5,e5⟩:∃x5,x5=l^2-x2-x3:=⟨_,rfl⟩
    unfold third;rw[<-e5]at hon⊢;obtain⟨y5,f5⟩:∃y5,y5=l*(x2-x5)-y2:=⟨_,rfl⟩
    rw[<-f5]at hon⊢;have M:=L.back e5 f5;have a:=L.go;clear L;have ho':¬(x2=x5/\y5 = - -y2):=fun e=>by
     obtain⟨u,v⟩:=e;have z:2*y2=0:=by
      clear hon hb' hc' h7 M ho a e5 h2
      grobner
     rcases nzd h z with z|z
     ·exact h2 z
     ·exact h7 x2 (L6 z hb')
    refine(bL h h2 (b8 (a:=some (x2,y2)) hb) hon ho' M).trans ?_;unfold third;rw[MG e5,MF a]
end EC
namespace EC
variable {P:Nat}[NeZero P]
theorem NX(h:NT.IsP P){x1 x3 x4 x5 y1 y3 y4 y5 l3 l4:Fin P}(d3:x4-x3≠0)(d4:x5-x1≠0)(g3:y4-y3=l3*(x4-x3))(g4:y5-y1=l4*(x5-x1))
 (hx:((y4-y3)^2-(x4+x3)*(x4-x3)^2)*(x5-x1)^2=((y5-y1)^2-(x1+x5)*(x5-x1)^2)*(x4-x3)^2):l3^2-x4-x3=l4^2-x1-x5:=by
 rw[g3,g4]at hx;generalize x4-x3=a at d3 hx;generalize x5-x1=b at d4 hx;clear g3 g4;refine cancel h (mul_ne h (mul_ne h d3 d3) (mul_ne h d4 d4)) ?_
 grobner
theorem NW(h:NT.IsP P){x1 x3 x4 x5 y1 y3 y4 y5 l3 l4 X:Fin P}(d3:x4-x3≠0)(d4:x5-x1≠0)(g3:y4-y3=l3*(x4-x3))(g4:y5-y1=l4*(x5-x1))(hX:l3^2-x4-x3=X)
 (hy:((y4-y3)^2-(x3+x4)*(x4-x3)^2)*((y5-y1)*(x4-x3)-(y4-y3)*(x5-x1))+(x4-x3)^2*(((y4-y3)*x3-y3*(x4-x3))*(x5-x1)-((y5-y1)*x1-y1*(x5-x1))*(x4-x3))=0):l3*(x4-X)-y4=l4*(x1-X)-y1:=by
 rw[g3,g4]at hy;have e4:y4=y3+l3*(x4-x3):=by clear hy hX;grobner
 have e5:x4+x3=l3^2-X:=by clear hy;grobner
 rw[e4];obtain⟨a,ha⟩:∃a,x4-x3=a:=⟨_,rfl⟩
 rw[ha]at d3 hy⊢;generalize x5-x1=b at d4 hy;have e6:(l4*(x1-X)-y1-(l3*(x3-X)-y3))*(a*a*a*b)=0:=by
  have e7:x3+x4=l3^2-X:=by rw[<-e5];clear hy;grobner
  rw[e7]at hy;clear e5 e7 e4 hX g3 g4 ha
  grobner
 rcases nzd h e6 with e|e
 ·have e8:x4=x3+a:=by clear hy e6 e e5 e4 hX g3 g4;grobner
  rw[e8];clear hy e6 e5 e4 hX g3 g4 ha e8
  grobner
 ·exact absurd e (mul_ne h (mul_ne h (mul_ne h d3 d3) d3) d4)
theorem N5(h:NT.IsP P){x1 x3 x5 y1 y3 y5 l3 l4:Fin P}(t3:2*y3≠0)(d4:x5-x1≠0)(g3:l3*(2*y3)=3*x3^2)(g4:y5-y1=l4*(x5-x1))
 (hx:(9*x3^4-8*x3*y3^2)*(x5-x1)^2=((y5-y1)^2-(x1+x5)*(x5-x1)^2)*(4*y3^2)):l3^2-x3-x3=l4^2-x1-x5:=by
 rw[g4]at hx;generalize x5-x1=b at d4 hx;clear g4;refine cancel h (mul_ne h (mul_ne h t3 t3) (mul_ne h d4 d4)) ?_;have e:9*x3^4=(l3*(2*y3))*(l3*(2*y3)):=by rw[g3];clear hx g3;grobner
 rw[e]at hx;clear e g3
 grobner
theorem N4(h:NT.IsP P){x1 x3 x5 y1 y3 y5 l3 l4 X:Fin P}(t3:2*y3≠0)(d4:x5-x1≠0)(g3:l3*(2*y3)=3*x3^2)(g4:y5-y1=l4*(x5-x1))(hX:l3^2-x3-x3=X)
 (hy:(3*x3^2*(x3*(4*y3^2)-(9*x3^4-8*x3*y3^2))-2*y3^2*(4*y3^2))*(x5-x1)=((y5-y1)*(x1*(4*y3^2)-(9*x3^4-8*x3*y3^2))-y1*(x5-x1)*(4*y3^2))*(2*y3)):l3*(x3-X)-y3=l4*(x1-X)-y1:=by
 rw[g4]at hy;generalize x5-x1=b at d4 hy;clear g4;have e:9*x3^4-8*x3*y3^2=X*(4*y3^2):=by
  have e1:9*x3^4=(l3*(2*y3))*(l3*(2*y3)):=by rw[g3];clear hy g3;grobner
  rw[e1,<-hX];clear hy e1 g3 hX
  grobner
 rw[e,<-g3]at hy;clear e g3 hX;refine cancel h (mul_ne h (mul_ne h (mul_ne h t3 t3) t3) d4) ?_
 grobner
end EC
namespace EC
variable {P:Nat}[NeZero P]
theorem jX{a b:Fin P}(h:¬a=b):a-b≠0:=fun e=>h (by grobner)
theorem Line.run{x1 y1 x2 y2 l:Fin P}(L:Line x1 y1 x2 y2 l):y2-y1=l*(x2-x1)/\y1-y2=l*(x1-x2):=by
 obtain⟨a,-⟩:=L;exact⟨by grobner,by grobner⟩
theorem Line.at{x y l:Fin P}(L:Line x y x y l):l*(2*y)=3*x^2:=by
 obtain⟨-,b⟩:=L
 grobner
theorem Ll{m l d:Fin P}(s:m^2=l^2):(m*d)^2=(l*d)^2:=by grobner
theorem JQ{y1 y2:Fin P}(s:(y1 - -y2)^2=(y1-y2)^2):4*(y1*y2)=0:=by grobner
theorem Pa{m l x1 x2 x3:Fin P}(r:m^2-x2-x1=x3)(e:x3=l^2-x1-x2):m^2=l^2:=by grobner
theorem Nn{x l a b:Fin P}(e:x=l^2-a-b):x=l^2-b-a:=by grobner
theorem Nm{x2 y2 x3 y3 x5 y5 l:Fin P}(L:Line x2 y2 x3 y3 l)(f:y5=l*(x2-x5)-y2):y5=l*(x3-x5)-y3:=by
 obtain⟨a,-⟩:=L
 grobner
theorem four_ne(h:NT.IsP P)(h2:(2:Fin P)≠0):(4:Fin P)≠0:=fun e=>by
 have:(2:Fin P)*2=0:=by grobner
 rcases nzd h this with e|e<;>exact h2 e
theorem yQ{y z:Fin P}(e:y = -z):z = -y:=by grobner
theorem uZ(h:NT.IsP P)(h2:(2:Fin P)≠0){x1 y1 x2 y2 x3 y3 l1 l2 x4 y4 x5 y5:Fin P}(o3:y3^2=x3^3+7)(o1:y1^2=x1^3+7)
 (L1:Line x1 y1 x2 y2 l1) (L2:Line x2 y2 x3 y3 l2) (e4:x4=l1^2-x1-x2) (f4:y4=l1*(x1-x4)-y1) (e5:x5=l2^2-x2-x3) (f5:y5=l2*(x2-x5)-y2)
 (o4:y4^2=x4^3+7) (o5:y5^2=x5^3+7) (h3:¬(x4=x3/\y3 = -y4)) (h4:¬(x1=x5/\y5 = -y1)) (hx:¬x5=x1) :
 add (some (x4,y4)) (some (x3,y3))=add (some (x1,y1)) (some (x5,y5)):=by
 have L3:=aZ h h2 o4 o3 h3;have L4:=aZ h h2 o1 o5 h4;rw[bL h h2 o4 o3 h3 L3,bL h h2 o1 o5 h4 L4];generalize iM x4 y4 x3 y3=l3 at L3;generalize iM x1 y1 x5 y5=l4 at L4;unfold third;by_cases hd:x4=x3
 ·have hy:=kA h o4 (hd ▸ o3) (fun e=>h3 ⟨hd,e⟩);subst hd hy;have t:=qO (x:=x4) h h2 h3;have hX:=N5 h t (jX hx) L3.at L4.run.1 (Ia x1 y1 x2 x4 l1 l2 y2 y3 x5 y5 L1 L2 e4 f4 e5 f5);have hY:=N4 h t (jX hx) L3.at L4.run.1 rfl (H9 x1 y1 x2 x4 l1 l2 y2 y3 x5 y5 L1 L2 e4 f4 e5 f5);rw[hY,hX]
 ·have hX:=NX h (jX hd) (jX hx) L3.run.2 L4.run.1 (J9 x1 y1 x2 x3 l1 l2 y2 y3 x4 y4 x5 y5 L1 L2 e4 f4 e5 f5);have hY:=NW h (jX hd) (jX hx) L3.run.2 L4.run.1 rfl (J8 x1 y1 x2 x3 l1 l2 y2 y3 x4 y4 x5 y5 L1 L2 e4 f4 e5 f5);rw[hY,hX]
theorem add_assoc(h:NT.IsP P)(h2:(2:Fin P)≠0)(h7:∀x:Fin P,x^3+7≠0)(a b c:Pt P)(ha:On a)(hb:On b)(hc:On c):add (add a b) c=add a (add b c):=by
 have comm:=fun(a b:Pt P) (ha:On a) (hb:On b)=>add_comm h h2 a b ha hb
 have hab:=BZ h h2 a b ha hb;have hbc:=BZ h h2 b c hb hc;have n1:∀ {u v:Pt P},On u->On v->add (neg u) (add u v)=v:=fun hu hv=>yV h h2 h7 hu hv
 by_cases z1:b=neg a
 ·subst z1;rw[add_neg];have:=n1 hb hc;rw[neg_neg']at this;exact this.symm
 by_cases z2:c=neg b
 ·subst z2;rw[add_neg,bD,comm _ _ hab hc,comm a b ha hb];exact n1 hb ha
 by_cases z3:c=neg (add a b)
 ·subst z3;rw[add_neg];have e:add b (neg (add a b))=neg a:=by
   rw[comm a b ha hb,neg_add h h2 hb ha];have:=n1 (b8 hb) (b8 ha);rw[neg_neg']at this;exact this
  rw[e,add_neg]
 by_cases z4:add b c=neg a
 ·rw[z4,add_neg];have e:a=neg (add b c):=by rw[z4,neg_neg']
  have e2:add a b=neg c:=by
   rw[comm a b ha hb,e,neg_add h h2 hb hc];have:=n1 (b8 hb) (b8 hc);rw[neg_neg']at this;exact this
  rw[e2,comm _ _ (b8 hc) hc,add_neg]
 rcases a with _|⟨x1,y1⟩
 ·rfl
 rcases b with _|⟨x2,y2⟩
 ·rfl
 rcases c with _|⟨x3,y3⟩
 ·rw[bD,bD]
 have w1:¬(x1=x2/\y2 = -y1):=fun e=>z1 (by rw[e.1,e.2];rfl)
 have w2:¬(x2=x3/\y3 = -y2):=fun e=>z2 (by rw[e.1,e.2];rfl)
 have L1:=aZ h h2 ha hb w1;have L2:=aZ h h2 hb hc w2;have q1:=bL h h2 ha hb w1 L1;have q2:=bL h h2 hb hc w2 L2;rw[q1]at hab z3⊢;rw[q2]at hbc z4⊢;generalize iM x1 y1 x2 y2=l1 at L1 q1 hab z3⊢;generalize iM x2 y2 x3 y3=l2 at L2 q2 hbc z4⊢;unfold third at hab hbc z3 z4 q1 q2⊢;obtain⟨x4,e4⟩:∃x4,x4=l1^2-x1-x2:=⟨_,rfl⟩
 obtain⟨x5,e5⟩:∃x5,x5=l2^2-x2-x3:=⟨_,rfl⟩
 rw[<-e4]at hab z3 q1⊢;rw[<-e5]at hbc z4 q2⊢;obtain⟨y4,f4⟩:∃y4,y4=l1*(x1-x4)-y1:=⟨_,rfl⟩
 obtain⟨y5,f5⟩:∃y5,y5=l2*(x2-x5)-y2:=⟨_,rfl⟩
 rw[<-f4]at hab z3 q1⊢;rw[<-f5]at hbc z4 q2⊢;have w3:¬(x4=x3/\y3 = -y4):=fun e=>z3 (by rw[e.2,<-e.1];rfl)
 have w4:¬(x1=x5/\y5 = -y1):=fun e=>z4 (by rw[e.2,<-e.1];rfl)
 by_cases hx:x5=x1
 ·have hy:y5=y1:=by
   have o5:y5^2=x5^3+7:=hbc;rw[hx]at o5;exact kA h ha o5 (fun e=>w4 ⟨hx.symm,e⟩)
  by_cases hd:x4=x3
  ·exfalso;have hy4:y3=y4:=by
    have o4:y4^2=x4^3+7:=hab;exact kA h o4 (hd ▸ hc) (fun e=>w3 ⟨hd,e⟩)
   have r1:=n1 hb hc;rw[q2,hx,hy]at r1;rw[hd,<-hy4]at q1;have hne:¬x1=x2:=fun e=>by
    subst e;have hyy:=kA h ha hb (fun e=>w1 ⟨rfl,e⟩);subst hyy;rw[comm _ _ (b8 hb) ha,add_neg]at r1;cases r1
   have u1:¬(x2=x1/\y1 = - -y2):=fun e=>hne e.1.symm
   have M:=aZ h h2 (b8 (a:=some (x2,y2)) hb) ha u1;have r2:=bL h h2 (b8 (a:=some (x2,y2)) hb) ha u1 M;have r3:third x2 (-y2) x1 (iM x2 (-y2) x1 y1)=some (x3,y3):=r2.symm.trans r1;generalize iM x2 (-y2) x1 y1=m at M r3;unfold third at r3;have r4:m^2-x2-x1=x3:=by injection r3 with r3;injection r3
   have k1:=M.run.1;have k2:=L1.run.2;rw[hd]at e4;have s2:=Ll (d:=x1-x2) (Pa r4 e4);rw[<-k1,<-k2]at s2;have k3:=JQ s2;have hne0:∀ {x y:Fin P},y^2=x^3+7->y≠0:=fun o z=>h7 _ (L6 z o)
   rcases nzd h k3 with e|e
   ·exact four_ne h h2 e
   ·rcases nzd h e with e|e
    ·exact hne0 ha e
    ·exact hne0 hb e
  ·-- the same,from the other side
   have hF:=uZ h h2 ha hc L2.swap L1.swap (Nn e5) (Nm L2 f5) (Nn e4) (Nm L1 f4) hbc hab (fun e=>w4 ⟨e.1.symm,yQ e.2⟩) (fun e=>w3 ⟨e.1.symm,yQ e.2⟩) hd;rw[comm _ _ hab hc,comm _ _ ha hbc];exact hF.symm
 ·exact uZ h h2 hc ha L1 L2 e4 f4 e5 f5 hab hbc w3 w4 hx
end EC
namespace EC
variable {P:Nat}[NeZero P]
structure Cur(P:Nat)[NeZero P]:Prop where
 pr:NT.IsP P
 two:(2:Fin P)≠0
 sev:∀x:Fin P,x^3+7≠0
theorem Cur.y_ne(C:Cur P){a b:Fin P}(h:On (some (a,b))):b≠0:=fun e=>C.sev a (L6 e h)
theorem Cur.opp_ne(C:Cur P){a b:Fin P}(h:On (some (a,b))):¬(a=a/\b = -b):=fun e=>by
 have h1:2*b=0:=by
  have:=e.2
  grobner
 exact mul_ne C.pr C.two (C.y_ne h) h1
def Jac(x y z:Fin P):Pt P->Prop
 | none=>z=0
 | some (a,b)=>z≠0/\x=a*z^2/\y=b*z^3
def Frac(x y z:Fin P):Pt P->Prop
 | none=>z=0
 | some (a,b)=>z≠0/\x=a*z/\y=b*z
def Pair(x y:Fin P):Pt P->Prop
 | none=>x=0/\y=0
 | some (a,b)=>x=a/\y=b
def dbl(n:Fin P):Fin P:=n+n
def twB(x y:Fin P):Fin P:=dbl (dbl (x*(y*y)))
def twS(x:Fin P):Fin P:=dbl (x*x)+x*x
def twX(x y:Fin P):Fin P:=twS x*twS x-dbl (twB x y)
def twY(x y:Fin P):Fin P:=twS x*(twB x y-twX x y)-dbl (dbl (dbl (y*y*(y*y))))
def twZ(y z:Fin P):Fin P:=dbl (y*z)
theorem OL{a b l x y z:Fin P}(g:l*(2*b)=3*a^2)(ex:x=a*z^2)(ey:y=b*z^3):twX x y=(l^2-a-a)*twZ y z^2:=by
 subst ex ey;unfold twX twS twB twZ dbl;have h1:(l*(2*b))^2=(3*a^2)^2:=by rw[g]
 grobner (ringSteps:=100000000)
theorem OK{a b l x y z X:Fin P}(g:l*(2*b)=3*a^2)(ex:x=a*z^2)(ey:y=b*z^3)(hX:twX x y=X*twZ y z^2):twY x y=(l*(a-X)-b)*twZ y z^3:=by
 subst ex ey;unfold twY;rw[hX];clear hX;unfold twS twB twZ dbl
 grobner (ringSteps:=100000000)
theorem OJ(C:Cur P){b y z:Fin P}(hb:b≠0)(hz:z≠0)(ey:y=b*z^3):twZ y z≠0:=fun e=>by
 have h1:2*b*(z*z*(z*z))=0:=by
  unfold twZ dbl at e;subst ey
  grobner
 exact mul_ne C.pr (mul_ne C.pr C.two hb) (mul_ne C.pr (mul_ne C.pr hz hz) (mul_ne C.pr hz hz)) h1
theorem Jac.twice(C:Cur P){x y z:Fin P}{p:Pt P}(h:Jac x y z p)(hp:On p):Jac (twX x y) (twY x y) (twZ y z) (add p p):=by
 match p,h,hp with
 | none,h,_ =>
  have h0:z=0:=h;show twZ y z=0;subst h0;unfold twZ dbl
  grobner
 | some (a,b),h,hp =>
  obtain⟨hz,ex,ey⟩:=h;have ho:=C.opp_ne hp;have L:=aZ C.pr C.two hp hp ho;rw[bL C.pr C.two hp hp ho L];have hx:=OL L.at ex ey;exact⟨OJ C (C.y_ne hp) hz ey,hx,OK L.at ex ey hx⟩
def cC(x1 z2:Fin P):Fin P:=x1*(z2*z2)
def dA(y1 z2:Fin P):Fin P:=y1*(z2*z2)*z2
def plX(ax ay bx bY:Fin P):Fin P:=(bY-ay)*(bY-ay)-(bx-ax)*(bx-ax)*(bx-ax)-dbl ((bx-ax)*(bx-ax)*ax)
def plY(ax ay bx bY:Fin P):Fin P:=(bY-ay)*((bx-ax)*(bx-ax)*ax-plX ax ay bx bY)-(bx-ax)*(bx-ax)*(bx-ax)*ay
def plZ(z1 z2 ax bx:Fin P):Fin P:=z1*z2*(bx-ax)
theorem OW{a b c d l t ax ay bx bY Z:Fin P}(g:d-b=l*(c-a))(e1:ax=a*t^2)(e2:ay=b*t^3)(e3:bx=c*t^2)(e4:bY=d*t^3)(eZ:Z=t*(bx-ax)):plX ax ay bx bY=(l^2-a-c)*Z^2:=by
 have e5:d=b+l*(c-a):=by grobner
 subst e5 e1 e2 e3 e4 eZ;unfold plX dbl;clear g
 grobner (ringSteps:=100000000)
theorem OV{a b c d l t ax ay bx bY Z X:Fin P}(g:d-b=l*(c-a))(e1:ax=a*t^2)(e2:ay=b*t^3)(e3:bx=c*t^2)(e4:bY=d*t^3)(eZ:Z=t*(bx-ax))(hX:plX ax ay bx bY=X*Z^2):plY ax ay bx bY=(l*(a-X)-b)*Z^3:=by
 unfold plY;rw[hX];have e5:d=b+l*(c-a):=by grobner
 clear hX;subst e5 e1 e2 e3 e4 eZ;clear g
 grobner (ringSteps:=100000000)
theorem wE(C : Cur P){a c t : Fin P}{k : Nat}(ht : t ≠ 0)(e : a * t ^ k = c * t ^ k): a = c := by
  have hk : ∀k : Nat, t ^ k ≠ 0 := fun k => by
    induction k with
    | zero => intro h; exact ht (by have h2 : (1 : Fin P) = 0 := by { rw [← h]; grind }; calc t = t * 1 := by grobner
                                    _ = 0 := by rw [h2]; grobner)
    | succ k ih => intro h; exact mul_ne C.pr ih ht (by rw [<-h]; grind)
  exact cancel C.pr (hk k) e
theorem Jac.plus(C:Cur P){x1 y1 z1 x2 y2 z2:Fin P}{p q:Pt P}(h:Jac x1 y1 z1 p)(hp:On p)(h':Jac x2 y2 z2 q)(hq:On q)(n1:z1≠0)(n2:z2≠0):
 (cC x1 z2=cC x2 z1/\dA y1 z2=dA y2 z1/\add p q=add p p) \/
 (¬(cC x1 z2=cC x2 z1/\dA y1 z2=dA y2 z1)/\Jac (plX (cC x1 z2) (dA y1 z2) (cC x2 z1) (dA y2 z1)) (plY (cC x1 z2) (dA y1 z2) (cC x2 z1) (dA y2 z1)) (plZ z1 z2 (cC x1 z2) (cC x2 z1)) (add p q)):=by
 match p,q,h,hp,h',hq with
 | none,_,h,_,_,_=>exact absurd h n1
 | some (a,b),none,_,_,h,_=>exact absurd h n2
 | some (a,b),some (c,d),h,hp,h',hq =>
  obtain⟨-,ex1,ey1⟩:=h;obtain⟨-,ex2,ey2⟩:=h';have ht:=mul_ne C.pr n1 n2;have e1:cC x1 z2=a*(z1*z2)^2:=by subst ex1;unfold cC;clear hp hq;grobner
  have e2:dA y1 z2=b*(z1*z2)^3:=by subst ey1;unfold dA;clear hp hq;grobner
  have e3:cC x2 z1=c*(z1*z2)^2:=by subst ex2;unfold cC;clear hp hq;grobner
  have e4:dA y2 z1=d*(z1*z2)^3:=by subst ey2;unfold dA;clear hp hq;grobner
  by_cases hs:cC x1 z2=cC x2 z1/\dA y1 z2=dA y2 z1
  ·refine Ql ⟨hs.1,hs.2,?_⟩;have h1:a=c:=wE C ht (by rw[<-e1,<-e3];exact hs.1);have h2:b=d:=wE C ht (by rw[<-e2,<-e4];exact hs.2);rw[h1,h2]
  ·refine Qc ⟨hs,?_⟩;by_cases hac:a=c
   ·have hd:d = -b:=Rc fun hn=>hs ⟨by rw[e1,e3,hac],by
     have:=kA C.pr (x:=a) hp (by rw[hac];exact hq) hn;rw[e2,e4,this]⟩
    rw[eO ⟨hac,hd⟩];show plZ _ _ _ _=0;rw[e1,e3,hac];unfold plZ;clear hp hq
    grobner
   ·have ho:¬(a=c/\d = -b):=fun h=>hac h.1
    have L:=aZ C.pr C.two hp hq ho;rw[bL C.pr C.two hp hq ho L];have hZ:plZ z1 z2 (cC x1 z2) (cC x2 z1)=z1*z2*(cC x2 z1-cC x1 z2):=rfl;have hx:=OW L.run.1 e1 e2 e3 e4 hZ;refine⟨?_,hx,OV L.run.1 e1 e2 e3 e4 hZ hx⟩;rw[hZ];refine mul_ne C.pr ht (fun h=>hac ?_);exact wE C (k:=2) ht (by rw[<-e1,<-e3];clear hp hq L hx;grobner)
theorem Jac.zero(C:Cur P){x y z:Fin P}{p:Pt P}(h:Jac x y z p)(hz:z=0):p=none:=by
 match p,h with
 | none,_=>rfl
 | some (a,b),h=>exact absurd hz h.1
theorem Jac.neg{x y z:Fin P}{p:Pt P}(h:Jac x y z p):Jac x (0-y) z (neg p):=by
 match p,h with
 | none,h=>exact h
 | some (a,b),h=>exact⟨h.1,h.2.1,by have:=h.2.2;show 0-y = -b*z^3;grobner⟩
theorem inv_zero(C:Cur P):inv (0:Fin P)=0:=by
 apply Ud;have h2:=C.pr.1;show(0:Fin P).val^(P-2)%P=_;rw[val_zero];by_cases h:P=2
 ·exact absurd (Ud (by rw[val_zero];show 2%P=0;rw[h])) C.two
 ·rw[Xx (by omega),Nat.zero_mod]
theorem Jac.pair(C:Cur P){x y z:Fin P}{p:Pt P}(h:Jac x y z p):Pair (x*(inv z*inv z)) (y*(inv z*inv z)*inv z) p:=by
 match p,h with
 | none,h =>
  have h0:z=0:=h;subst h0;rw[inv_zero C];exact⟨by grobner,by grobner⟩
 | some (a,b),h =>
  have hi:=inv_mul C.pr h.1;obtain⟨-,ex,ey⟩:=h;generalize inv z=i at hi⊢;subst ex ey;exact⟨by grobner,by grobner⟩
theorem Pair.jac(C:Cur P){x y:Fin P}{p:Pt P}(h:Pair x y p)(hn:¬(x=0/\y=0)):Jac x y 1 p:=by
 match p,h with
 | none,h=>exact absurd h hn
 | some (a,b),h =>
  obtain⟨ex,ey⟩:=h;subst ex ey;refine⟨fun e=>?_,by grobner,by grobner⟩;have:=congrArg Wp e;rw[val_zero,val_one C.pr]at this;omega
theorem Pair.nothing(C:Cur P){x y:Fin P}{p:Pt P}(h:Pair x y p)(hp:On p)(hn:x=0/\y=0):p=none:=by
 match p,h,hp with
 | none,_,_=>rfl
 | some (a,b),h,hp =>
  obtain⟨ex,ey⟩:=h;exact absurd (by rw[<-ey];exact hn.2) (C.y_ne hp)
/- The reference's fractions. -/
def frT(d e w v2 : Fin P): Fin P:=d * d * w-e * e * e-(v2 + v2) * (e * e)
theorem Pn{a b c d l w v v2 u u2:Fin P}(g:d-b=l*(c-a))(e1:v2=a*w)(e2:u2=b*w)(e3:v=c*w)(e4:u=d*w):(v-v2)*frT (u-u2) (v-v2) w v2=(l^2-a-c)*((v-v2)*(v-v2)*(v-v2)*w):=by
 have e5:d=b+l*(c-a):=by grobner
 subst e5 e1 e2 e3 e4;clear g;unfold frT
 grobner (ringSteps:=100000000)
theorem Pm{a b c d l w v v2 u u2:Fin P}(g:d-b=l*(c-a))(e1:v2=a*w)(e2:u2=b*w)(e3:v=c*w)(e4:u=d*w):
 (u-u2)*(v2*((v-v2)*(v-v2))-frT (u-u2) (v-v2) w v2)-u2*((v-v2)*(v-v2)*(v-v2))=(l*(a-(l^2-a-c))-b)*((v-v2)*(v-v2)*(v-v2)*w):=by
 have e5:d=b+l*(c-a):=by grobner
 subst e5 e1 e2 e3 e4;clear g;unfold frT
 grobner (ringSteps:=100000000)
def fdD(x:Fin P):Fin P:=x*x+x*x+x*x
def fdE(y z:Fin P):Fin P:=(y+y)*z
def fdT(x y z:Fin P):Fin P:=fdD x*fdD x*z-(x+x)*(fdE y z*fdE y z)
theorem Pp{a b l x y z:Fin P}(g:l*(2*b)=3*a^2)(ex:x=a*z)(ey:y=b*z):fdE y z*fdT x y z=(l^2-a-a)*(fdE y z*fdE y z*fdE y z*z):=by
 subst ex ey;have h1:(l*(2*b))^2=(3*a^2)^2:=by rw[g]
 unfold fdT fdD fdE
 grobner (ringSteps:=100000000)
theorem Pq{a b l x y z:Fin P}(g:l*(2*b)=3*a^2)(ex:x=a*z)(ey:y=b*z):fdT x y z=(l^2-a-a)*(fdE y z*fdE y z*z):=by
 subst ex ey;have h1:(l*(2*b))^2=(3*a^2)^2:=by rw[g]
 unfold fdT fdD fdE
 grobner (ringSteps:=100000000)
theorem Po{a b l x y z X:Fin P}(g:l*(2*b)=3*a^2)(ex:x=a*z)(ey:y=b*z)(hT:fdT x y z=X*(fdE y z*fdE y z*z)):
 fdD x*(x*(fdE y z*fdE y z)-fdT x y z)-y*(fdE y z*fdE y z*fdE y z)=(l*(a-X)-b)*(fdE y z*fdE y z*fdE y z*z):=by
 rw[hT];clear hT;subst ex ey;unfold fdD fdE
 grobner (ringSteps:=100000000)
theorem Frac.zero{x y z:Fin P}{p:Pt P}(h:Frac x y z p)(hz:z=0):p=none:=by
 match p,h with
 | none,_=>rfl
 | some (a,b),h=>exact absurd hz h.1
theorem Frac.double(C:Cur P){x y z:Fin P}{p:Pt P}(h:Frac x y z p)(hp:On p)(hz:z≠0):
 Frac (fdE y z*fdT x y z) (fdD x*(x*(fdE y z*fdE y z)-fdT x y z)-y*(fdE y z*fdE y z*fdE y z)) (fdE y z*fdE y z*fdE y z*z) (add p p):=by
 match p,h,hp with
 | none,h,_=>exact absurd h hz
 | some (a,b),h,hp =>
  obtain⟨-,ex,ey⟩:=h;have ho:=C.opp_ne hp;have L:=aZ C.pr C.two hp hp ho;rw[bL C.pr C.two hp hp ho L];have hb:=C.y_ne hp;have he:fdE y z≠0:=fun e=>by
   refine mul_ne C.pr (mul_ne C.pr C.two hb) (mul_ne C.pr hz hz) ?_;unfold fdE at e;subst ey;clear hp L
   grobner
  exact⟨mul_ne C.pr (mul_ne C.pr (mul_ne C.pr he he) he) hz,Pp L.at ex ey,Po L.at ex ey (Pq L.at ex ey)⟩
theorem Frac.plus(C:Cur P){x1 y1 z1 x2 y2 z2:Fin P}{p q:Pt P}(h:Frac x1 y1 z1 p)(hp:On p)(h':Frac x2 y2 z2 q)(hq:On q)(n1:z1≠0)(n2:z2≠0):
 (x2*z1=x1*z2/\¬y2*z1=y1*z2/\add p q=none)\/(x2*z1=x1*z2/\y2*z1=y1*z2/\¬y2*z1=0/\add p q=add p p) \/
 (¬x2*z1=x1*z2/\Frac ((x2*z1-x1*z2)*frT (y2*z1-y1*z2) (x2*z1-x1*z2) (z1*z2) (x1*z2))
  ((y2*z1-y1*z2)*(x1*z2*((x2*z1-x1*z2)*(x2*z1-x1*z2))-frT (y2*z1-y1*z2) (x2*z1-x1*z2) (z1*z2) (x1*z2))-y1*z2*((x2*z1-x1*z2)*(x2*z1-x1*z2)*(x2*z1-x1*z2)))
  ((x2*z1-x1*z2)*(x2*z1-x1*z2)*(x2*z1-x1*z2)*(z1*z2)) (add p q)):=by
 match p,q,h,hp,h',hq with
 | none,_,h,_,_,_=>exact absurd h n1
 | some (a,b),none,_,_,h,_=>exact absurd h n2
 | some (a,b),some (c,d),h,hp,h',hq =>
  obtain⟨-,ex1,ey1⟩:=h;obtain⟨-,ex2,ey2⟩:=h';have ht:=mul_ne C.pr n1 n2;have e1:x1*z2=a*(z1*z2):=by subst ex1;clear hp hq;grobner
  have e2:y1*z2=b*(z1*z2):=by subst ey1;clear hp hq;grobner
  have e3:x2*z1=c*(z1*z2):=by subst ex2;clear hp hq;grobner
  have e4:y2*z1=d*(z1*z2):=by subst ey2;clear hp hq;grobner
  generalize x1*z2=v2 at *;generalize y1*z2=u2 at *;generalize x2*z1=v at *;generalize y2*z1=u at *;by_cases hs:v=v2
  ·have hac:a=c:=cancel C.pr ht (by rw[<-e1,<-e3,hs]);by_cases hu:u=u2
   ·have hbd:b=d:=cancel C.pr ht (by rw[<-e2,<-e4,hu]);refine Qc (Ql ⟨hs,hu,?_,by rw[hac,hbd]⟩);rw[e4];exact mul_ne C.pr (C.y_ne hq) ht
   ·refine Ql ⟨hs,hu,eO ⟨hac,?_⟩⟩;exact Rc fun hn=>hu (by
     have:=kA C.pr (x:=a) hp (by rw[hac];exact hq) hn;rw[e4,e2,this])
  ·refine Qc (Qc ⟨hs,?_⟩);have hac:¬a=c:=fun h=>hs (by rw[e3,e1,h])
   have ho:¬(a=c/\d = -b):=fun h=>hac h.1
   have L:=aZ C.pr C.two hp hq ho;rw[bL C.pr C.two hp hq ho L];have hd:v-v2≠0:=jX hs;exact⟨mul_ne C.pr (mul_ne C.pr (mul_ne C.pr hd hd) hd) ht,Pn L.run.1 e1 e2 e3 e4,Pm L.run.1 e1 e2 e3 e4⟩
end EC
namespace EC
variable {P:Nat}[NeZero P]
def mul:Nat->Pt P->Pt P
 | 0,_=>none
 | n+1,a=>add (mul n a) a
theorem eN:On (none:Pt P):=trivial
theorem fX(a:Pt P):add none a=a:=rfl
theorem Cur.on(C:Cur P){a b:Pt P}(ha:On a)(hb:On b):On (add a b):=BZ C.pr C.two a b ha hb
theorem Cur.comm(C:Cur P){a b:Pt P}(ha:On a)(hb:On b):add a b=add b a:=add_comm C.pr C.two a b ha hb
theorem Cur.assoc(C:Cur P){a b c:Pt P}(ha:On a)(hb:On b)(hc:On c):add (add a b) c=add a (add b c):=add_assoc C.pr C.two C.sev a b c ha hb hc
theorem Cur.neg_l(C:Cur P){a:Pt P}(ha:On a):add (neg a) a=none:=by
 rw[C.comm (b8 ha) ha,add_neg]
theorem Cur.swap(C:Cur P){a b c d:Pt P}(ha:On a)(hb:On b)(hc:On c)(hd:On d):add (add a b) (add c d)=add (add a c) (add b d):=by
 rw[C.assoc ha hb (C.on hc hd),<-C.assoc hb hc hd,C.comm hb hc,C.assoc hc hb hd,<-C.assoc ha hc (C.on hb hd)]
theorem bI(C:Cur P){a:Pt P}(ha:On a):∀n,On (mul n a)
 | 0=>eN
 | n+1=>C.on (bI C ha n) ha
theorem mul_add(C:Cur P){a:Pt P}(ha:On a)(m:Nat):∀n,mul (m+n) a=add (mul m a) (mul n a)
 | 0=>(bD _).symm
 | n+1=>by
  show add (mul (m+n) a) a=add (mul m a) (add (mul n a) a);rw[mul_add C ha m n,C.assoc (bI C ha m) (bI C ha n) ha]
def cZ:Int->Pt P->Pt P
 | .ofNat n,a=>mul n a
 | .negSucc n,a=>neg (mul (n+1) a)
theorem fD(C:Cur P){a:Pt P}(ha:On a):∀n,On (cZ n a)
 | .ofNat n=>bI C ha n
 | .negSucc n=>b8 (bI C ha (n+1))
theorem lA(C:Cur P){a:Pt P}(ha:On a):∀n,cZ (n+1) a=add (cZ n a) a
 | .ofNat n=>rfl
 | .negSucc 0=>by
  show(none:Pt P)=add (neg (add none a)) a;rw[fX,C.neg_l ha]
 | .negSucc (n+1)=>by
  show neg (mul (n+1) a)=add (neg (add (mul (n+1) a) a)) a;have h1:=bI C ha (n+1);rw[neg_add C.pr C.two h1 ha,C.assoc (b8 h1) (b8 ha) ha,C.neg_l ha,bD]
theorem nX(C:Cur P){a:Pt P}(ha:On a)(n:Int):cZ (n-1) a=add (cZ n a) (neg a):=by
 have h:=lA C ha (n-1);rw[Int.sub_add_cancel]at h;rw[h,C.assoc (fD C ha _) ha (b8 ha),add_neg,bD]
theorem xO(C:Cur P){a:Pt P}(ha:On a)(m:Int):∀n:Nat,cZ (m+n) a=add (cZ m a) (cZ n a)
 | 0=>by rw[Qz,Vk];exact(bD _).symm
 | n+1=>by
  rw[show m+((n+1:Nat):Int)=(m+n)+1 by omega,lA C ha,xO C ha m n,show((n+1:Nat):Int)=(n:Int)+1 by omega,lA C ha,
   C.assoc (fD C ha _) (fD C ha _) ha]
theorem xM(C:Cur P){a:Pt P}(ha:On a):∀n:Nat,cZ (-(n:Int)) a=neg (cZ n a)
 | 0=>rfl
 | n+1=>by
  have h1:cZ (((n+1:Nat):Int)) a=add (cZ n a) a:=by rw[show((n+1:Nat):Int)=(n:Int)+1 by omega,lA C ha]
  rw[h1,neg_add C.pr C.two (fD C ha _) ha,<-xM C ha n,show -((n+1:Nat):Int) = -(n:Int)-1 by omega,nX C ha]
theorem xJ(C:Cur P){a:Pt P}(ha:On a)(m:Int):∀n:Nat,cZ (m-n) a=add (cZ m a) (cZ (-(n:Int)) a)
 | 0=>by rw[Qz,Int.sub_zero];exact(bD _).symm
 | n+1=>by
  rw[show m-((n+1:Nat):Int)=(m-n)-1 by omega,nX C ha,xJ C ha m n,show -((n+1:Nat):Int) = -(n:Int)-1 by omega,nX C ha,
   C.assoc (fD C ha _) (fD C ha _) (b8 ha)]
theorem qL(C:Cur P){a:Pt P}(ha:On a)(m n:Int):cZ (m+n) a=add (cZ m a) (cZ n a):=by
 rcases Int.le_total 0 n with h|h
 ·obtain⟨k,rfl⟩:=VO h;exact xO C ha m k
 ·obtain⟨k,hk⟩:=VO (show 0<=-n by omega);obtain rfl:n = -(k:Int):=by omega
  rw[<-xJ C ha m k,Int.sub_eq_add_neg]
theorem xK(a:Pt P):cZ 1 a=a:=fX a
theorem DT(a:Pt P):cZ 0 a=none:=rfl
def tot(a:Nat->Pt P):Nat->(Nat->Int)->Pt P
 | 0,_=>none
 | k+1,f=>add (tot a k f) (cZ (f k) (a k))
theorem Ap(C:Cur P){a:Nat->Pt P}(f:Nat->Int):∀k,(∀i,i<k->On (a i))->On (tot a k f)
 | 0,_=>eN
 | k+1,h=>C.on (Ap C f k fun i hi=>h i (by omega)) (fD C (h k (by omega)) _)
theorem dM{a:Nat->Pt P}{f g:Nat->Int}:∀k,(∀i,i<k->f i=g i)->tot a k f=tot a k g
 | 0,_=>rfl
 | k+1,h=>by
  show add (tot a k f) _=add (tot a k g) _;rw[dM k (fun i hi=>h i (by omega)),h k (by omega)]
theorem qP(a:Nat->Pt P){f:Nat->Int}:∀k,(∀i,i<k->f i=0)->tot a k f=none
 | 0,_=>rfl
 | k+1,h=>by
  show add (tot a k f) _=none;rw[qP a k (fun i hi=>h i (by omega)),h k (by omega)];rfl
theorem vL(C:Cur P){a:Nat->Pt P}(f g:Nat->Int):∀k,(∀i,i<k->On (a i))->tot a k (fun j=>f j+g j)=add (tot a k f) (tot a k g)
 | 0,_=>rfl
 | k+1,h=>by
  have h1:∀i,i<k->On (a i):=fun i hi=>h i (by omega)
  have h2:=h k (by omega);show add (tot a k _) (cZ (f k+g k) (a k))=add (add (tot a k f) (cZ (f k) (a k))) (add (tot a k g) (cZ (g k) (a k)));rw[vL C f g k h1,qL C h2,C.swap (Ap C f k h1) (Ap C g k h1) (fD C h2 _) (fD C h2 _)]
theorem Cp(C:Cur P){a:Nat->Pt P}(i:Nat)(d:Int):∀k,i<k->(∀i,i<k->On (a i))->tot a k (fun j=>if j=i then d else 0)=cZ d (a i)
 | k+1,hi,h=>by
  show add (tot a k _) (cZ (if k=i then d else 0) (a k))=_;by_cases hk:k=i
  ·subst hk;rw[if_pos rfl,qP a k (fun j hj=>if_neg (by omega))];rfl
  ·rw[if_neg hk,Cp C i d k (by omega) (fun j hj=>h j (by omega))];exact bD _
theorem IA(C:Cur P){a:Nat->Pt P}(f:Nat->Int)(i:Nat)(d:Int)(k:Nat)(hi:i<k)(h:∀i,i<k->On (a i)):
 tot a k (fun j=>if j=i then f j+d else f j)=add (tot a k f) (cZ d (a i)):=by
 rw[<-Cp C i d k hi h,<-vL C f _ k h];refine dM k fun j _=>?_
 by_cases hj:j=i
 ·rw[if_pos hj,if_pos hj]
 ·rw[if_neg hj,if_neg hj,Vk]
theorem DY(C:Cur P){a:Nat->Pt P}(f:Nat->Int)(k:Nat)(h:∀i,i<k->On (a i)):tot a k (fun j=>2*f j)=add (tot a k f) (tot a k f):=by
 rw[<-vL C f f k h];exact dM k fun j _=>by omega
end EC
namespace EC
theorem IR{P c:Nat}(hP:NT.IsP P)(h3:P=3*c+1)(h7:7<P)(hk:(P-7)^c%P≠1)(x:Nat):(x*x*x+7)%P≠0:=fun e=>by
 have hx:¬P ∣ x:=fun hd=>by
  have h1:P ∣ x*x*x:=Nat.dvd_mul_left_of_dvd hd _;have h2:P ∣ 7:=(Nat.dvd_add_right h1).1 (SN e);have:=Td (by decide) h2;omega
 have h1:=hP.fermat1 x hx;have h2:x*x*x%P=P-7:=by
  have hlt:x*x*x%P<P:=RN _ (by omega);have h4:(x*x*x%P+7)%P=0:=by rw[Xg];exact e
  by_cases hq:x*x*x%P+7<P
  ·rw[Qf hq]at h4;omega
  ·rw[Wq (by omega),Qf (by omega)]at h4;omega
 apply hk;rw[<-h2,<-V6];rw[<-h1]
 congr 1
 rw[show P-1=3*c by omega,T0]
 congr 1
 rw[Rk,Rk,TZ]
theorem Mt{P c:Nat}[NeZero P](hP:NT.IsP P)(h3:P=3*c+1)(h7:7<P)(hk:(P-7)^c%P≠1):Cur P:=by
 refine⟨hP,fun e=>?_,fun x e=>?_⟩
 ·have:=congrArg Wp e;rw[val_zero]at this;have h2:(2:Fin P).val=2%P:=rfl;rw[h2,Qf (by omega)]at this;omega
 ·have e2:x*x*x+7=0:=by rw[<-e];grobner
  have:=congrArg Wp e2;rw[val_zero,Fin.val_add,S9,S9]at this;have h2:(7:Fin P).val=7%P:=rfl;rw[h2,Xf,Xg,Nat.add_mod_mod]at this;exact IR hP h3 h7 hk x.val this
theorem JG:NT.pm 115792089237316195423570985008687907853269984665640564039457584007908834671663 256 (115792089237316195423570985008687907853269984665640564039457584007908834671663-7) 38597363079105398474523661669562635951089994888546854679819194669302944890554 1≠1:=by decide +kernel
theorem NC{P c k:Nat}(hc:c<2^k)(h1:1<P)(h:NT.pm P k (P-7) c 1≠1):(P-7)^c%P≠1:=fun e=>h (by rw[NT.CP P k _ c 1 hc h1,TD];exact e)
theorem cur:∃(P:Nat) (_:NeZero P),P=115792089237316195423570985008687907853269984665640564039457584007908834671663/\Cur P:=by
 have hp:=NT.pP;have hk:=JG;have h3:115792089237316195423570985008687907853269984665640564039457584007908834671663=3*38597363079105398474523661669562635951089994888546854679819194669302944890554+1:=by decide +kernel
 have hc:38597363079105398474523661669562635951089994888546854679819194669302944890554<2^256:=by decide +kernel
 have h7:7<115792089237316195423570985008687907853269984665640564039457584007908834671663:=by decide +kernel
 generalize 38597363079105398474523661669562635951089994888546854679819194669302944890554=c at *;generalize 115792089237316195423570985008687907853269984665640564039457584007908834671663=P at *;have hz:NeZero P:=⟨by omega⟩
 exact⟨P,hz,rfl,Mt hp h3 h7 (NC hc (by omega) hk)⟩
end EC
section
open Go.RowKit Go.Sort
structure At4(w:World)(k a b c d:Nat):Prop where
 c0:w.cell? ⟨k,0,none⟩=some (.int .u64 a)
 c1:w.cell? ⟨k,1,none⟩=some (.int .u64 b)
 c2:w.cell? ⟨k,2,none⟩=some (.int .u64 c)
 c3:w.cell? ⟨k,3,none⟩=some (.int .u64 d)
 f:∀o,w.frozen? ⟨k,o,none⟩=false
variable {w w1:World}{k a b c d:Nat}
theorem At4.lt(h:At4 w k a b c d):k<w.heap.size:=Rx _ _ h.c0
theorem At4.below{B:Nat}(h:At4 w k a b c d)(hb:Below B w w1)(hk:k<B):At4 w1 k a b c d:=
 ⟨by rw[hb.cell (p:=⟨k,0,none⟩) hk];exact h.c0,by rw[hb.cell (p:=⟨k,1,none⟩) hk];exact h.c1,by rw[hb.cell (p:=⟨k,2,none⟩) hk];exact h.c2,by rw[hb.cell (p:=⟨k,3,none⟩) hk];exact h.c3,
  fun o=>by rw[hb.frozen (p:=⟨k,o,none⟩) hk];exact h.f o⟩
theorem At4.call(h:At4 w k a b c d)(hb:Below w.heap.size w w1):At4 w1 k a b c d:=h.below hb h.lt
theorem At4.alloc(h:At4 w k a b c d)(o:Obj):At4 (w.alloc o) k a b c d:=h.call (aE w o)
theorem At4.drewN(h:At4 w k a b c d)(q:Nat):At4 (w.drewN q) k a b c d:=⟨h.c0,h.c1,h.c2,h.c3,h.f⟩
theorem At4.new(w:World)(t:TypeId)(a b c d:Nat):At4 (w.alloc (.cells #[.int .u64 a,.int .u64 b,.int .u64 c,.int .u64 d] t)) w.heap.size a b c d:=
 ⟨by rw[Qj];rfl,by rw[Qj];rfl,by rw[Qj];rfl,by rw[Qj];rfl,fun o=>Ri _ _ _ _⟩
theorem At4.made(w:World)(t:TypeId)(a b c d:Nat){k:Nat}(hk:w.heap.size=k):At4 (w.alloc (.cells #[.int .u64 a,.int .u64 b,.int .u64 c,.int .u64 d] t)) k a b c d:=
 hk ▸ At4.new w t a b c d
theorem aB{i j:Nat}{o o':Nat}(h:i≠j\/o≠o'):(⟨i,o,none⟩:Addr)≠⟨j,o',none⟩:=by
 intro e;simp only[Addr.mk.injEq,and_true]at e;omega
theorem At4.other{j o : Nat}(h : At4 w k a b c d)(hj : j ≠ k)(v : Value): At4 (w.setCell ⟨j, o, none⟩ v) k a b c d :=
  ⟨by rw [PO _ _ _ _ (aB (Ql hj))]; exact h.c0, by rw [PO _ _ _ _ (aB (Ql hj))]; exact h.c1,
   by rw [PO _ _ _ _ (aB (Ql hj))]; exact h.c2, by rw [PO _ _ _ _ (aB (Ql hj))]; exact h.c3, fun o => by rw [Qk]; exact h.f o⟩
theorem At4.set0(h : At4 w k a b c d)(x : Nat): At4 (w.setCell ⟨k, 0, none⟩ (.int .u64 (x : Int))) k x b c d :=
  ⟨Qu _ _ _ h.c0, by rw [PO _ _ _ _ (aB (Qc (by decide)))]; exact h.c1,
   by rw [PO _ _ _ _ (aB (Qc (by decide)))]; exact h.c2, by rw [PO _ _ _ _ (aB (Qc (by decide)))]; exact h.c3, fun o => by rw [Qk]; exact h.f o⟩
theorem At4.set1(h : At4 w k a b c d)(x : Nat): At4 (w.setCell ⟨k, 1, none⟩ (.int .u64 (x : Int))) k a x c d :=
  ⟨by rw [PO _ _ _ _ (aB (Qc (by decide)))]; exact h.c0, Qu _ _ _ h.c1,
   by rw [PO _ _ _ _ (aB (Qc (by decide)))]; exact h.c2, by rw [PO _ _ _ _ (aB (Qc (by decide)))]; exact h.c3, fun o => by rw [Qk]; exact h.f o⟩
theorem At4.set2(h : At4 w k a b c d)(x : Nat): At4 (w.setCell ⟨k, 2, none⟩ (.int .u64 (x : Int))) k a b x d :=
  ⟨by rw [PO _ _ _ _ (aB (Qc (by decide)))]; exact h.c0, by rw [PO _ _ _ _ (aB (Qc (by decide)))]; exact h.c1,
   Qu _ _ _ h.c2, by rw [PO _ _ _ _ (aB (Qc (by decide)))]; exact h.c3, fun o => by rw [Qk]; exact h.f o⟩
theorem At4.set3(h : At4 w k a b c d)(x : Nat): At4 (w.setCell ⟨k, 3, none⟩ (.int .u64 (x : Int))) k a b c x :=
  ⟨by rw [PO _ _ _ _ (aB (Qc (by decide)))]; exact h.c0, by rw [PO _ _ _ _ (aB (Qc (by decide)))]; exact h.c1,
   by rw [PO _ _ _ _ (aB (Qc (by decide)))]; exact h.c2, Qu _ _ _ h.c3, fun o => by rw [Qk]; exact h.f o⟩
theorem At4.drew(h:At4 w k a b c d):At4 w.drew k a b c d:=⟨h.c0,h.c1,h.c2,h.c3,h.f⟩
def set4(w:World)(k:Nat)(x y z t:Value):World:=(((w.setCell ⟨k,0,none⟩ x).setCell ⟨k,1,none⟩ y).setCell ⟨k,2,none⟩ z).setCell ⟨k,3,none⟩ t
theorem At4.self4(h:At4 w k a b c d)(x y z t:Nat):At4 (set4 w k (.int .u64 x) (.int .u64 y) (.int .u64 z) (.int .u64 t)) k x y z t:=(((h.set0 x).set1 y).set2 z).set3 t
theorem At4.other4{j:Nat}(h:At4 w k a b c d)(hj:j≠k)(x y z t:Value):At4 (set4 w j x y z t) k a b c d:=(((h.other hj x).other hj y).other hj z).other hj t
theorem aD{B j:Nat}{w0:World}(h:Below B w0 w)(hj:B<=j)(x y z t:Value):Below B w0 (set4 w j x y z t):=
 (((h.setCell (p:=⟨j,0,none⟩) hj x).setCell (p:=⟨j,1,none⟩) hj y).setCell (p:=⟨j,2,none⟩) hj z).setCell (p:=⟨j,3,none⟩) hj t
theorem DZ(w:World)(j:Nat)(x y z t:Value):(set4 w j x y z t).heap.size=w.heap.size:=by simp[set4]
end
section
open Go.RowKit Go.Sort
variable {P:Nat}[NeZero P]{N:Nat}
structure FoldI(w wr:World)(g0 g1 g2 a b c d p q r s:Nat):Prop where
 bl:Below w.heap.size w wr
 pr:At4 wr w.heap.size g0 g1 g2 0
 lo:At4 wr (w.heap.size+1) a b c d
 hi:At4 wr (w.heap.size+1+1) p q r s
 re:At4 wr (w.heap.size+1+1+1) 0 0 0 0
 ha:a<18446744073709551616
 hb:b<18446744073709551616
 hc:c<18446744073709551616
 hd:d<18446744073709551616
 hp:p<18446744073709551616
 hq:q<18446744073709551616
 hr:r<18446744073709551616
 hs:s<18446744073709551616
theorem GW{a b c d p q r s g0 g1 g2 t k P gk:Nat}(hP:P+val g0 g1 g2 0=top)(hP2:top<2*P)(hlt:val a b c d<top)(hg:gk=val a b c d+top*val 0 0 0 0)
 (he:t+top*k=val a b c d+val g0 g1 g2 0) (hk:k<=1) (es:t=val p q r s) (ht:t<top):(k=0->val a b c d=gk%P)/\(k=1->val p q r s=gk%P):=by
 have hg':gk=val a b c d:=by rw[hg];rfl
 rw[hg'];generalize val a b c d=x at *;generalize val g0 g1 g2 0=g at *;refine⟨fun h=>?_,fun h=>?_⟩
 ·subst h;rw[Qf (by omega)]
 ·subst h;rw[<-es,Wq (by omega),Qf (by omega)];omega
theorem Iy{p q r s:Nat}(h:¬(p=0/\q=0/\r=0/\s=0)):0<val p q r s:=by unfold val;omega
theorem EE{x h g P gk:Nat}(hpos:0<h)(hP:P+g=top)(hP2:top<2*P)(hg:gk=x+top*h):x+g*h<gk/\(x+g*h)%P=gk%P:=by
 have e:gk=x+g*h+P*h:=by rw[hg,<-hP,SK];omega
 rw[e,TX];have:0<P*h:=Nat.mul_pos (by omega) hpos;exact⟨by omega,rfl⟩
theorem zI{l t a b c d g h x:Nat}(h1:g*h+x=l+18446744073709551616*t)(h2:t=val a b c d):val l a b c+top*val d 0 0 0=x+val g 0 0 0*h:=by
 have e:val g 0 0 0=g:=by unfold val;omega
 rw[e];generalize g*h=y at *;unfold val at *;unfold top;omega
theorem val_mul(g0 g1 g2 h:Nat):val g0 g1 g2 0*h=g0*h+18446744073709551616*(g1*h)+340282366920938463463374607431768211456*(g2*h):=by
 unfold val;rw[SK,SK,SK,RH,RH];omega
theorem sA{l0 l1 l2 g0 g1 g2 h x a b c d a' b' c' d' a'' b'' c'' d'':Nat}(h1:l0+18446744073709551616*val a b c d=g0*h+x)
 (h2:l1+18446744073709551616*val a' b' c' d'=g1*h+val a b c d) (h3:l2+18446744073709551616*val a'' b'' c'' d''=g2*h+val a' b' c' d') :
 val l0 l1 l2 a''+top*val b'' c'' d'' 0=x+val g0 g1 g2 0*h:=by
 rw[val_mul];generalize g0*h=y0 at *;generalize g1*h=y1 at *;generalize g2*h=y2 at *;generalize val a b c d=v1 at *;generalize val a' b' c' d'=v2 at *;unfold val at *;unfold top;omega
theorem sC(g0 g1 g2:Nat)(x y:Value)(m n P:Nat)(hg0:g0<18446744073709551616)(hg1:g1<18446744073709551616)(hg2:g2<18446744073709551616)
 (hor:(g1=0/\g2=0)\/∃o:Nat,bits .or .u64 (g1:Int) (g2:Int)=(o:Int)/\o≠0) (hP:P+val g0 g1 g2 0=top) (hP2:top<2*P) (hx:Four x m) (hy:Four y n) (w:World) :
 Calls prog 156 #[.agg #[.int .u64 g0,.int .u64 g1,.int .u64 g2,.int .u64 0],x,y] w (Ret fun e w'=>Below w.heap.size w w'/\Four e ((m+top*n)%P)):=by
 obtain⟨a,b,c,d,rfl,ha,hb,hc,hd,em⟩:=hx;obtain⟨p,q,r,s,rfl,hp,hq,hr,hs,en⟩:=hy;go_enter Tryz.func156,Tryz.ntmps156;go_wp2;go_loopg [] (val a b c d+top*val p q r s) (fun g wr=>∃(a b c d p q r s:Nat),FoldI w wr g0 g1 g2 a b c d p q r s/\g=val a b c d+top*val p q r s/\Hid (g%P=(m+top*n)%P))
 case atStart =>
  have b4:=eI w (.cells #[.int .u64 g0,.int .u64 g1,.int .u64 g2,.int .u64 0] 135) (.cells #[.int .u64 a,.int .u64 b,.int .u64 c,.int .u64 d] 133) (.cells #[.int .u64 p,.int .u64 q,.int .u64 r,.int .u64 s] 133) (.cells #[.int .u64 0,.int .u64 0,.int .u64 0,.int .u64 0] 133);refine⟨a,b,c,d,p,q,r,s,⟨b4,?_,?_,?_,?_,ha,hb,hc,hd,hp,hq,hr,hs⟩,rfl,?_⟩
  ·exact(((At4.new w 135 g0 g1 g2 0).alloc _).alloc _).alloc _
  ·exact((At4.made (w.alloc _) 133 a b c d (Qa _ _)).alloc _).alloc _
  ·exact(At4.made ((w.alloc _).alloc _) 133 p q r s (by simp)).alloc _
  ·exact At4.made (((w.alloc _).alloc _).alloc _) 133 0 0 0 0 (by simp)
  ·rw[em,en];rfl
 case round =>
  obtain⟨a,b,c,d,p,q,r,s,hI,hg,HE⟩:=hrel;clear em en ha hb hc hd hp hq hr hs;obtain⟨bl,pr,lo,hi,re,ha,hb,hc,hd,hp,hq,hr,hs⟩:=hI;have HB:Hid (Below w.heap.size w wr):=bl;clear bl;generalize h3:w.heap.size+1+1+1=k3 at re⊢;generalize h2:w.heap.size+1+1=k2 at hi⊢;generalize h1:w.heap.size+1=k1 at lo⊢;have H:Hid (w.heap.size+1=k1/\w.heap.size+1+1=k2/\w.heap.size+1+1+1=k3):=⟨h1,h2,h3⟩
  generalize h0:w.heap.size=k0 at pr HB⊢;have H0:Hid (w.heap.size=k0):=h0;have Q01:Hid (k0<=k1):=by unfold Hid;omega
  have n01:k0≠k1:=by omega
  have n02:k0≠k2:=by omega
  have n03:k0≠k3:=by omega
  have n12:k1≠k2:=by omega
  have n13:k1≠k3:=by omega
  have n23:k2≠k3:=by omega
  have z0:=pr.lt;have z1:=lo.lt;have z2:=hi.lt;have z3:=re.lt;clear h0 h1 h2 h3;by_cases hz:p=0/\q=0/\r=0/\s=0
  ·obtain⟨rfl,rfl,rfl,rfl⟩:=hz;obtain⟨p0,p1,p2,p3,pf⟩:=id pr;obtain⟨l0,l1,l2,l3,lf⟩:=id lo;obtain⟨h0,h1,h2,h3,hf⟩:=id hi;obtain⟨r0,r1,r2,r3,rf⟩:=id re;go_wp2_with fail
   refine(m6 _ _ _ _ (Four.mk ha hb hc hd rfl) (Four.mk hg0 hg1 hg2 (by decide) rfl) _).mono ?_;rintro e w1 ⟨v,rfl,hb1,v4,t,k,rfl,⟨a',b',c',d',rfl,ha',hb',hc',hd',es⟩,hk,he⟩;have hfin:=GW hP hP2 (eY ha hb hc hd) hg he hk es (es ▸ eY ha' hb' hc' hd');rw[HE.out]at hfin;have HF:Hid _:=hfin;clear hfin;clear p0 p1 p2 p3 pf l0 l1 l2 l3 lf h0 h1 h2 h3 hf r0 r1 r2 r3 rf he es hg HE;have lo1:=lo.call hb1;have re1:=re.call hb1;have z3:=re1.lt;have z1:=lo1.lt;have HB1:Hid (Below k0 w w1):=HB.out.trans (hb1.mono (by omega));obtain⟨l0,l1,l2,l3,lf⟩:=id lo1;obtain⟨r0,r1,r2,r3,rf⟩:=id re1;have hk':k=0\/k=1:=by omega
   rcases hk' with rfl|rfl
   ·go_wp2;have rf1:=((((re1.set0 a).set1 b).set2 c).set3 d).alloc (.cells #[.int .u64 a',.int .u64 b',.int .u64 c',.int .u64 d'] 133);refine bodyPost_ret (v:=?v0) ?hr0 rfl ?hR0
    case hr0=>simp[results,Tryz.results156,go_sem,rf1.c0,rf1.c1,rf1.c2,rf1.c3];rfl
    refine⟨_,rfl,?_,Four.mk ha hb hc hd (HF.out.1 trivial).symm⟩;rw[H0.out];have q0:k0<=k3:=by have:=H.out;have:=H0.out;omega
    have q1:=(((HB1.out.setCell (p:=⟨k3,0,none⟩) q0 (.int .u64 a)).setCell (p:=⟨k3,1,none⟩) q0 (.int .u64 b)).setCell (p:=⟨k3,2,none⟩) q0 (.int .u64 c)).setCell (p:=⟨k3,3,none⟩) q0 (.int .u64 d);exact q1.alloc (by simp;omega) _
   ·go_wp2;have rf1:=((((re1.set0 a').set1 b').set2 c').set3 d').alloc (.cells #[.int .u64 a',.int .u64 b',.int .u64 c',.int .u64 d'] 133);refine bodyPost_ret (v:=?v1) ?hr1 rfl ?hR1
    case hr1=>simp[results,Tryz.results156,go_sem,rf1.c0,rf1.c1,rf1.c2,rf1.c3];rfl
    refine⟨_,rfl,?_,Four.mk ha' hb' hc' hd' (HF.out.2 trivial).symm⟩;rw[H0.out];have q0:k0<=k3:=by have:=H.out;have:=H0.out;omega
    have q1:=(((HB1.out.setCell (p:=⟨k3,0,none⟩) q0 (.int .u64 a')).setCell (p:=⟨k3,1,none⟩) q0 (.int .u64 b')).setCell (p:=⟨k3,2,none⟩) q0 (.int .u64 c')).setCell (p:=⟨k3,3,none⟩) q0 (.int .u64 d');exact q1.alloc (by simp;omega) _
  ·go_upto_region 1 with fail
   go_cut [12] from 10 to 72 (fun c wx=>c=.bool true/\wr=wx)
   case first =>
    obtain⟨h0,h1,h2,h3,hf⟩:=id hi;go_wp2_with fail
    all_goals (go_meet;exact⟨rfl,rfl⟩)
   case rest =>
    obtain⟨rfl,rfl⟩:=hcut;have hlt:=EE (Iy hz) hP hP2 hg;clear hz;obtain⟨p0,p1,p2,p3,pf⟩:=id pr;obtain⟨l0,l1,l2,l3,lf⟩:=id lo;obtain⟨h0,h1,h2,h3,hf⟩:=id hi;rcases hor with⟨rfl,rfl⟩|⟨o,ho,hne⟩
    ·have hor:bits .or .u64 0 0=0:=by decide +kernel
     go_wp2_with fail
     refine(gZ g0 _ _ _ _ hg0 (Four.mk hp hq hr hs rfl) (Four.mk ha hb hc hd rfl) _).mono ?_;rintro e w1 ⟨v,rfl,hb1,l,v4,t,rfl,hl,⟨a',b',c',d',rfl,ha',hb',hc',hd',es⟩,he⟩;have lo1:=(lo.alloc _).call hb1;have hi1:=(hi.alloc _).call hb1;have pr1:=(pr.alloc _).call hb1;have re1:=(re.alloc _).call hb1;have tm1:=(At4.new wr 133 0 0 0 0).call hb1;have HB1:Hid (Below k0 w w1):=(HB.out.alloc (by omega) _).trans (hb1.mono (by simp;omega));clear hb1 p0 p1 p2 p3 pf l0 l1 l2 l3 lf h0 h1 h2 h3 hf lo hi pr re;generalize hk4:wr.heap.size=k4 at tm1 z0 z1 z2 z3⊢;clear hk4;have m0:k0≠k4:=by omega
     have m1:k1≠k4:=by omega
     have m2:k2≠k4:=by omega
     have m3:k3≠k4:=by omega
     have M:Hid (k0<k4):=z0;clear z0 z1 z2 z3;have z0:=pr1.lt;have z1:=lo1.lt;have z2:=hi1.lt;have z3:=re1.lt;have z4:=tm1.lt;have HQ:Hid (g0*val p q r s+val a b c d=l+18446744073709551616*t/\t=val a' b' c' d'):=⟨he.symm,es⟩
     have HL:Hid (_/\_):=hlt;clear he es hlt hg;obtain⟨p0,p1,p2,p3,pf⟩:=id pr1;obtain⟨l0,l1,l2,l3,lf⟩:=id lo1;obtain⟨h0,h1,h2,h3,hf⟩:=id hi1;obtain⟨t0,t1,t2,t3,tf⟩:=id tm1;go_wp2;go_region
     go_wp2;obtain⟨q1,q2,q3⟩:=H.out;have q0:=H0.out;subst q1 q2 q3 q0;go_roundg (val l a' b' c'+top*val d' 0 0 0)
     case measure=>rw[zI HQ.out.1 HQ.out.2];exact HL.out.1
     case rel =>
      refine⟨l,a',b',c',d',0,0,0,⟨?_,?_,?_,?_,?_,hl,ha',hb',hc',hd',by decide,by decide,by decide⟩,rfl,?_⟩
      ·have s1:=(HB1.out.setCell (p:=⟨w.heap.size+1,0,none⟩) (UO _) (.int .u64 l))
       exact(aD (aD (aD s1 (SD M.out) _ _ _ _) (UO _) _ _ _ _) (by omega) _ _ _ _).drew
      ·exact((((pr1.other n01.symm _).other4 m0.symm _ _ _ _).other4 n01.symm _ _ _ _).other4 n02.symm _ _ _ _).drew
      ·exact((((lo1.set0 l).other4 m1.symm _ _ _ _).self4 l a' b' c').other4 n12.symm _ _ _ _).drew
      ·exact((((hi1.other n12 _).other4 m2.symm _ _ _ _).other4 n12 _ _ _ _).self4 d' 0 0 0).drew
      ·exact((((re1.other n13 _).other4 m3.symm _ _ _ _).other4 n13 _ _ _ _).other4 n23 _ _ _ _).drew
      ·unfold Hid;rw[zI HQ.out.1 HQ.out.2,<-HE.out];exact HL.out.2
    ·go_wp2_with fail
     refine(gZ g0 _ _ _ _ hg0 (Four.mk hp hq hr hs rfl) (Four.mk ha hb hc hd rfl) _).mono ?_;rintro e w1 ⟨v,rfl,hb1,l,v4,t,rfl,hl,⟨a',b',c',d',rfl,ha',hb',hc',hd',es⟩,he⟩;have lo1:=(lo.alloc _).call hb1;have hi1:=(hi.alloc _).call hb1;have pr1:=(pr.alloc _).call hb1;have re1:=(re.alloc _).call hb1;have tm1:=(At4.new wr 133 0 0 0 0).call hb1;have HB1:Hid (Below k0 w w1):=(HB.out.alloc (by omega) _).trans (hb1.mono (by simp;omega));clear hb1 p0 p1 p2 p3 pf l0 l1 l2 l3 lf h0 h1 h2 h3 hf lo hi pr re;generalize hk4:wr.heap.size=k4 at tm1 z0 z1 z2 z3⊢;clear hk4;have m0:k0≠k4:=by omega
     have m1:k1≠k4:=by omega
     have m2:k2≠k4:=by omega
     have m3:k3≠k4:=by omega
     have M:Hid (k0<k4):=z0;clear z0 z1 z2 z3;have HQ1:Hid (l+18446744073709551616*val a' b' c' d'=g0*val p q r s+val a b c d):=by unfold Hid;rw[<-es];exact he
     have HL:Hid (_/\_):=hlt;clear he es hlt hg;have z0:=pr1.lt;have z1:=lo1.lt;have z2:=hi1.lt;have z3:=re1.lt;have z4:=tm1.lt;obtain⟨p0,p1,p2,p3,pf⟩:=id pr1;obtain⟨l0,l1,l2,l3,lf⟩:=id lo1;obtain⟨h0,h1,h2,h3,hf⟩:=id hi1;obtain⟨t0,t1,t2,t3,tf⟩:=id tm1;go_wp2_with fail
     refine(gZ g1 _ _ _ _ hg1 (Four.mk hp hq hr hs rfl) (Four.mk ha' hb' hc' hd' rfl) _).mono ?_;rintro e w2 ⟨v,rfl,hb2,l',v5,t,rfl,hl',⟨a2,b2,c2,d2,rfl,ha2,hb2',hc2,hd2,es⟩,he⟩;have lo2:=((lo1.set0 l).other4 m1.symm _ _ _ _).call hb2;have hi2:=((hi1.other n12 _).other4 m2.symm _ _ _ _).call hb2;have pr2:=((pr1.other n01.symm _).other4 m0.symm _ _ _ _).call hb2;have re2:=((re1.other n13 _).other4 m3.symm _ _ _ _).call hb2;have tm2:=((tm1.other m1 _).self4 a' b' c' d').call hb2;have HB2:Hid (Below k0 w w2):=((aD (HB1.out.setCell (p:=⟨k1,0,none⟩) Q01.out _) (SD M.out) _ _ _ _).trans (hb2.mono (by simp;omega)))
     clear hb2 p0 p1 p2 p3 pf l0 l1 l2 l3 lf h0 h1 h2 h3 hf t0 t1 t2 t3 tf lo1 hi1 pr1 re1 tm1 HB1 z0 z1 z2 z3 z4;have HQ2:Hid (l'+18446744073709551616*val a2 b2 c2 d2=g1*val p q r s+val a' b' c' d'):=by unfold Hid;rw[<-es];exact he
     clear he es;have z0:=pr2.lt;have z1:=lo2.lt;have z2:=hi2.lt;have z3:=re2.lt;have z4:=tm2.lt;obtain⟨p0,p1,p2,p3,pf⟩:=id pr2;obtain⟨l0,l1,l2,l3,lf⟩:=id lo2;obtain⟨h0,h1,h2,h3,hf⟩:=id hi2;obtain⟨t0,t1,t2,t3,tf⟩:=id tm2;go_wp2_with fail
     refine(gZ g2 _ _ _ _ hg2 (Four.mk hp hq hr hs rfl) (Four.mk ha2 hb2' hc2 hd2 rfl) _).mono ?_;rintro e w3 ⟨v,rfl,hb3,l'',v6,t,rfl,hl'',⟨a3,b3,c3,d3,rfl,ha3,hb3',hc3,hd3,es⟩,he⟩;have lo3:=((lo2.set1 l').other4 m1.symm _ _ _ _).call hb3;have hi3:=((hi2.other n12 _).other4 m2.symm _ _ _ _).call hb3;have pr3:=((pr2.other n01.symm _).other4 m0.symm _ _ _ _).call hb3;have re3:=((re2.other n13 _).other4 m3.symm _ _ _ _).call hb3;have tm3:=((tm2.other m1 _).self4 a2 b2 c2 d2).call hb3;have HB3:Hid (Below k0 w w3):=((aD (HB2.out.setCell (p:=⟨k1,1,none⟩) Q01.out _) (SD M.out) _ _ _ _).trans (hb3.mono (by simp;omega)))
     clear hb3 p0 p1 p2 p3 pf l0 l1 l2 l3 lf h0 h1 h2 h3 hf t0 t1 t2 t3 tf lo2 hi2 pr2 re2 tm2 HB2 z0 z1 z2 z3 z4;have HQ3:Hid (l''+18446744073709551616*val a3 b3 c3 d3=g2*val p q r s+val a2 b2 c2 d2):=by unfold Hid;rw[<-es];exact he
     clear he es;have z0:=pr3.lt;have z1:=lo3.lt;have z2:=hi3.lt;have z3:=re3.lt;have z4:=tm3.lt;obtain⟨l0,l1,l2,l3,lf⟩:=id lo3;obtain⟨h0,h1,h2,h3,hf⟩:=id hi3;obtain⟨t0,t1,t2,t3,tf⟩:=id tm3;go_wp2;go_region
     go_wp2;clear l0 l1 l2 l3 lf h0 h1 h2 h3 hf t0 t1 t2 t3 tf;obtain⟨q1,q2,q3⟩:=H.out;have q0:=H0.out;subst q1 q2 q3 q0;go_roundg (val l l' l'' a3+top*val b3 c3 d3 0)
     case measure=>rw[sA HQ1.out HQ2.out HQ3.out];exact HL.out.1
     case rel =>
      refine⟨l,l',l'',a3,b3,c3,d3,0,⟨?_,?_,?_,?_,?_,hl,hl',hl'',ha3,hb3',hc3,hd3,by decide⟩,rfl,?_⟩
      ·have s1:=(HB3.out.setCell (p:=⟨w.heap.size+1,2,none⟩) (UO _) (.int .u64 l''))
       have s2:=(aD s1 (SD M.out) (.int .u64 a3) (.int .u64 b3) (.int .u64 c3) (.int .u64 d3))
       exact(aD (s2.setCell (p:=⟨w.heap.size+1,3,none⟩) (UO _) (.int .u64 a3)) (by omega) _ _ _ _).drew
      ·exact((((pr3.other n01.symm _).other4 m0.symm _ _ _ _).other n01.symm _).other4 n02.symm _ _ _ _).drew
      ·exact((((lo3.set2 l'').other4 m1.symm _ _ _ _).set3 a3).other4 n12.symm _ _ _ _).drew
      ·exact((((hi3.other n12 _).other4 m2.symm _ _ _ _).other n12 _).self4 b3 c3 d3 0).drew
      ·exact((((re3.other n13 _).other4 m3.symm _ _ _ _).other n13 _).other4 n23 _ _ _ _).drew
      ·unfold Hid;rw[sA HQ1.out HQ2.out HQ3.out,<-HE.out];exact HL.out.2
end
section
open Go.RowKit Go.Sort
structure At8(w:World)(k a b c d e f g h:Nat):Prop where
 c0:w.cell? ⟨k,0,none⟩=some (.int .u64 a)
 c1:w.cell? ⟨k,1,none⟩=some (.int .u64 b)
 c2:w.cell? ⟨k,2,none⟩=some (.int .u64 c)
 c3:w.cell? ⟨k,3,none⟩=some (.int .u64 d)
 c4:w.cell? ⟨k,4,none⟩=some (.int .u64 e)
 c5:w.cell? ⟨k,5,none⟩=some (.int .u64 f)
 c6:w.cell? ⟨k,6,none⟩=some (.int .u64 g)
 c7:w.cell? ⟨k,7,none⟩=some (.int .u64 h)
 fz:∀o,w.frozen? ⟨k,o,none⟩=false
variable {w w1:World}{k a b c d e f g h:Nat}
theorem At8.lt(H:At8 w k a b c d e f g h):k<w.heap.size:=Rx _ _ H.c0
theorem At8.below{B:Nat}(H:At8 w k a b c d e f g h)(hb:Below B w w1)(hk:k<B):At8 w1 k a b c d e f g h:=
 ⟨by rw[hb.cell (p:=⟨k,0,none⟩) hk];exact H.c0,by rw[hb.cell (p:=⟨k,1,none⟩) hk];exact H.c1,by rw[hb.cell (p:=⟨k,2,none⟩) hk];exact H.c2,by rw[hb.cell (p:=⟨k,3,none⟩) hk];exact H.c3,by rw[hb.cell (p:=⟨k,4,none⟩) hk];exact H.c4,by rw[hb.cell (p:=⟨k,5,none⟩) hk];exact H.c5,by rw[hb.cell (p:=⟨k,6,none⟩) hk];exact H.c6,by rw[hb.cell (p:=⟨k,7,none⟩) hk];exact H.c7,
  fun o=>by rw[hb.frozen (p:=⟨k,o,none⟩) hk];exact H.fz o⟩
theorem At8.call(H:At8 w k a b c d e f g h)(hb:Below w.heap.size w w1):At8 w1 k a b c d e f g h:=H.below hb H.lt
theorem At8.alloc(H:At8 w k a b c d e f g h)(o:Obj):At8 (w.alloc o) k a b c d e f g h:=H.call (aE w o)
theorem At8.drewN(H:At8 w k a b c d e f g h)(q:Nat):At8 (w.drewN q) k a b c d e f g h:=⟨H.c0,H.c1,H.c2,H.c3,H.c4,H.c5,H.c6,H.c7,H.fz⟩
theorem At8.made(w:World)(t:TypeId)(a b c d e f g h:Nat){k:Nat}(hk:w.heap.size=k):At8 (w.alloc (.cells #[.int .u64 a,.int .u64 b,.int .u64 c,.int .u64 d,.int .u64 e,.int .u64 f,.int .u64 g,.int .u64 h] t)) k a b c d e f g h:=by
 subst hk;exact⟨by rw[Qj];rfl,by rw[Qj];rfl,by rw[Qj];rfl,by rw[Qj];rfl,by rw[Qj];rfl,by rw[Qj];rfl,by rw[Qj];rfl,by rw[Qj];rfl,fun o=>Ri _ _ _ _⟩
theorem At8.other{j o:Nat}(H:At8 w k a b c d e f g h)(hj:j≠k)(v:Value):At8 (w.setCell ⟨j,o,none⟩ v) k a b c d e f g h:=
 ⟨by rw[PO _ _ _ _ (aB (Ql hj))];exact H.c0,by rw[PO _ _ _ _ (aB (Ql hj))];exact H.c1,by rw[PO _ _ _ _ (aB (Ql hj))];exact H.c2,by rw[PO _ _ _ _ (aB (Ql hj))];exact H.c3,by rw[PO _ _ _ _ (aB (Ql hj))];exact H.c4,by rw[PO _ _ _ _ (aB (Ql hj))];exact H.c5,by rw[PO _ _ _ _ (aB (Ql hj))];exact H.c6,by rw[PO _ _ _ _ (aB (Ql hj))];exact H.c7,fun o=>by rw[Qk];exact H.fz o⟩
theorem At8.set0(H:At8 w k a b c d e f g h)(x:Nat):At8 (w.setCell ⟨k,0,none⟩ (.int .u64 x)) k x b c d e f g h:=
 ⟨Qu _ _ _ H.c0,by rw[PO _ _ _ _ (aB (Qc (by decide)))];exact H.c1,by rw[PO _ _ _ _ (aB (Qc (by decide)))];exact H.c2,by rw[PO _ _ _ _ (aB (Qc (by decide)))];exact H.c3,by rw[PO _ _ _ _ (aB (Qc (by decide)))];exact H.c4,by rw[PO _ _ _ _ (aB (Qc (by decide)))];exact H.c5,by rw[PO _ _ _ _ (aB (Qc (by decide)))];exact H.c6,by rw[PO _ _ _ _ (aB (Qc (by decide)))];exact H.c7,fun o=>by rw[Qk];exact H.fz o⟩
theorem At8.set1(H:At8 w k a b c d e f g h)(x:Nat):At8 (w.setCell ⟨k,1,none⟩ (.int .u64 x)) k a x c d e f g h:=
 ⟨by rw[PO _ _ _ _ (aB (Qc (by decide)))];exact H.c0,Qu _ _ _ H.c1,by rw[PO _ _ _ _ (aB (Qc (by decide)))];exact H.c2,by rw[PO _ _ _ _ (aB (Qc (by decide)))];exact H.c3,by rw[PO _ _ _ _ (aB (Qc (by decide)))];exact H.c4,by rw[PO _ _ _ _ (aB (Qc (by decide)))];exact H.c5,by rw[PO _ _ _ _ (aB (Qc (by decide)))];exact H.c6,by rw[PO _ _ _ _ (aB (Qc (by decide)))];exact H.c7,fun o=>by rw[Qk];exact H.fz o⟩
theorem At8.set2(H:At8 w k a b c d e f g h)(x:Nat):At8 (w.setCell ⟨k,2,none⟩ (.int .u64 x)) k a b x d e f g h:=
 ⟨by rw[PO _ _ _ _ (aB (Qc (by decide)))];exact H.c0,by rw[PO _ _ _ _ (aB (Qc (by decide)))];exact H.c1,Qu _ _ _ H.c2,by rw[PO _ _ _ _ (aB (Qc (by decide)))];exact H.c3,by rw[PO _ _ _ _ (aB (Qc (by decide)))];exact H.c4,by rw[PO _ _ _ _ (aB (Qc (by decide)))];exact H.c5,by rw[PO _ _ _ _ (aB (Qc (by decide)))];exact H.c6,by rw[PO _ _ _ _ (aB (Qc (by decide)))];exact H.c7,fun o=>by rw[Qk];exact H.fz o⟩
theorem At8.set3(H:At8 w k a b c d e f g h)(x:Nat):At8 (w.setCell ⟨k,3,none⟩ (.int .u64 x)) k a b c x e f g h:=
 ⟨by rw[PO _ _ _ _ (aB (Qc (by decide)))];exact H.c0,by rw[PO _ _ _ _ (aB (Qc (by decide)))];exact H.c1,by rw[PO _ _ _ _ (aB (Qc (by decide)))];exact H.c2,Qu _ _ _ H.c3,by rw[PO _ _ _ _ (aB (Qc (by decide)))];exact H.c4,by rw[PO _ _ _ _ (aB (Qc (by decide)))];exact H.c5,by rw[PO _ _ _ _ (aB (Qc (by decide)))];exact H.c6,by rw[PO _ _ _ _ (aB (Qc (by decide)))];exact H.c7,fun o=>by rw[Qk];exact H.fz o⟩
theorem At8.set4(H:At8 w k a b c d e f g h)(x:Nat):At8 (w.setCell ⟨k,4,none⟩ (.int .u64 x)) k a b c d x f g h:=
 ⟨by rw[PO _ _ _ _ (aB (Qc (by decide)))];exact H.c0,by rw[PO _ _ _ _ (aB (Qc (by decide)))];exact H.c1,by rw[PO _ _ _ _ (aB (Qc (by decide)))];exact H.c2,by rw[PO _ _ _ _ (aB (Qc (by decide)))];exact H.c3,Qu _ _ _ H.c4,by rw[PO _ _ _ _ (aB (Qc (by decide)))];exact H.c5,by rw[PO _ _ _ _ (aB (Qc (by decide)))];exact H.c6,by rw[PO _ _ _ _ (aB (Qc (by decide)))];exact H.c7,fun o=>by rw[Qk];exact H.fz o⟩
theorem At8.set5(H:At8 w k a b c d e f g h)(x:Nat):At8 (w.setCell ⟨k,5,none⟩ (.int .u64 x)) k a b c d e x g h:=
 ⟨by rw[PO _ _ _ _ (aB (Qc (by decide)))];exact H.c0,by rw[PO _ _ _ _ (aB (Qc (by decide)))];exact H.c1,by rw[PO _ _ _ _ (aB (Qc (by decide)))];exact H.c2,by rw[PO _ _ _ _ (aB (Qc (by decide)))];exact H.c3,by rw[PO _ _ _ _ (aB (Qc (by decide)))];exact H.c4,Qu _ _ _ H.c5,by rw[PO _ _ _ _ (aB (Qc (by decide)))];exact H.c6,by rw[PO _ _ _ _ (aB (Qc (by decide)))];exact H.c7,fun o=>by rw[Qk];exact H.fz o⟩
theorem At8.set6(H:At8 w k a b c d e f g h)(x:Nat):At8 (w.setCell ⟨k,6,none⟩ (.int .u64 x)) k a b c d e f x h:=
 ⟨by rw[PO _ _ _ _ (aB (Qc (by decide)))];exact H.c0,by rw[PO _ _ _ _ (aB (Qc (by decide)))];exact H.c1,by rw[PO _ _ _ _ (aB (Qc (by decide)))];exact H.c2,by rw[PO _ _ _ _ (aB (Qc (by decide)))];exact H.c3,by rw[PO _ _ _ _ (aB (Qc (by decide)))];exact H.c4,by rw[PO _ _ _ _ (aB (Qc (by decide)))];exact H.c5,Qu _ _ _ H.c6,by rw[PO _ _ _ _ (aB (Qc (by decide)))];exact H.c7,fun o=>by rw[Qk];exact H.fz o⟩
theorem At8.set7(H:At8 w k a b c d e f g h)(x:Nat):At8 (w.setCell ⟨k,7,none⟩ (.int .u64 x)) k a b c d e f g x:=
 ⟨by rw[PO _ _ _ _ (aB (Qc (by decide)))];exact H.c0,by rw[PO _ _ _ _ (aB (Qc (by decide)))];exact H.c1,by rw[PO _ _ _ _ (aB (Qc (by decide)))];exact H.c2,by rw[PO _ _ _ _ (aB (Qc (by decide)))];exact H.c3,by rw[PO _ _ _ _ (aB (Qc (by decide)))];exact H.c4,by rw[PO _ _ _ _ (aB (Qc (by decide)))];exact H.c5,by rw[PO _ _ _ _ (aB (Qc (by decide)))];exact H.c6,Qu _ _ _ H.c7,fun o=>by rw[Qk];exact H.fz o⟩
def xZ(w:World)(k:Nat)(x0 x1 x2 x3 x4 x5 x6 x7:Value):World:=
 (((((((w.setCell ⟨k,0,none⟩ x0).setCell ⟨k,1,none⟩ x1).setCell ⟨k,2,none⟩ x2).setCell ⟨k,3,none⟩ x3).setCell ⟨k,4,none⟩ x4).setCell ⟨k,5,none⟩ x5).setCell ⟨k,6,none⟩ x6).setCell ⟨k,7,none⟩ x7
theorem At8.self8(H:At8 w k a b c d e f g h)(x0 x1 x2 x3 x4 x5 x6 x7:Nat):At8 (xZ w k (.int .u64 x0) (.int .u64 x1) (.int .u64 x2) (.int .u64 x3) (.int .u64 x4) (.int .u64 x5) (.int .u64 x6) (.int .u64 x7)) k x0 x1 x2 x3 x4 x5 x6 x7:=
 (((((((H.set0 x0).set1 x1).set2 x2).set3 x3).set4 x4).set5 x5).set6 x6).set7 x7
theorem At8.other8{j:Nat}(H:At8 w k a b c d e f g h)(hj:j≠k)(x0 x1 x2 x3 x4 x5 x6 x7:Value):At8 (xZ w j x0 x1 x2 x3 x4 x5 x6 x7) k a b c d e f g h:=
 (((((((H.other hj x0).other hj x1).other hj x2).other hj x3).other hj x4).other hj x5).other hj x6).other hj x7
theorem At4.other8{j:Nat}{w:World}{k a b c d:Nat}(H:At4 w k a b c d)(hj:j≠k)(x0 x1 x2 x3 x4 x5 x6 x7:Value):At4 (xZ w j x0 x1 x2 x3 x4 x5 x6 x7) k a b c d:=
 (((((((H.other hj x0).other hj x1).other hj x2).other hj x3).other hj x4).other hj x5).other hj x6).other hj x7
theorem pR{B j:Nat}{w0:World}(H:Below B w0 w)(hj:B<=j)(x0 x1 x2 x3 x4 x5 x6 x7:Value):Below B w0 (xZ w j x0 x1 x2 x3 x4 x5 x6 x7):=
 (((((((H.setCell (p:=⟨j,0,none⟩) hj x0).setCell (p:=⟨j,1,none⟩) hj x1).setCell (p:=⟨j,2,none⟩) hj x2).setCell (p:=⟨j,3,none⟩) hj x3).setCell (p:=⟨j,4,none⟩) hj x4).setCell (p:=⟨j,5,none⟩) hj x5).setCell (p:=⟨j,6,none⟩) hj x6).setCell (p:=⟨j,7,none⟩) hj x7
theorem aT{B:Nat}{w0:World}(H:Below B w0 w)(q:Nat):Below B w0 (w.drewN q):=⟨H.os,H.tape,H.output,H.size,H.block⟩
end
section
open Go.RowKit Go.Sort
variable {P:Nat}[NeZero P]{N:Nat}
structure Gap(g0 g1 g2 P:Nat):Prop where
 h0:g0<18446744073709551616
 h1:g1<18446744073709551616
 h2:g2<18446744073709551616
 hor:(g1=0/\g2=0)\/∃o:Nat,bits .or .u64 (g1:Int) (g2:Int)=(o:Int)/\o≠0
 hP:P+val g0 g1 g2 0=top
 hP2:top<2*P
 hg:0<val g0 g1 g2 0
theorem sY{k a b c d:Nat}{w W w1:World}(h:Hid (Below k w W))(pr:At4 W k a b c d)(hb:Below W.heap.size W w1):Hid (Below k w w1):=h.out.trans (hb.mono (SD pr.lt))
end
section
open Go.RowKit Go.Sort
structure Blk where
 k:Nat
 o:Nat
 a:Nat
 b:Nat
 c:Nat
 d:Nat
structure Blk.at(x:Blk)(w:World):Prop where
 c0:w.cell? ⟨x.k,x.o,none⟩=some (.int .u64 (x.a:Int))
 c1:w.cell? ⟨x.k,x.o+1,none⟩=some (.int .u64 (x.b:Int))
 c2:w.cell? ⟨x.k,x.o+2,none⟩=some (.int .u64 (x.c:Int))
 c3:w.cell? ⟨x.k,x.o+3,none⟩=some (.int .u64 (x.d:Int))
 f:∀o,w.frozen? ⟨x.k,o,none⟩=false
structure Kept(w:World)(k0:Nat)(l:List Blk)(W:World):Prop where
 bl:Below k0 w W
 le:k0<=W.heap.size
 at':∀x∈l,x.at W
variable {w W w1:World}{k0:Nat}{l:List Blk}{x:Blk}
theorem Blk.at.lt(h:x.at W):x.k<W.heap.size:=Rx _ _ h.c0
theorem Blk.at.call(h:x.at W)(hb:Below W.heap.size W w1):x.at w1:=
 ⟨by rw[hb.cell (p:=⟨x.k,x.o,none⟩) h.lt];exact h.c0,by rw[hb.cell (p:=⟨x.k,x.o+1,none⟩) h.lt];exact h.c1,by rw[hb.cell (p:=⟨x.k,x.o+2,none⟩) h.lt];exact h.c2,by rw[hb.cell (p:=⟨x.k,x.o+3,none⟩) h.lt];exact h.c3,
  fun o=>by rw[hb.frozen (p:=⟨x.k,o,none⟩) h.lt];exact h.f o⟩
theorem Blk.at.other{j i : Nat}(h : x.at W)(hj : j ≠ x.k)(v : Value): x.at (W.setCell ⟨j, i, none⟩ v) :=
  ⟨by rw [PO _ _ _ _ (aB (Ql hj))]; exact h.c0, by rw [PO _ _ _ _ (aB (Ql hj))]; exact h.c1,
   by rw [PO _ _ _ _ (aB (Ql hj))]; exact h.c2, by rw [PO _ _ _ _ (aB (Ql hj))]; exact h.c3, fun o => by rw [Qk]; exact h.f o⟩
theorem Kept.call(h:Kept w k0 l W)(hb:Below W.heap.size W w1):Kept w k0 l w1:=
 ⟨h.bl.trans (hb.mono h.le),Qn h.le hb.size,fun x hx=>(h.at' x hx).call hb⟩
theorem Kept.drew(h:Kept w k0 l W):Kept w k0 l W.drew:=⟨h.bl.drew,h.le,fun x hx=>⟨(h.at' x hx).c0,(h.at' x hx).c1,(h.at' x hx).c2,(h.at' x hx).c3,(h.at' x hx).f⟩⟩
theorem Kept.undrew(h:Kept w k0 l W.drew):Kept w k0 l W:=
 ⟨⟨h.bl.os,h.bl.tape,h.bl.output,h.bl.size,h.bl.block⟩,h.le,fun x hx=>⟨(h.at' x hx).c0,(h.at' x hx).c1,(h.at' x hx).c2,(h.at' x hx).c3,(h.at' x hx).f⟩⟩
theorem Kept.alloc(h:Kept w k0 l W)(o:Obj):Kept w k0 l (W.alloc o):=h.call (aE W o)
theorem Kept.set{j i:Nat}(h:Kept w k0 l W)(hj:k0<=j)(hl:∀x∈l,j≠x.k)(v:Value):Kept w k0 l (W.setCell ⟨j,i,none⟩ v):=
 ⟨h.bl.setCell (p:=⟨j,i,none⟩) hj v,by simpa using h.le,fun x hx=>(h.at' x hx).other (hl x hx) v⟩
theorem Kept.set4{j:Nat}(h:Kept w k0 l W)(hj:k0<=j)(hl:∀x∈l,j≠x.k)(p q r s:Value):Kept w k0 l (Go.Proofs.YtfcnimopdjjhcaaGreat.set4 W j p q r s):=
 (((h.set hj hl p).set hj hl q).set hj hl r).set hj hl s
theorem Kept.set4'{j:Nat}(h:Kept w k0 l W)(hj:k0<=j)(hl:∀x∈l,j≠x.k)(p q r s:Value):
 Kept w k0 l ((((W.setCell ⟨j,0,none⟩ p).setCell ⟨j,1,none⟩ q).setCell ⟨j,2,none⟩ r).setCell ⟨j,3,none⟩ s):=h.set4 hj hl p q r s
theorem Kept.lts(h:Kept w k0 l W):∀x∈l,x.k<W.heap.size:=fun x hx=>(h.at' x hx).lt
theorem Kept.head(h:Kept w k0 (x :: l) W):x.at W:=h.at' x (Qy)
theorem Kept.tail(h:Kept w k0 (x :: l) W):Kept w k0 l W:=⟨h.bl,h.le,fun y hy=>h.at' y (Qv _ hy)⟩
theorem At4.blk{k a b c d:Nat}(h:At4 W k a b c d):(Blk.mk k 0 a b c d).at W:=⟨h.c0,h.c1,h.c2,h.c3,h.f⟩
theorem Blk.at.at4{k a b c d:Nat}(h:(Blk.mk k 0 a b c d).at W):At4 W k a b c d:=⟨h.c0,h.c1,h.c2,h.c3,h.f⟩
theorem Kept.mk1(hb:Below k0 w W)(hl:k0<=W.heap.size):Kept w k0 [] W:=⟨hb,hl,fun _ h=>by cases h⟩
theorem Kept.cons(h:Kept w k0 l W)(hx:x.at W):Kept w k0 (x :: l) W:=
 ⟨h.bl,h.le,fun y hy=>by rcases QU.1 hy with rfl|h2;exact hx;exact h.at' y h2⟩
theorem Kept.put{j a b c d:Nat}(h:Kept w k0 (⟨j,0,a,b,c,d⟩ :: l) W)(hj:k0<=j)(hl:∀x∈l,j≠x.k)(x y z t:Nat):
 Kept w k0 (⟨j,0,x,y,z,t⟩ :: l) ((((W.setCell ⟨j,0,none⟩ (.int .u64 x)).setCell ⟨j,1,none⟩ (.int .u64 y)).setCell ⟨j,2,none⟩ (.int .u64 z)).setCell ⟨j,3,none⟩ (.int .u64 t)):=
 (h.tail.set4' hj hl _ _ _ _).cons (h.head.at4.self4 x y z t).blk
end
section
open Go.RowKit Go.Sort
variable {P:Nat}[NeZero P]{N:Nat}
theorem zC(w:World)(t0 t1 t2 t3:TypeId)(a b c d e f g h i j k l m n o p:Nat):
 Kept w w.heap.size [⟨w.heap.size,0,a,b,c,d⟩,⟨w.heap.size+1,0,e,f,g,h⟩,⟨w.heap.size+1+1,0,i,j,k,l⟩,⟨w.heap.size+1+1+1,0,m,n,o,p⟩]
  ((((w.alloc (.cells #[.int .u64 a,.int .u64 b,.int .u64 c,.int .u64 d] t0)).alloc (.cells #[.int .u64 e,.int .u64 f,.int .u64 g,.int .u64 h] t1)).alloc (.cells #[.int .u64 i,.int .u64 j,.int .u64 k,.int .u64 l] t2)).alloc (.cells #[.int .u64 m,.int .u64 n,.int .u64 o,.int .u64 p] t3)):=by
 refine((((Kept.mk1 (eI w _ _ _ _) (eI w _ _ _ _).size).cons ?_).cons ?_).cons ?_).cons ?_
 ·exact(At4.made _ t3 m n o p (by simp)).blk
 ·exact((At4.made _ t2 i j k l (by simp)).alloc _).blk
 ·exact(((At4.made _ t1 e f g h (by simp)).alloc _).alloc _).blk
 ·exact((((At4.made _ t0 a b c d rfl).alloc _).alloc _).alloc _).blk
theorem Jn{g0 g1 g2 P m n s l:Nat}(hG:Gap g0 g1 g2 P)(h1:s+top*0=m+n)(h2:l+top*0=s+val g0 g1 g2 0)(hl:l<top):(m+n)%P=s:=by
 have:=hG.hP;rw[<-h1,Ul,RD,Qf (by omega)]
theorem Jo{g0 g1 g2 P m n s l k j:Nat}(hG:Gap g0 g1 g2 P)(hm:m<P)(hn:n<P)(h1:s+top*k=m+n)(h2:l+top*j=s+val g0 g1 g2 0)(hk:k<=1)(hj:j<=1)(hz:¬(k=0/\j=0))(hs:s<top)(_:l<top):(m+n)%P=l:=by
 have h3:=hG.hP;have h4:=hG.hP2;have hk':k=0\/k=1:=by omega
 have hj':j=0\/j=1:=by omega
 have:m+n=l+P:=by
  rcases hk' with h|h<;>rcases hj' with h'|h'<;>rw[h]at h1<;>rw[h']at h2<;>first|omega|(exfalso;exact hz ⟨h,h'⟩)
 rw[this,WH,Qf (by omega)]
theorem or2(a b:Nat)(ha:a<=1)(hb:b<=1):∃o:Nat,bits .or .u64 (a:Int) (b:Int)=(o:Int)/\(o=0↔(a=0/\b=0)):=by
 have h1:a=0\/a=1:=by omega
 have h2:b=0\/b=1:=by omega
 rcases h1 with rfl|rfl<;>rcases h2 with rfl|rfl
 ·exact⟨0,by decide +kernel,by decide⟩
 ·exact⟨1,by decide +kernel,by decide⟩
 ·exact⟨1,by decide +kernel,by decide⟩
 ·exact⟨1,by decide +kernel,by decide⟩
theorem Gy{P m n s:Nat}(hm:m<P)(hn:n<P)(h1:s+n=m+top*0):(m+P-n)%P=s:=by
 rw[show m+P-n=s+P by omega,WH,Qf (by omega)]
theorem Gz{g0 g1 g2 P m n s l j:Nat}(hG:Gap g0 g1 g2 P)(_:m<P)(hn:n<P)(h1:s+n=m+top*1)(h2:l+val g0 g1 g2 0=s+top*j)(hj:j<=1)(hl:l<top)(hs:s<top):(m+P-n)%P=l:=by
 have h3:=hG.hP;have hj':j=0\/j=1:=by omega
 have:m+P-n=l:=by
  rcases hj' with h'|h'<;>rw[h']at h2<;>omega
 rw[this,Qf (by omega)]
theorem sum_any(g0 g1 g2 P:Nat)(x y:Value)(m n:Nat)(hG:Gap g0 g1 g2 P)(hx:Four x m)(hy:Four y n)(hm:m<P)(hn:n<P)(w:World):
 Calls prog 138 #[.agg #[.int .u64 g0,.int .u64 g1,.int .u64 g2,.int .u64 0],x,y] w (Ret fun e w'=>Below w.heap.size w w'/\Four e ((m+n)%P)):=by
 obtain⟨a,b,c,d,rfl,ha,hb,hc,hd,em⟩:=id hx;obtain⟨p,q,r,s,rfl,hp,hq,hr,hs,en⟩:=id hy;clear em en ha hb hc hd hp hq hr hs;go_enter Tryz.func138,Tryz.ntmps138;go_wp2_with fail
 have KP:=zC w 135 133 133 133 g0 g1 g2 0 a b c d p q r s 0 0 0 0;simp only[Qz]at KP;generalize QN _ _=W0 at KP⊢;generalize h3:w.heap.size+1+1+1=k3 at KP⊢;generalize h2:w.heap.size+1+1=k2 at KP⊢;generalize h1:w.heap.size+1=k1 at KP⊢;have Q3:Hid (w.heap.size<=k3):=by unfold Hid;omega
 generalize h0:w.heap.size=k0 at KP Q3⊢;have H0:Hid (w.heap.size=k0):=h0;have n03:k0≠k3:=by omega
 clear h0 h1 h2 h3;refine(m6 _ _ _ _ hx hy _).mono ?_;rintro e w1 ⟨v,rfl,hb1,v2,t,k,rfl,⟨a1,b1,c1,d1,rfl,ha1,hb1',hc1,hd1,es⟩,hk,he⟩;have HE:Hid (val a1 b1 c1 d1+top*k=m+n):=by unfold Hid;rw[<-es];exact he
 clear es he;replace KP:=KP.call hb1;clear hb1;have KP4:=(KP.alloc (.cells #[.int .u64 a1,.int .u64 b1,.int .u64 c1,.int .u64 d1] 133)).cons (At4.made w1 133 a1 b1 c1 d1 rfl).blk;have m0:k0≠w1.heap.size:=Rf KP.head.lt;have m3:k3≠w1.heap.size:=Rf KP.tail.tail.tail.head.lt;clear KP;obtain⟨pc0,pc1,pc2,pc3,pf⟩:=KP4.tail.head.at4;have z0:=KP4.tail.head.lt;go_wp2_with fail
 generalize QN _ _=W1 at KP4 z0 pc0 pc1 pc2 pc3 pf⊢;refine(m6 _ _ _ _ (Four.mk ha1 hb1' hc1 hd1 rfl) (Four.mk hG.h0 hG.h1 hG.h2 (by decide) rfl) _).mono ?_;rintro e w2 ⟨v,rfl,hb2,v3,t2,j,rfl,⟨a2,b2,c2,d2,rfl,ha2,hb2',hc2,hd2,es⟩,hj,he⟩;have HE2:Hid (val a2 b2 c2 d2+top*j=val a1 b1 c1 d1+val g0 g1 g2 0):=by unfold Hid;rw[<-es];exact he
 clear es he pc0 pc1 pc2 pc3 pf z0;replace KP4:=KP4.call hb2;clear hb2;have HG:Hid (Gap g0 g1 g2 P):=hG;have HM:Hid (m<P/\n<P):=⟨hm,hn⟩
 clear hG hm hn hx hy m0 n03;generalize w1.heap.size=k4 at KP4 m3⊢;obtain⟨sc0,sc1,sc2,sc3,sf⟩:=KP4.head.at4;obtain⟨rc0,rc1,rc2,rc3,rf⟩:=KP4.tail.tail.tail.tail.head.at4;have z4:=KP4.head.lt;have z3:=KP4.tail.tail.tail.tail.head.lt;obtain⟨o,ho,hoz⟩:=or2 k j hk hj;by_cases hz:k=0/\j=0
 ·obtain⟨rfl,rfl⟩:=hz;obtain rfl:o=0:=hoz.2 ⟨rfl,rfl⟩;clear hoz;replace ho:bits .or .u64 0 0=0:=ho;go_wp2;have RF:=(KP4.tail.tail.tail.tail.head.at4.self4 a1 b1 c1 d1).alloc (.cells #[.int .u64 a2,.int .u64 b2,.int .u64 c2,.int .u64 d2] 133);unfold set4 at RF;refine bodyPost_ret (v:=?v0) ?hr0 rfl ?hR0
  case hr0=>simp[results,Tryz.results138,go_sem,RF.c0,RF.c1,RF.c2,RF.c3];rfl
  refine⟨_,rfl,?_,Four.mk ha1 hb1' hc1 hd1 (Jn HG.out HE.out HE2.out (eY ha2 hb2' hc2 hd2))⟩;rw[H0.out];exact(aD KP4.bl Q3.out _ _ _ _).alloc (by simpa[set4]using KP4.le) _
 ·have ho0:¬o=0:=fun h=>hz (hoz.1 h)
  clear hoz;go_wp2;have RF:=(KP4.tail.tail.tail.tail.head.at4.self4 a2 b2 c2 d2).alloc (.cells #[.int .u64 a2,.int .u64 b2,.int .u64 c2,.int .u64 d2] 133);unfold set4 at RF;refine bodyPost_ret (v:=?v1) ?hr1 rfl ?hR1
  case hr1=>simp[results,Tryz.results138,go_sem,RF.c0,RF.c1,RF.c2,RF.c3];rfl
  refine⟨_,rfl,?_,Four.mk ha2 hb2' hc2 hd2 (Jo HG.out HM.out.1 HM.out.2 HE.out HE2.out hk hj hz (eY ha1 hb1' hc1 hd1) (eY ha2 hb2' hc2 hd2))⟩;rw[H0.out];exact(aD KP4.bl Q3.out _ _ _ _).alloc (by simpa[set4]using KP4.le) _
theorem kT(g0 g1 g2 P:Nat)(x y:Value)(m n:Nat)(hG:Gap g0 g1 g2 P)(hx:Four x m)(hy:Four y n)(hm:m<P)(hn:n<P)(w:World):
 Calls prog 152 #[.agg #[.int .u64 g0,.int .u64 g1,.int .u64 g2,.int .u64 0],x,y] w (Ret fun e w'=>Below w.heap.size w w'/\Four e ((m+P-n)%P)):=by
 obtain⟨a,b,c,d,rfl,ha,hb,hc,hd,em⟩:=id hx;obtain⟨p,q,r,s,rfl,hp,hq,hr,hs,en⟩:=id hy;clear em en ha hb hc hd hp hq hr hs;go_enter Tryz.func152,Tryz.ntmps152;go_wp2_with fail
 have KP:=zC w 135 133 133 133 g0 g1 g2 0 a b c d p q r s 0 0 0 0;simp only[Qz]at KP;generalize QN _ _=W0 at KP⊢;generalize h3:w.heap.size+1+1+1=k3 at KP⊢;generalize h2:w.heap.size+1+1=k2 at KP⊢;generalize h1:w.heap.size+1=k1 at KP⊢;have Q3:Hid (w.heap.size<=k3):=by unfold Hid;omega
 generalize h0:w.heap.size=k0 at KP Q3⊢;have H0:Hid (w.heap.size=k0):=h0;have n03:k0≠k3:=by omega
 clear h0 h1 h2 h3;refine(oV _ _ _ _ hx hy _).mono ?_;rintro e w1 ⟨v,rfl,hb1,v2,t,k,rfl,⟨a1,b1,c1,d1,rfl,ha1,hb1',hc1,hd1,es⟩,hk,he⟩;have HE:Hid (val a1 b1 c1 d1+n=m+top*k):=by unfold Hid;rw[<-es];exact he
 clear es he;replace KP:=KP.call hb1;clear hb1;have KP4:=(KP.alloc (.cells #[.int .u64 a1,.int .u64 b1,.int .u64 c1,.int .u64 d1] 133)).cons (At4.made w1 133 a1 b1 c1 d1 rfl).blk;have m0:k0≠w1.heap.size:=Rf KP.head.lt;have m3:k3≠w1.heap.size:=Rf KP.tail.tail.tail.head.lt;have HG:Hid (Gap g0 g1 g2 P):=hG;have HM:Hid (m<P/\n<P):=⟨hm,hn⟩
 have Q4:Hid (k0<=w1.heap.size):=KP.le;clear hG hm hn hx hy;have hk':k=0\/k=1:=by omega
 obtain⟨rc0,rc1,rc2,rc3,rf⟩:=KP.tail.tail.tail.head.at4;have z3:=KP.tail.tail.tail.head.lt;rcases hk' with rfl|rfl
 ·clear KP4;go_wp2;have RF:=(KP.tail.tail.tail.head.at4.self4 a1 b1 c1 d1).alloc (.cells #[.int .u64 a1,.int .u64 b1,.int .u64 c1,.int .u64 d1] 133);unfold set4 at RF;refine bodyPost_ret (v:=?v0) ?hr0 rfl ?hR0
  case hr0=>simp[results,Tryz.results152,go_sem,RF.c0,RF.c1,RF.c2,RF.c3];rfl
  refine⟨_,rfl,?_,Four.mk ha1 hb1' hc1 hd1 (Gy HM.out.1 HM.out.2 HE.out)⟩;rw[H0.out];exact(aD KP.bl Q3.out _ _ _ _).alloc (by simpa[set4]using KP.le) _
 ·clear KP rc0 rc1 rc2 rc3 rf z3;obtain⟨pc0,pc1,pc2,pc3,pf⟩:=KP4.tail.head.at4;have z0:=KP4.tail.head.lt;go_wp2_with fail
  generalize QN _ _=W1 at KP4 z0 pc0 pc1 pc2 pc3 pf⊢;refine(oV _ _ _ _ (Four.mk ha1 hb1' hc1 hd1 rfl) (Four.mk HG.out.h0 HG.out.h1 HG.out.h2 (by decide) rfl) _).mono ?_;rintro e w2 ⟨v,rfl,hb2,v3,t2,j,rfl,⟨a2,b2,c2,d2,rfl,ha2,hb2',hc2,hd2,es⟩,hj,he⟩;have HE2:Hid (val a2 b2 c2 d2+val g0 g1 g2 0=val a1 b1 c1 d1+top*j):=by unfold Hid;rw[<-es];exact he
  clear es he pc0 pc1 pc2 pc3 pf z0;replace KP4:=KP4.call hb2;clear hb2;generalize w1.heap.size=k4 at KP4 m0 m3 Q4⊢;obtain⟨sc0,sc1,sc2,sc3,sf⟩:=KP4.head.at4;obtain⟨rc0,rc1,rc2,rc3,rf⟩:=KP4.tail.tail.tail.tail.head.at4;have z4:=KP4.head.lt;have z3:=KP4.tail.tail.tail.tail.head.lt;go_wp2;have RF:=(KP4.tail.tail.tail.tail.head.at4.other4 m3.symm (.int .u64 a2) (.int .u64 b2) (.int .u64 c2) (.int .u64 d2)).self4 a2 b2 c2 d2;unfold set4 at RF;refine bodyPost_ret (v:=?v1) ?hr1 rfl ?hR1
  case hr1=>simp[results,Tryz.results152,go_sem,RF.c0,RF.c1,RF.c2,RF.c3];rfl
  refine⟨_,rfl,?_,Four.mk ha2 hb2' hc2 hd2 (Gz HG.out HM.out.1 HM.out.2 HE.out HE2.out hj (eY ha2 hb2' hc2 hd2) (eY ha1 hb1' hc1 hd1))⟩;rw[H0.out];exact aD (aD KP4.bl Q4.out _ _ _ _) Q3.out _ _ _ _
theorem FI{a b c d n m r0 s0 t0 u0 y0 y1 y2 y3:Nat}(em:m=val a b c d)
 (e0:r0+18446744073709551616*y0=a*n+val 0 0 0 0)
 (e1:s0+18446744073709551616*y1=b*n+y0)
 (e2:t0+18446744073709551616*y2=c*n+y1)
 (e3:u0+18446744073709551616*y3=d*n+y2) :
 val r0 s0 t0 u0+top*y3=m*n:=by
 have hm:val a b c d*n=val (a*n) (b*n) (c*n) (d*n):=by
  rw[Qr,wH,Qr n a,Qr n b,Qr n c,Qr n d]
 rw[em,hm];generalize a*n=x0 at *;generalize b*n=x1 at *;generalize c*n=x2 at *;generalize d*n=x3 at *;unfold val at *;unfold top;omega
theorem cK(g0 g1 g2 P:Nat)(x y:Value)(m n:Nat)(hG:Gap g0 g1 g2 P)(hx:Four x m)(hy:Four y n)(w:World):
 Calls prog 140 #[.agg #[.int .u64 g0,.int .u64 g1,.int .u64 g2,.int .u64 0],x,y] w (Ret fun e w'=>Below w.heap.size w w'/\Four e (m*n%P)):=by
 obtain⟨a,b,c,d,rfl,ha,hb,hc,hd,em⟩:=hx;obtain⟨p,q,r,s,rfl,hp,hq,hr,hs,en⟩:=id hy;have HM:Hid (m=val a b c d):=em;clear em en;go_enter Tryz.func140,Tryz.ntmps140;go_wp2_with fail
 have KP:=zC w 135 133 133 133 g0 g1 g2 0 a b c d p q r s 0 0 0 0;simp only[Qz]at KP;have PR:=KP.head.at4;have X:=KP.tail.head.at4;have Y:=KP.tail.tail.head.at4;have RE:=KP.tail.tail.tail.head.at4;have BL:Hid (Below w.heap.size w _):=KP.bl;clear KP;generalize QN _ _=w1 at X Y PR RE BL⊢;generalize h3:w.heap.size+1+1+1=k3 at RE⊢;generalize h2:w.heap.size+1+1=k4 at Y⊢;generalize h1:w.heap.size+1=k1 at X⊢;have Q3:Hid (w.heap.size<=k3):=by unfold Hid;omega
 generalize h0:w.heap.size=k0 at PR BL Q3⊢;have n03:k0≠k3:=by omega
 have n13:k1≠k3:=by omega
 have H0:Hid (w.heap.size=k0):=h0;clear h0 h1 h2 h3;refine(gZ a _ _ _ _ ha hy (Four.mk (a:=0) (b:=0) (c:=0) (d:=0) (by decide) (by decide) (by decide) (by decide) rfl) _).mono ?_;rintro e w2 ⟨v,rfl,hb2,l0,v2,t0,rfl,hl0,⟨a0,b0,c0,d0,rfl,ha0,hb0,hc0,hd0,es⟩,he⟩;have HQ0:Hid (l0+18446744073709551616*val a0 b0 c0 d0=a*n+val 0 0 0 0):=by unfold Hid;rw[<-es];exact he
 clear he es;replace BL:Hid (Below k0 w w2):=sY BL PR hb2;replace X:=X.call hb2;replace Y:=Y.call hb2;replace RE:=RE.call hb2;replace PR:=PR.call hb2;clear hb2;obtain⟨xc0,xc1,xc2,xc3,xf⟩:=id X;have z1:=X.lt;obtain⟨yc0,yc1,yc2,yc3,yf⟩:=id Y;have z4:=Y.lt;obtain⟨rc0,rc1,rc2,rc3,rf⟩:=id RE;have z3:=RE.lt;obtain⟨pc0,pc1,pc2,pc3,pf⟩:=id PR;have z0:=PR.lt;go_wp2_with fail
 refine(gZ b _ _ _ _ hb hy (Four.mk ha0 hb0 hc0 hd0 rfl) _).mono ?_;rintro e w3 ⟨v,rfl,hb3,l1,v3,t1,rfl,hl1,⟨a1,b1,c1,d1,rfl,ha1,hb1,hc1,hd1,es⟩,he⟩;clear xc0 xc1 xc2 xc3 xf z1 yc0 yc1 yc2 yc3 yf z4 rc0 rc1 rc2 rc3 rf z3 pc0 pc1 pc2 pc3 pf z0;have HQ1:Hid (l1+18446744073709551616*val a1 b1 c1 d1=b*n+val a0 b0 c0 d0):=by unfold Hid;rw[<-es];exact he
 clear he es;have j0:k0≠w2.heap.size:=Rf PR.lt;have j1:k1≠w2.heap.size:=Rf X.lt;have j3:k3≠w2.heap.size:=Rf RE.lt;have j4:k4≠w2.heap.size:=Rf Y.lt;have J0:Hid (k0<=w2.heap.size):=SD PR.lt;have T:=(At4.made w2 133 a0 b0 c0 d0 rfl).call hb3;replace BL:Hid (Below k0 w w3):=sY (W:=w2.alloc (.cells #[.int .u64 a0,.int .u64 b0,.int .u64 c0,.int .u64 d0] 133)) (BL.out.alloc (SD PR.lt) _) (PR.alloc _) hb3;replace X:=(X.alloc _).call hb3;replace Y:=(Y.alloc _).call hb3;replace RE:=(RE.alloc _).call hb3;replace PR:=(PR.alloc _).call hb3;clear hb3;generalize w2.heap.size=k5 at T j0 j1 j3 j4 J0⊢;obtain⟨xc0,xc1,xc2,xc3,xf⟩:=id X;have z1:=X.lt;obtain⟨yc0,yc1,yc2,yc3,yf⟩:=id Y;have z4:=Y.lt;obtain⟨rc0,rc1,rc2,rc3,rf⟩:=id RE;have z3:=RE.lt;obtain⟨pc0,pc1,pc2,pc3,pf⟩:=id PR;have z0:=PR.lt;obtain⟨tc0,tc1,tc2,tc3,tf⟩:=id T;have z5:=T.lt;go_wp2_with fail
 refine(gZ c _ _ _ _ hc hy (Four.mk ha1 hb1 hc1 hd1 rfl) _).mono ?_;rintro e w4 ⟨v,rfl,hbb,l2,v4,t4,rfl,hl2,⟨a2,b2,c2,d2,rfl,ha2,hb2,hc2,hd2,es⟩,he⟩;clear xc0 xc1 xc2 xc3 xf z1 yc0 yc1 yc2 yc3 yf z4 rc0 rc1 rc2 rc3 rf z3 pc0 pc1 pc2 pc3 pf z0 tc0 tc1 tc2 tc3 tf z5;have HQ2:Hid (l2+18446744073709551616*val a2 b2 c2 d2=c*n+val a1 b1 c1 d1):=by unfold Hid;rw[<-es];exact he
 clear he es;replace BL:Hid (Below k0 w w4):=sY (aD BL.out J0.out _ _ _ _) (PR.other4 j0.symm _ _ _ _) hbb;replace X:=(X.other4 j1.symm _ _ _ _).call hbb;replace Y:=(Y.other4 j4.symm _ _ _ _).call hbb;replace RE:=(RE.other4 j3.symm _ _ _ _).call hbb;replace PR:=(PR.other4 j0.symm _ _ _ _).call hbb;replace T:=(T.self4 a1 b1 c1 d1).call hbb;clear hbb;obtain⟨xc0,xc1,xc2,xc3,xf⟩:=id X;have z1:=X.lt;obtain⟨yc0,yc1,yc2,yc3,yf⟩:=id Y;have z4:=Y.lt;obtain⟨rc0,rc1,rc2,rc3,rf⟩:=id RE;have z3:=RE.lt;obtain⟨pc0,pc1,pc2,pc3,pf⟩:=id PR;have z0:=PR.lt;obtain⟨tc0,tc1,tc2,tc3,tf⟩:=id T;have z5:=T.lt;go_wp2_with fail
 refine(gZ d _ _ _ _ hd hy (Four.mk ha2 hb2 hc2 hd2 rfl) _).mono ?_;rintro e w5 ⟨v,rfl,hbb,l3,v4,t4,rfl,hl3,⟨a3,b3,c3,d3,rfl,ha3,hb3,hc3,hd3,es⟩,he⟩;clear xc0 xc1 xc2 xc3 xf z1 yc0 yc1 yc2 yc3 yf z4 rc0 rc1 rc2 rc3 rf z3 pc0 pc1 pc2 pc3 pf z0 tc0 tc1 tc2 tc3 tf z5;have HQ3:Hid (l3+18446744073709551616*val a3 b3 c3 d3=d*n+val a2 b2 c2 d2):=by unfold Hid;rw[<-es];exact he
 clear he es;replace BL:Hid (Below k0 w w5):=sY (aD BL.out J0.out _ _ _ _) (PR.other4 j0.symm _ _ _ _) hbb;replace X:=(X.other4 j1.symm _ _ _ _).call hbb;replace Y:=(Y.other4 j4.symm _ _ _ _).call hbb;replace RE:=(RE.other4 j3.symm _ _ _ _).call hbb;replace PR:=(PR.other4 j0.symm _ _ _ _).call hbb;replace T:=(T.self4 a2 b2 c2 d2).call hbb;clear hbb;obtain⟨rc0,rc1,rc2,rc3,rf⟩:=id RE;have z3:=RE.lt;obtain⟨pc0,pc1,pc2,pc3,pf⟩:=id PR;have z0:=PR.lt;obtain⟨tc0,tc1,tc2,tc3,tf⟩:=id T;have z5:=T.lt;go_wp2_with fail
 refine(sC g0 g1 g2 _ _ _ _ P hG.h0 hG.h1 hG.h2 hG.hor hG.hP hG.hP2 (Four.mk hl0 hl1 hl2 hl3 rfl) (Four.mk ha3 hb3 hc3 hd3 rfl) _).mono ?_;rintro e w6 ⟨v,rfl,hbb,hv⟩;rw[FI HM.out HQ0.out HQ1.out HQ2.out HQ3.out]at hv;clear rc0 rc1 rc2 rc3 rf z3 pc0 pc1 pc2 pc3 pf z0 tc0 tc1 tc2 tc3 tf z5;replace BL:Hid (Below k0 w w6):=sY (aD BL.out J0.out _ _ _ _) (PR.other4 j0.symm _ _ _ _) hbb;replace RE:=(RE.other4 j3.symm _ _ _ _).call hbb;replace PR:=(PR.other4 j0.symm _ _ _ _).call hbb;clear hbb T X Y HQ0 HQ1 HQ2 HQ3 HM;obtain⟨a7,b7,c7,d7,rfl,ha7,hb7,hc7,hd7,hv7⟩:=id hv;have HV:Hid (Four _ _):=hv;clear hv hv7;obtain⟨rc0,rc1,rc2,rc3,rf⟩:=id RE;have z3:=RE.lt;go_wp2;have RF:=RE.self4 a7 b7 c7 d7;unfold set4 at RF;refine bodyPost_ret (v:=?v) ?hr rfl ?hR
 case hr=>simp[results,Tryz.results140,go_sem,RF.c0,RF.c1,RF.c2,RF.c3];rfl
 refine⟨_,rfl,?_,HV.out⟩;rw[H0.out];exact aD BL.out Q3.out _ _ _ _
theorem vH{w W:World}{k0 k1 k2 a b c d p q r s g0 g1 g2:Nat}(h:Kept w k0 [⟨k0,0,g0,g1,g2,0⟩,⟨k1,0,a,b,c,d⟩,⟨k2,0,p,q,r,s⟩] W):W.cell? ⟨k0,0,none⟩=some (.int .u64 g0)/\W.cell? ⟨k0,1,none⟩=some (.int .u64 g1)/\W.cell? ⟨k0,2,none⟩=some (.int .u64 g2)/\W.cell? ⟨k0,3,none⟩=some (.int .u64 0)/\W.cell? ⟨k1,0,none⟩=some (.int .u64 a)/\W.cell? ⟨k1,1,none⟩=some (.int .u64 b)/\W.cell? ⟨k1,2,none⟩=some (.int .u64 c)/\W.cell? ⟨k1,3,none⟩=some (.int .u64 d)/\W.cell? ⟨k2,0,none⟩=some (.int .u64 p)/\W.cell? ⟨k2,1,none⟩=some (.int .u64 q)/\W.cell? ⟨k2,2,none⟩=some (.int .u64 r)/\W.cell? ⟨k2,3,none⟩=some (.int .u64 s)/\Kept w k0 [⟨k0,0,g0,g1,g2,0⟩,⟨k1,0,a,b,c,d⟩,⟨k2,0,p,q,r,s⟩] W:=
 ⟨h.head.c0,h.head.c1,h.head.c2,h.head.c3,h.tail.head.c0,h.tail.head.c1,h.tail.head.c2,h.tail.head.c3,h.tail.tail.head.c0,h.tail.tail.head.c1,h.tail.tail.head.c2,h.tail.tail.head.c3,h⟩
theorem oC(g0 g1 g2:Nat)(x y:Value)(m n R:Nat)(hx:Four x m)(hy:Four y n)(w:World):((∀w,Calls prog 138 #[.agg #[.int .u64 g0,.int .u64 g1,.int .u64 g2,.int .u64 0],x,y] w (Ret fun e w'=>Below w.heap.size w w'/\Four e R))->Calls prog 94 #[.agg #[.int .u64 g0,.int .u64 g1,.int .u64 g2,.int .u64 0],x,y] w (Ret fun e w'=>Below w.heap.size w w'/\Four e R))/\((∀w,Calls prog 152 #[.agg #[.int .u64 g0,.int .u64 g1,.int .u64 g2,.int .u64 0],x,y] w (Ret fun e w'=>Below w.heap.size w w'/\Four e R))->Calls prog 150 #[.agg #[.int .u64 g0,.int .u64 g1,.int .u64 g2,.int .u64 0],x,y] w (Ret fun e w'=>Below w.heap.size w w'/\Four e R))/\((∀w,Calls prog 140 #[.agg #[.int .u64 g0,.int .u64 g1,.int .u64 g2,.int .u64 0],x,y] w (Ret fun e w'=>Below w.heap.size w w'/\Four e R))->Calls prog 95 #[.agg #[.int .u64 g0,.int .u64 g1,.int .u64 g2,.int .u64 0],x,y] w (Ret fun e w'=>Below w.heap.size w w'/\Four e R)):=by
 obtain⟨a,b,c,d,rfl,ha,hb,hc,hd,em⟩:=id hx;obtain⟨p,q,r,s,rfl,hp,hq,hr,hs,en⟩:=id hy;have HX:Hid (Four _ m):=hx;have HY:Hid (Four _ n):=hy;refine⟨fun HO=>?_,fun HO=>?_,fun HO=>?_⟩;all_goals replace HO:Hid _:=HO
 all_goals clear em en hx hy ha hb hc hd hp hq hr hs
 case' refine_1=>go_enter Tryz.func94,Tryz.ntmps94
 case' refine_2=>go_enter Tryz.func150,Tryz.ntmps150
 case' refine_3=>go_enter Tryz.func95,Tryz.ntmps95
 all_goals
  go_wp2_with fail
  have KP0:=zC w 135 41 41 41 g0 g1 g2 0 a b c d p q r s 0 0 0 0;simp only[Qz]at KP0;generalize QN _ _=W0 at KP0⊢;generalize h3:w.heap.size+1+1+1=k3 at KP0⊢;generalize h2:w.heap.size+1+1=k2 at KP0⊢;generalize h1:w.heap.size+1=k1 at KP0⊢;have Q3:Hid (w.heap.size<=k3):=by unfold Hid;omega
  generalize h0:w.heap.size=k0 at KP0 Q3⊢;have H0:Hid (w.heap.size=k0):=h0;have hl3:∀x∈([⟨k0,0,g0,g1,g2,0⟩,⟨k1,0,a,b,c,d⟩,⟨k2,0,p,q,r,s⟩]:List Blk),k3≠x.k:=by simp only[QU,P4,or_false];rintro x (rfl|rfl|rfl)<;>simp only<;>omega
  clear h0 h1 h2 h3;have KP:Kept w k0 [⟨k0,0,g0,g1,g2,0⟩,⟨k1,0,a,b,c,d⟩,⟨k2,0,p,q,r,s⟩] W0:=(((Kept.mk1 KP0.bl KP0.le).cons KP0.tail.tail.head).cons KP0.tail.head).cons KP0.head;have T3:=KP0.tail.tail.tail.head.at4;clear KP0;obtain⟨tc0,tc1,tc2,tc3,tf⟩:=id T3;have zt:=T3.lt;go_region_held3 (fun w'=>w'.cell? ⟨k0,0,none⟩=some (.int .u64 g0)/\w'.cell? ⟨k0,1,none⟩=some (.int .u64 g1)/\w'.cell? ⟨k0,2,none⟩=some (.int .u64 g2)/\w'.cell? ⟨k0,3,none⟩=some (.int .u64 0)/\w'.cell? ⟨k1,0,none⟩=some (.int .u64 a)/\w'.cell? ⟨k1,1,none⟩=some (.int .u64 b)/\w'.cell? ⟨k1,2,none⟩=some (.int .u64 c)/\w'.cell? ⟨k1,3,none⟩=some (.int .u64 d)/\w'.cell? ⟨k2,0,none⟩=some (.int .u64 p)/\w'.cell? ⟨k2,1,none⟩=some (.int .u64 q)/\w'.cell? ⟨k2,2,none⟩=some (.int .u64 r)/\w'.cell? ⟨k2,3,none⟩=some (.int .u64 s)/\Kept w k0 [⟨k0,0,g0,g1,g2,0⟩,⟨k1,0,a,b,c,d⟩,⟨k2,0,p,q,r,s⟩] w') (first|(with_reducible exact vH KP)|(with_reducible exact vH KP.drew)|(with_reducible exact vH (KP.set4' Q3.out hl3 _ _ _ _))|(with_reducible exact vH (KP.set4' Q3.out hl3 _ _ _ _).drew)|fail) (first|(go_at_call_of 117 (QD #[QT .u64 a,QT .u64 b,QT .u64 c,QT .u64 d]);refine(f9 _ _ HX.out _).mono ?_;rintro e w1 ⟨v,rfl,hb1,rfl⟩;(first|(with_reducible (have KP1:=KP.drew.call hb1))|(with_reducible (have KP1:=KP.call hb1))|fail);(first|(with_reducible (have T1:=T3.drew.call hb1))|(with_reducible (have T1:=T3.call hb1))|fail);clear KP T3 hb1;have KP:=KP1;have T3:=T1;clear KP1 T1;obtain⟨tc0,tc1,tc2,tc3,tf⟩:=id T3;have zt:=T3.lt)|(go_at_call_of 117 (QD #[QT .u64 p,QT .u64 q,QT .u64 r,QT .u64 s]);refine(f9 _ _ HY.out _).mono ?_;rintro e w1 ⟨v,rfl,hb1,rfl⟩;(first|(with_reducible (have KP1:=KP.drew.call hb1))|(with_reducible (have KP1:=KP.call hb1))|fail);(first|(with_reducible (have T1:=T3.drew.call hb1))|(with_reducible (have T1:=T3.call hb1))|fail);clear KP T3 hb1;have KP:=KP1;have T3:=T1;clear KP1 T1;obtain⟨tc0,tc1,tc2,tc3,tf⟩:=id T3;have zt:=T3.lt)|((first|go_at_call 138|go_at_call 152|go_at_call 140);refine(HO.out _).mono ?_;rintro e w1 ⟨v,rfl,hb1,hF3⟩;obtain⟨a',b',c',d',rfl,ha',hb',hc',hd',es3⟩:=id hF3;clear es3;have HF3:Hid (Four _ _):=hF3;clear hF3;(first|(with_reducible (have KP1:=KP.drew.call hb1))|(with_reducible (have KP1:=KP.call hb1))|fail);(first|(with_reducible (have T1:=T3.drew.call hb1))|(with_reducible (have T1:=T3.call hb1))|fail);clear KP T3 hb1;have KP:=KP1;have T3:=T1;clear KP1 T1;obtain⟨tc0,tc1,tc2,tc3,tf⟩:=id T3;have zt:=T3.lt)|(go_at_call 139;refine(fW _ _ HF3.out _).mono ?_;rintro e w1 ⟨v,rfl,hb1,rfl⟩;(first|(with_reducible (have KP1:=KP.drew.call hb1))|(with_reducible (have KP1:=KP.call hb1))|fail);(first|(with_reducible (have T1:=T3.drew.call hb1))|(with_reducible (have T1:=T3.call hb1))|fail);clear KP T3 hb1;have KP:=KP1;have T3:=T1;clear KP1 T1;obtain⟨tc0,tc1,tc2,tc3,tf⟩:=id T3;have zt:=T3.lt))
  all_goals (try go_wp2)
  all_goals (have RF:=T3.self4 a' b' c' d')
  all_goals unfold set4 at RF
  all_goals (refine bodyPost_ret (v:=(.agg #[.int .u64 a',.int .u64 b',.int .u64 c',.int .u64 d'])) ?_ rfl ?_)
  all_goals first|(refine⟨_,rfl,?_,HF3.out⟩;rw[H0.out];exact aD KP.bl Q3.out _ _ _ _)|(simp[results,Tryz.results94,Tryz.results150,Tryz.results95,go_sem,RF.c0,RF.c1,RF.c2,RF.c3];done)|fail
theorem Ag(g0 g1 g2 P:Nat)(x y:Value)(m n:Nat)(hG:Gap g0 g1 g2 P)(hx:Four x m)(hy:Four y n)(hm:m<P)(hn:n<P)(w:World):
 Calls prog 94 #[.agg #[.int .u64 g0,.int .u64 g1,.int .u64 g2,.int .u64 0],x,y] w (Ret fun e w'=>Below w.heap.size w w'/\Four e ((m+n)%P)):=
 (oC g0 g1 g2 x y m n _ hx hy w).1 (fun w=>sum_any g0 g1 g2 P _ _ m n hG hx hy hm hn w)
theorem u7(g0 g1 g2 P:Nat)(x y:Value)(m n:Nat)(hG:Gap g0 g1 g2 P)(hx:Four x m)(hy:Four y n)(hm:m<P)(hn:n<P)(w:World):
 Calls prog 150 #[.agg #[.int .u64 g0,.int .u64 g1,.int .u64 g2,.int .u64 0],x,y] w (Ret fun e w'=>Below w.heap.size w w'/\Four e ((m+P-n)%P)):=
 (oC g0 g1 g2 x y m n _ hx hy w).2.1 (fun w=>kT g0 g1 g2 P _ _ m n hG hx hy hm hn w)
theorem lP(g0 g1 g2 P:Nat)(x y:Value)(m n:Nat)(hG:Gap g0 g1 g2 P)(hx:Four x m)(hy:Four y n)(w:World):
 Calls prog 95 #[.agg #[.int .u64 g0,.int .u64 g1,.int .u64 g2,.int .u64 0],x,y] w (Ret fun e w'=>Below w.heap.size w w'/\Four e (m*n%P)):=
 (oC g0 g1 g2 x y m n _ hx hy w).2.2 (fun w=>cK g0 g1 g2 P _ _ m n hG hx hy w)
end
section
variable {P:Nat}[NeZero P]{N:Nat}
theorem Hw(m i s:Nat):m/2^i%2^(s+1)=2*(m/2^(i+1)%2^s)+m/2^i%2:=by
 have e:m/2^(i+1)=m/2^i/2:=by rw[Rk,SO]
 rw[e,Rk,Qr (2^s),Nat.mod_mul];omega
theorem low_bit(y z r:Nat)(hr:r<64)(hz:z=y%18446744073709551616):z/2^r%2=y/2^r%2:=by
 have e:(18446744073709551616:Nat)=2^r*(2*2^(63-r)):=by
  rw[<-RH,<-Rk,<-RI,show r+1+(63-r)=64 by omega]
 have h2:0<2^r:=U0 (by decide);have h3:y/2^r=2*(2^(63-r)*(y/18446744073709551616))+z/2^r:=by
  have h4:y=2^r*(2*(2^(63-r)*(y/18446744073709551616)))+z:=by
   have:=UF y 18446744073709551616;rw[hz];rw[e]at this⊢;rw[RH,RH]at this;exact this.symm
  conv=>lhs;rw[h4]
  rw[Nat.mul_add_div h2]
 omega
def wd(a b c d q:Nat):Nat:=if q=0 then a else if q=1 then b else if q=2 then c else d
theorem Fc{a b c d:Nat}(q:Nat)(ha:a<18446744073709551616)(hb:b<18446744073709551616)(hc:c<18446744073709551616)(hd:d<18446744073709551616):wd a b c d q<18446744073709551616:=by
 unfold wd;split;exact ha;split;exact hb;split;exact hc;exact hd
theorem Fe{a b c d:Nat}(q:Nat)(hq:q<4)(ha:a<18446744073709551616)(hb:b<18446744073709551616)(hc:c<18446744073709551616)(hd:d<18446744073709551616):
 wd a b c d q=val a b c d/2^(64*q)%18446744073709551616:=by
 have h:q=0\/q=1\/q=2\/q=3:=by omega
 rcases h with rfl|rfl|rfl|rfl
 ·show a=val a b c d/1%_;unfold val;omega
 ·show b=val a b c d/18446744073709551616%_;unfold val;omega
 ·show c=val a b c d/340282366920938463463374607431768211456%_;unfold val;omega
 ·show d=val a b c d/6277101735386680763835789423207666416102355444464034512896%_;unfold val;omega
theorem Am{a b c d:Nat}(i:Nat)(hi:i<256)(ha:a<18446744073709551616)(hb:b<18446744073709551616)(hc:c<18446744073709551616)(hd:d<18446744073709551616):
 wd a b c d (i/64)/2^(i%64)%2=val a b c d/2^i%2:=by
 rw[low_bit _ _ (i%64) (by omega) (Fe (i/64) (by omega) ha hb hc hd),SO,<-RI,show 64*(i/64)+i%64=i by omega]
theorem Cj(a b c d q x:Nat)(hq:q<4):val (if q=0 then x else a) (if q=1 then x else b) (if q=2 then x else c) (if q=3 then x else d)+2^(64*q)*wd a b c d q=val a b c d+2^(64*q)*x:=by
 have h:q=0\/q=1\/q=2\/q=3:=by omega
 rcases h with rfl|rfl|rfl|rfl<;>simp[wd,val]<;>omega
theorem eT(a P k:Nat):a^k%P*(a^k%P)%P=a^(2*k)%P:=by
 rw[<-RP,<-RI,Nat.two_mul]
theorem yM(a P k l:Nat):a^k%P*(a^l%P)%P=a^(k+l)%P:=by
 rw[<-RP,<-RI]
theorem mY(a P k:Nat):a^k%P*a%P=a^(k+1)%P:=by
 rw[Rk,RP,V7,<-RP]
theorem JR(e i:Nat):e/2^i=16*(e/2^(i+4))+e/2^i%2^4:=by
 rw[RI,<-SO];have:=UF (e/2^i) (2^4);omega
theorem wP(e i:Nat):e/2^i=2*(e/2^(i+1))+e/2^i%2:=by
 rw[Rk,<-SO];omega
theorem LY{M k q r:Nat}(hq:q=k/8)(hr:r=k%8):M*256^(k+1)/2^(64*q)%18446744073709551616=256^(r+1)*(M%256^(7-r)):=by
 have h8:r<8:=by omega
 have e1:256^(k+1)=2^(64*q)*256^(r+1):=by
  rw[show(2:Nat)^(64*q)=256^(8*q) by rw[show 64*q=8*(8*q) by omega,T0],<-RI,show 8*q+(r+1)=k+1 by omega]
 have e2:(18446744073709551616:Nat)=256^(r+1)*256^(7-r):=by
  rw[<-RI,show r+1+(7-r)=8 by omega]
 rw[e1,T8,Nat.mul_div_cancel_left _ (U0 (by decide)),e2,Qr M,Nat.mul_mod_mul_left]
theorem ND{y x r:Nat}(hr:r<8)(hx:x<256)(hy:y<256^(7-r)):(256^(r+1)*y) ||| (x*2^(8*r))=256^(r+1)*y+x*2^(8*r)/\256^(r+1)*y+x*2^(8*r)<18446744073709551616:=by
 have e:(256:Nat)^(r+1)=2^(8*(r+1)):=by rw[T0]
 have h1:x*2^(8*r)<2^(8*(r+1)):=by
  rw[show 8*(r+1)=8+8*r by omega,RI];exact Nat.mul_lt_mul_of_pos_right (by omega) (U0 (by decide))
 have e2:(18446744073709551616:Nat)=256^(r+1)*256^(7-r):=by
  rw[<-RI,show r+1+(7-r)=8 by omega]
 refine⟨?_,?_⟩
 ·rw[e];exact(Nat.two_pow_add_eq_or_of_lt h1 y).symm
 ·have h3:256^(r+1)*(y+1)<=256^(r+1)*256^(7-r):=Nat.mul_le_mul_left _ hy;rw[<-e2,Sw,Se]at h3;rw[<-e]at h1;omega
theorem AQ(a b c d:Nat):
 val (a/4+b*4611686018427387904%18446744073709551616) (b/4+c*4611686018427387904%18446744073709551616) (c/4+d*4611686018427387904%18446744073709551616) (d/4)=val a b c d/4:=by
 unfold val;omega
end
end Go.Proofs.YtfcnimopdjjhcaaGreat
