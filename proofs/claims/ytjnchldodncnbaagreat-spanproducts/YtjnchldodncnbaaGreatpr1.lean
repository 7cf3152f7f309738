import Derived.KernelRfl
import Derived.Below
import Derived.Deep.MidRow
import Derived.WalkKit
import Derived.Test.YtjnchldodncnbaaGreatRows
import Derived.Lib.Mul64
import Derived.Laws.Bits64b
import Derived.Laws.Externs
import Derived.Sort.Row
import Derived.Deep.LoopGhost
import Derived.Deep.QuietTactic
import Derived.StillTailTactics
import Derived.BigRegion
import Derived.BigQuiet
import Derived.WalkSpells
import Derived.WalkLawsBesides
import Derived.OrdersHeld
import Derived.Orders
import Derived.Deep.CutRange
set_option linter.unusedVariables false
set_option linter.constructorNameAsVariable false
set_option linter.unusedSimpArgs false
set_option maxRecDepth 1000000
set_option maxHeartbeats 4000000
namespace Go.Proofs.YtjnchldodncnbaaGreat
theorem yB3{c:Prop}{h:Decidable c}(hc:c){α:Sort _}{t e:α}:ite c t e=t:=if_pos hc
theorem yB4{c:Prop}{h:Decidable c}(hc:¬c){α:Sort _}{t e:α}:ite c t e=e:=if_neg hc
theorem yB5:True:=True.intro
open _root_.Array renaming all_eq_true'->Vu,any_eq_true'->Xr,getD_eq_getD_getElem?->TS,getElem?_eq_getElem->Uj,getElem?_eq_none->XD,getElem?_eq_some_iff->Uh,getElem?_replicate->VZ,getElem?_setIfInBounds->VG,getElem?_toList->UF,mapM_eq_mapM_toList->WV,replicate->TP,size_setIfInBounds->Up
open _root_.Bool renaming and_eq_true->T0,or_false->VD,true_or->Wz
open _root_.Classical renaming byContradiction->U5
open _root_.Fin renaming ext->Yx,val->yA0,val_mul->Xq
open _root_.Go renaming Calls->TW,Exit->YJ,FuncId->Xy,Oper->UI,Operand->Yj,Program->Vd,Tmp->Vn,TypeId->Uw,Value->TC,World->TA,bodyPost_ret->TM,execOp->UD,run_loadVar_mid->Z9,undef->VU
open _root_.Go.Code renaming region->Vj
open _root_.Go.Instr renaming alloc->yAj,indexAt->UP,loadAt->ZZ,sliceAt->VP,storeAt->Yw,sureAddr->Yk
open _root_.Go.IntKind renaming u64->Uv,wrap_u64->Xx
open _root_.Go.Lib renaming half_mul_le->ZF
open _root_.Go.Next renaming value->Ww
open _root_.Go.Oper renaming upon_enter->WO,wp->Vp
open _root_.Go.Region renaming binds->U7,ready->UN,wanted->WI
open _root_.Go.Result renaming andThen->ZA
open _root_.Go.Sem renaming run_bind->Ue
open _root_.Go.Value renaming pointer->yBj,slice->V1
open _root_.Go.World renaming cell?->WN,cell?_alloc_new->Us,cell?_of_block->Ua,cell?_setCell_other->TE,cell?_setCell_same->Uu,frozen?_alloc_new->Vr,frozen?_setCell->Un,setCells->ZE,size_alloc->TQ
open _root_.Int renaming add_zero->Zz,eq_ofNat_of_zero_le->Z7,natCast_zero->Ux
open _root_.List renaming all_eq_true->Uo,append_nil->Xu,countP_cons->yAT,find?_some->Xo,getD_eq_getElem?_getD->Vf,getElem?_append_left->UB,getElem?_append_right->U1,getElem?_cons_succ->WB,getElem?_cons_zero->Xt,getElem?_drop->Zb,getElem?_eq_getElem->TZ,getElem?_eq_none->VW,getElem?_eq_some_iff->T9,getElem?_map->UX,getElem?_of_mem->Vv,getElem?_take->Vh,length_append->TT,length_cons->Uy,length_drop->YF,length_map->Uk,length_nil->WS,length_take->WF,mapM_cons->YQ,mapM_nil->Y6,map_append->Ye,map_cons->V2,map_inj_left->Zf,map_nil->Zx,map_toArray->Zw,mem_cons_of_mem->Uq,mem_cons_self->Uz,mem_of_find?_eq_some->VB,mem_of_getElem?->Vb,mem_range->U4,mem_zipIdx_iff_getElem?->XX,not_mem_nil->Ud,range->US,size_toArray->UH
open _root_.Nat renaming Coprime->Zv,add_mod->XG,add_mul->WE,add_mul_mod_self_left->Ym,add_sub_cancel_left->WM,add_zero->VK,ble_eq->yBW,dvd_of_mod_eq_zero->WH,dvd_trans->Y9,eq_zero_of_dvd_of_lt->Yu,gcd->yAQ,gcd_dvd_left->Zt,gcd_dvd_right->Zk,le_of_ble_eq_true->Va,le_of_dvd->Xn,le_of_lt->V6,le_refl->TG,le_succ->Y8,le_total->yBD,le_trans->TU,lt_of_lt_of_le->TF,lt_of_succ_le->V8,mod_add_mod->yBd,mod_eq_of_lt->Uf,mod_eq_sub_mod->yAA,mod_eq_zero_of_dvd->XC,mod_lt->Vm,mod_mod->yAO,mod_mod_of_dvd->Ze,mod_mul_mod->yBc,mul_add->WL,mul_assoc->VV,mul_comm->Ut,mul_le_mul->VR,mul_left_comm->Zj,mul_mod->VT,mul_one->Wq,one_mul->V4,pow_add->VS,pow_dvd_pow->yBb,pow_mod->yAl,pow_mul->Y7,pow_one->Yq,pow_succ->Vk,pow_zero->Wx,strongRecOn->yBa,zero_add->TO,zero_le->VH,zero_mul->yBB,zero_pow->yBA
open _root_.Nat.Coprime renaming mul_dvd_of_dvd_of_dvd->VE
open _root_.Option renaming isSome_iff_exists->UT,map_eq_some_iff->TJ,some->Uc
open _root_.Or renaming inl->Ub,inr->T8
open _root_.Prod renaming mk->Vz
open Go.Proofs.Tryz
abbrev uZ(n:Int):TC:=.int .u64 n
abbrev iZ(n:Int):TC:=.int .i64 n
abbrev aZ(k:Nat):Go.Addr:=⟨k,0,none⟩
abbrev pZ(k:Nat):TC:=.pointer (some ⟨k,0,none⟩)
section
variable {P:Nat}[NeZero P]{N:Nat}
theorem oM{p:Prop}(h:p:=by omega):p:=h
theorem kR{p:Prop}(h:p:=by kernel_rfl):p:=h
theorem dC{p:Prop}(h:p:=by decide):p:=h
theorem dK{p:Prop}(h:p:=by decide +kernel):p:=h
end
section
open Go Go.RowKit
theorem hE{α:Sort _}(x:α):∃y,Hid (x=y):=⟨x,rfl⟩
theorem mk1{p:Prop}(h:p):Hid p:=h
theorem mk2{p0 p1:Prop}(b:p0)(k:p1):Hid (p0/\p1):=⟨b,k⟩
theorem mk3{p0 p1 k:Prop}(c:p0)(d:p1)(b:k):Hid (p0/\p1/\k):=⟨c,d,b⟩
theorem mk4{p0 p1 k b:Prop}(e:p0)(f:p1)(c:k)(d:b):Hid (p0/\p1/\k/\b):=⟨e,f,c,d⟩
theorem mk5{p0 p1 b c k:Prop}(g:p0)(i:p1)(e:b)(f:c)(d:k):Hid (p0/\p1/\b/\c/\k):=⟨g,i,e,f,d⟩
theorem mk6{p0 p1 c d b k:Prop}(i:p0)(j:p1)(f:c)(g:d)(e:b)(l:k):Hid (p0/\p1/\c/\d/\b/\k):=⟨i,j,f,g,e,l⟩
theorem mk7{p0 p1 d e c b k:Prop}(j:p0)(l:p1)(g:d)(i:e)(f:c)(n:b)(m:k):Hid (p0/\p1/\d/\e/\c/\b/\k):=⟨j,l,g,i,f,n,m⟩
theorem mk8{p0 p1 e f d b k c:Prop}(l:p0)(n:p1)(i:e)(j:f)(g:d)(p:b)(o:k)(m:c):Hid (p0/\p1/\e/\f/\d/\b/\k/\c):=⟨l,n,i,j,g,p,o,m⟩
section
variable {P:Vd}{ops:Array UI}{rest:List UI}{op:UI}{a:Act}{w w':TA}{Q:YJ->Act->TA->Prop}{T:Uw}{y:Yj}{g o:Nat}{cs:List TC}{v:TC}{ob:Obj}
theorem stR(t:Vn)(e:Hid (w.setCells g o cs=w'))(hv:Hid (.agg cs.toArray=v))(th:w.there g o cs.toArray.size)(b:(P.info? T).map (·.size)=some cs.toArray.size)(c:cs.toArray.all (·.oneCell')=true)(h:wpList P ops Q rest (a.put op.dst VU) w')(k:op.guard=none:=by rfl)(ho:op.op=.store T (.tmp t) y:=by rfl)(f:a.eval (.tmp t)=.pointer (some ⟨g,o,none⟩):=by rfl)(d:a.eval y=v:=by rfl):wpList P ops Q (op :: rest) a w:=
 wpList_store_mid k T (.tmp t) y ho g o cs.toArray f (d.trans hv.out.symm) th b c (by rw[show cs.toArray.toList=cs from rfl,e.out];exact h)
theorem ldR(t:Vn)(c:w.rangeAt g o cs)(hv:Hid (.agg cs.toArray=v))(b:(P.underlying T).map (·.isRow)=some true)(f:(P.info? T).map (·.size)=some cs.length)(h:wpList P ops Q rest (a.put op.dst v) w)(k:op.guard=none:=by rfl)(ho:op.op=.load T (.tmp t):=by rfl)(j:a.eval (.tmp t)=.pointer (some ⟨g,o,none⟩):=by rfl):wpList P ops Q (op :: rest) a w:=by
 obtain⟨d,i,e⟩:=TJ.1 b;exact wpList_load_mid k T (.tmp t) ho g o j cs d c i e f (by rw[hv.out];exact h)
theorem alR(t:Vn)(c:Hid (w.heap.size=g))(e:Hid (w.alloc ob=w'))(h:wpList P ops Q rest (a.put op.dst (pZ g)) w')(hd:op.dst=some t:=by rfl)(k:op.guard=none:=by rfl)(b:(UD a.eval op).run P w=.ok (.value (.pointer (some ⟨w.heap.size,0,none⟩))) (w.alloc ob):=by kernel_rfl):wpList P ops Q (op :: rest) a w:=
 wpList_plain k λK d=>by
  unfold Vp;rw[b,c.out,e.out];exact d _ _ h
end
end
section
open Go.RowKit
variable {P:Nat}[NeZero P]{N:Nat}
def val(a b c d:Nat):Nat:=a+18446744073709551616*b+340282366920938463463374607431768211456*c+6277101735386680763835789423207666416102355444464034512896*d
def ag(a b c d:Nat):TC:=.agg #[uZ a,uZ b,uZ c,uZ d]
def Four(v:TC)(n:Nat):Prop:=∃a b c d:Nat,v=.agg #[uZ a,uZ b,uZ c,uZ d] /\
 a<18446744073709551616/\b<18446744073709551616/\c<18446744073709551616/\d<18446744073709551616/\n=val a b c d
def top:Nat:=115792089237316195423570985008687907853269984665640564039457584007913129639936
theorem iU{a b c d:Nat}(f:a<18446744073709551616)(e:b<18446744073709551616)(k:c<18446744073709551616)(hd:d<18446744073709551616):val a b c d<top:=by
 unfold val top;omega
theorem Four.lt{v:TC}{n:Nat}(h:Four v n):n<top:=by
 obtain⟨a,b,c,d,-,f,e,k,hd,rfl⟩:=h;exact iU f e k hd
theorem val_inj{a b c d p q r s:Nat}(j:a<18446744073709551616)(f:b<18446744073709551616)(k:c<18446744073709551616)
 (i:p<18446744073709551616) (g:q<18446744073709551616) (e:r<18446744073709551616) (h:val a b c d=val p q r s):a=p/\b=q/\c=r/\d=s:=by
 unfold val at h;omega
theorem Four.inj{v k:TC}{n:Nat}(h:Four v n)(l:Four k n):v=k:=by
 obtain⟨a,b,c,d,rfl,m,g,f,hd,e⟩:=h;obtain⟨p,q,r,s,rfl,j,i,o,t,e'⟩:=l;obtain⟨rfl,rfl,rfl,rfl⟩:=val_inj m g f j i o (e.symm.trans e');rfl
theorem Four.num{v:TC}{n m:Nat}(h:Four v n)(k:Four v m):n=m:=by
 obtain⟨a,b,c,d,rfl,o,g,f,hd,rfl⟩:=h;obtain⟨p,q,r,s,e,l,i,t,j,rfl⟩:=k;simp only[Value.agg.injEq,Array.mk.injEq,List.cons.injEq,Value.int.injEq,true_and,and_true,Int.ofNat_inj]at e;obtain⟨rfl,rfl,rfl,rfl⟩:=e;rfl
theorem Four.mk{a b c d n:Nat}(g:a<18446744073709551616)(f:b<18446744073709551616)(k:c<18446744073709551616)(hd:d<18446744073709551616)(e:n=val a b c d):
 Four (.agg #[uZ a,uZ b,uZ c,uZ d]) n:=⟨a,b,c,d,rfl,g,f,k,hd,e⟩
theorem ret_int{k:IntKind}{a b:Int}(h:a=b):Ending.returned (.int k a)=.returned (.int k b):=by rw[h]
end
section
open Go.RowKit Go.Sort
variable {P:Nat}[NeZero P]{N:Nat}
theorem mixed:prog.follows .mixedOrders=true:=kR
theorem nP(x y c:Nat)(f:x<18446744073709551616)(d:y<18446744073709551616)(b:c<=1):
 ∃s k:Nat,(∀w,(callFunc 109 #[uZ x,uZ y,uZ c]).run prog w=.ok (.value (.tuple #[uZ s,uZ k])) w) /\
  s<18446744073709551616/\k<=1/\s+18446744073709551616*k=x+y+c:=by
 refine⟨(x+y+c)%18446744073709551616,(x+y+c)/18446744073709551616,λw=>?_,oM,oM,oM⟩;rw[run_callFunc_extern func109 kR kR kR (e:=add64Entry) kR,run_add64 x y c oM oM oM oM];simp only[ZA]
 congr 5<;>omega
theorem kT(x y c:Nat)(f:x<18446744073709551616)(d:y<18446744073709551616)(b:c<=1):
 ∃s k:Nat,(∀w,(callFunc 130 #[uZ x,uZ y,uZ c]).run prog w=.ok (.value (.tuple #[uZ s,uZ k])) w) /\
  s<18446744073709551616/\k<=1/\s+y+c=x+18446744073709551616*k:=by
 refine⟨(x+18446744073709551616-y-c)%18446744073709551616,if x<y+c then 1 else 0,λw=>?_,oM,by split<;>omega,by split<;>omega⟩;rw[run_callFunc_extern func130 kR kR kR (e:=(Extern.MathBitsCarry.rows[1]).2) kR];have:c=0\/c=1:=oM;rcases this with rfl|rfl<;>rfl
theorem sT(x y:Nat)(c:x<18446744073709551616)(b:y<18446744073709551616):
 ∃s k:Nat,(∀w,(callFunc 109 #[uZ x,uZ y,uZ 0]).run prog w=.ok (.value (.tuple #[uZ s,uZ k])) w) /\
  s<18446744073709551616/\k<=1/\s+18446744073709551616*k=x+y:=nP x y 0 c b (VH 1)
theorem zW(x y:Nat)(c:x<18446744073709551616)(b:y<18446744073709551616):
 ∃s k:Nat,(∀w,(callFunc 130 #[uZ x,uZ y,uZ 0]).run prog w=.ok (.value (.tuple #[uZ s,uZ k])) w) /\
  s<18446744073709551616/\k<=1/\s+y=x+18446744073709551616*k:=kT x y 0 c b (VH 1)
theorem maskN(a:Nat)(k:a<18446744073709551616):bits .and .u64 (a:Int) 4294967295=((a%4294967296:Nat):Int):=by
 have h:=bits_and_u64_nat a 4294967295 k oM;rw[show a &&& 4294967295=a%4294967296 from Nat.and_two_pow_sub_one_eq_mod a 32]at h;exact h
theorem divN(a:Nat):(a:Int)/4294967296=((a/4294967296:Nat):Int):=oM
theorem mulN(a b:Nat):(a:Int)*(b:Int)=((a*b:Nat):Int):=(Int.natCast_mul a b).symm
theorem addN(a b:Nat):(a:Int)+(b:Int)=((a+b:Nat):Int):=(Int.natCast_add a b).symm
theorem wrapN(a:Nat)(k:a<18446744073709551616):Uv.wrap (a:Int)=(a:Int):=by rw[Xx];omega
theorem wrapM(a:Nat):Uv.wrap (a:Int)=((a%18446744073709551616:Nat):Int):=by rw[Xx];omega
theorem O5(x y:Nat)(f:x<18446744073709551616)(g:y<18446744073709551616)(w:TA):
 TW prog 134 #[uZ x,uZ y] w λe w'=>e=.returned (.tuple #[uZ ((x*y/18446744073709551616:Nat):Int),uZ ((x*y%18446744073709551616:Nat):Int)])/\w'=w:=by
 obtain⟨j,d,n,c⟩:=Lib.mul64_hi x y f g;have o:=ZF (a:=x/4294967296) (b:=y/4294967296) oM oM;have p:=ZF (a:=x/4294967296) (b:=y%4294967296) oM oM;have q:=ZF (a:=x%4294967296) (b:=y/4294967296) oM oM;have b1:x/4294967296*(y/4294967296)<18446744073709551616:=oM;have i:x/4294967296*(y%4294967296)<18446744073709551616:=oM;have m:x%4294967296*(y/4294967296)<18446744073709551616:=oM;have k:x/4294967296*(y/4294967296)+(x/4294967296*(y%4294967296)+x%4294967296*(y%4294967296)/4294967296)/4294967296<18446744073709551616:=oM;have l:x/4294967296*(y/4294967296)+(x/4294967296*(y%4294967296)+x%4294967296*(y%4294967296)/4294967296)/4294967296+((x/4294967296*(y%4294967296)+x%4294967296*(y%4294967296)/4294967296)%4294967296+x%4294967296*(y/4294967296))/4294967296<18446744073709551616:=oM;go_enter func134,ntmps134;go_wp2;simp only[maskN x f,maskN y g,divN,mulN,addN,wrapN _ j,wrapN _ i,wrapN _ d,maskN _ d,wrapN _ m,wrapN _ n,wrapN _ b1,wrapN _ k,wrapN _ l,wrapM (x*y)];rw[c]
 go_ret2
 exact⟨rfl,rfl⟩
theorem IY(x y:Nat)(c:x<18446744073709551616)(b:y<18446744073709551616):
 ∃h l:Nat,(∀w,TW prog 134 #[uZ x,uZ y] w λe w'=>e=.returned (.tuple #[uZ h,uZ l])/\w'=w) /\
  h<18446744073709551616/\l<18446744073709551616/\l+18446744073709551616*h=x*y:=by
 have k:x*y<=18446744073709551615*18446744073709551615:=VR oM oM;exact⟨_,_,λw=>O5 x y c b w,oM,oM,oM⟩
theorem QW(x y:Nat)(i:x<18446744073709551616)(f:y<18446744073709551616)(w:TA):
 TW prog 134 #[uZ x,uZ y] w λe w'=>w'=w/\∃h l:Nat,e=.returned (.tuple #[uZ h,uZ l]) /\
  h<18446744073709551616/\l<18446744073709551616/\l+18446744073709551616*h=x*y:=by
 obtain⟨h,l,b,g,c,d⟩:=IY x y i f;exact(b w).mono λe w' k=>⟨k.2,h,l,k.1,g,c,d⟩
theorem dQ(x y o c:Nat)(m:x<18446744073709551616)(t:y<18446744073709551616)(ho:o<18446744073709551616)(i:c<18446744073709551616):
 ∃h l s1 k s2 b g d:Nat,(∀w,TW prog 134 #[uZ x,uZ y] w λe w'=>e=.returned (.tuple #[uZ h,uZ l])/\w'=w) /\
  (∀w,(callFunc 109 #[uZ l,uZ c,uZ 0]).run prog w=.ok (.value (.tuple #[uZ s1,uZ k])) w) /\
  (∀w,(callFunc 109 #[uZ o,uZ s1,uZ 0]).run prog w=.ok (.value (.tuple #[uZ s2,uZ b])) w) /\
  Uv.wrap ((h:Int)+(k:Int))=(g:Int)/\Uv.wrap ((g:Int)+(b:Int))=(d:Int) /\
  s2<18446744073709551616/\d<18446744073709551616/\s2+18446744073709551616*d=x*y+o+c:=by
 have j:x*y<=18446744073709551615*18446744073709551615:=VR oM oM;obtain⟨h,l,n,z,u,v⟩:=IY x y m t;obtain⟨s1,k,s,d,p,A⟩:=sT l c u i;obtain⟨s2,b,r,f,q,e3⟩:=sT o s1 ho d;refine⟨h,l,s1,k,s2,b,h+k,h+k+b,n,s,r,?_,?_,f,oM,oM⟩
 ·rw[addN];exact wrapN _ oM
 ·rw[addN];exact wrapN _ oM
theorem rH(x y o c:Nat)(j:x<18446744073709551616)(q:y<18446744073709551616)(ho:o<18446744073709551616)(f:c<18446744073709551616)(w:TA):
 TW prog 174 #[uZ x,uZ y,uZ o,uZ c] w λe w'=>w'=w/\∃l h:Nat,e=.returned (.tuple #[uZ l,uZ h]) /\
  h<18446744073709551616/\l<18446744073709551616/\l+18446744073709551616*h=x*y+o+c:=by
 have i:x*y<=18446744073709551615*18446744073709551615:=VR oM oM;go_enter func174,ntmps174;go_wp2_with fail
 refine(QW x y j q _).mono ?_;rintro e g ⟨rfl,h,l,rfl,t,r,s⟩;obtain⟨s1,k,v,b,m,a⟩:=sT l o r ho;obtain⟨s2,d,u,p,n,e3⟩:=sT s1 c b f;have g:Uv.wrap ((h:Int)+(k:Int))=((h+k:Nat):Int):=by rw[addN];exact wrapN _ oM
 have z:Uv.wrap (((h+k:Nat):Int)+(d:Int))=((h+k+d:Nat):Int):=by rw[addN];exact wrapN _ oM
 go_wp2
 go_ret2
 refine⟨rfl,s2,h+k+d,?_,oM,oM,oM⟩;rfl
def Ret(Q:TC->TA->Prop)(e:Ending)(w:TA):Prop:=∃v,e=.returned v/\Q v w
abbrev rZ(w:TA)(Q:TC->TA->Prop):Go.Ending->TA->Prop:=Ret λe w'=>Go.RowKit.Below w.heap.size w w'/\Q e w'
theorem aD(w:TA)(k:Obj):Below w.heap.size w (w.alloc k):=(Below.refl _ _).alloc (TG _) k
theorem below2(w:TA)(k b:Obj):Below w.heap.size w ((w.alloc k).alloc b):=(aD w k).alloc (by simp) b
theorem below3(w:TA)(k c b:Obj):Below w.heap.size w (((w.alloc k).alloc c).alloc b):=(below2 w k c).alloc (by simp;omega) b
theorem hZ(w:TA)(b c d k:Obj):Below w.heap.size w ((((w.alloc b).alloc c).alloc d).alloc k):=(below3 w b c d).alloc (by simp;omega) k
theorem qT(x y:TC)(m n:Nat)(G:Four x m)(N:Four y n)(w:TA):
 TW prog 70 #[x,y] w (rZ w λe w'=>∃(v:TC) (s k:Nat),e=.tuple #[v,uZ k]/\Four v s/\k<=1/\s+top*k=m+n):=by
 obtain⟨a,b,c,d,rfl,K,C,A,hd,P⟩:=G;obtain⟨p,q,r,s,rfl,H,E,hr,F,M⟩:=N;obtain⟨s0,D,a0,g,o,R⟩:=sT a p K H;obtain⟨s1,B,J,f,i,Q⟩:=nP b q D C E o;obtain⟨s2,L,I,t,j,S⟩:=nP c r B A hr i;obtain⟨s3,z,O,l,u,e3⟩:=nP d s L hd F j;have hv:val s0 s1 s2 s3+top*z=m+n:=by rw[P,M];unfold val top;omega
 go_enter func70,ntmps70;go_wp2_with (first|simp only[a0]|simp only[J]|simp only[I]|simp only[O])
 refine TM (v:=?v) ?hr rfl ?hR
 case hr=>simp[results,Tryz.results70,go_sem];rfl
 exact⟨_,rfl,below3 _ _ _ _,_,_,z,rfl,Four.mk g f t l rfl,u,hv⟩
theorem sH(x y:TC)(m n:Nat)(G:Four x m)(N:Four y n)(w:TA):
 TW prog 156 #[x,y] w (rZ w λe w'=>∃(v:TC) (s k:Nat),e=.tuple #[v,uZ k]/\Four v s/\k<=1/\s+n=m+top*k):=by
 obtain⟨a,b,c,d,rfl,K,C,A,hd,P⟩:=G;obtain⟨p,q,r,s,rfl,H,E,hr,F,M⟩:=N;obtain⟨s0,D,a0,g,o,R⟩:=zW a p K H;obtain⟨s1,B,J,f,i,Q⟩:=kT b q D C E o;obtain⟨s2,L,I,t,j,S⟩:=kT c r B A hr i;obtain⟨s3,z,O,l,u,e3⟩:=kT d s L hd F j;have hv:val s0 s1 s2 s3+n=m+top*z:=by rw[P,M];unfold val top;omega
 go_enter func156,ntmps156;go_wp2_with (first|simp only[a0]|simp only[J]|simp only[I]|simp only[O])
 refine TM (v:=?v) ?hr rfl ?hR
 case hr=>simp[results,Tryz.results156,go_sem];rfl
 exact⟨_,rfl,below3 _ _ _ _,_,_,z,rfl,Four.mk g f t l rfl,u,hv⟩
theorem jP(x:TC)(m:Nat)(k:Four x m)(w:TA):
 TW prog 71 #[x] w (rZ w λe w'=>e=x):=by
 obtain⟨a,b,c,d,rfl,j,g,f,hd,i⟩:=k;go_enter func71,ntmps71;go_wp2;refine TM (v:=?v) ?hr rfl ?hR
 case hr=>simp[results,Tryz.results71,go_sem];rfl
 exact⟨_,rfl,below2 _ _ _,rfl⟩
theorem jM(x:TC)(m:Nat)(k:Four x m)(w:TA):
 TW prog 142 #[x] w (rZ w λe w'=>e=x):=by
 obtain⟨a,b,c,d,rfl,j,g,f,hd,i⟩:=k;go_enter func142,ntmps142;go_wp2;refine TM (v:=?v) ?hr rfl ?hR
 case hr=>simp[results,Tryz.results142,go_sem];rfl
 exact⟨_,rfl,below2 _ _ _,rfl⟩
theorem Ah(x a b c d:Nat):x*val a b c d=val (x*a) (x*b) (x*c) (x*d):=by
 unfold val;rw[WL,WL,WL,Zj x _ b,Zj x _ c,Zj x _ d]
theorem qI{x a b c d p q r s l0 l1 l2 l3 f g k e m n:Nat}(j:m=val a b c d)(i:n=val p q r s)
 (o:l0+18446744073709551616*f=x*a+p+0) (l:l1+18446744073709551616*g=x*b+q+f)
 (t:l2+18446744073709551616*k=x*c+r+g) (e3:l3+18446744073709551616*e=x*d+s+k) :
 l0+18446744073709551616*val l1 l2 l3 e=x*m+n:=by
 rw[j,i,Ah x a b c d];unfold val;omega
theorem kA(x:Nat)(y z:TC)(m n:Nat)(k:x<18446744073709551616)(O:Four y m)(J:Four z n)(w:TA):
 TW prog 164 #[uZ x,y,z] w (rZ w λe w'=>∃(l:Nat) (v:TC) (s:Nat),e=.tuple #[uZ l,v]/\l<18446744073709551616/\Four v s/\l+18446744073709551616*s=x*m+n):=by
 obtain⟨a,b,c,d,rfl,L,F,C,hd,R⟩:=O;obtain⟨p,q,r,s,rfl,K,G,hr,I,N⟩:=J;go_enter func164,ntmps164;go_wp2_with fail
 refine(rH x a p 0 k L K dC _).mono ?_;rintro e f ⟨rfl,l0,M,rfl,A,o,H⟩;go_wp2_with fail
 refine(rH x b q M k F G A _).mono ?_;rintro e f ⟨rfl,l1,P,rfl,B,t,D⟩;go_wp2_with fail
 refine(rH x c r P k C hr B _).mono ?_;rintro e f ⟨rfl,l2,E,rfl,u,i,Q⟩;go_wp2_with fail
 refine(rH x d s E k hd I u _).mono ?_;rintro e f ⟨rfl,l3,S,rfl,j,g,e3⟩;go_wp2;refine TM (v:=?v) ?hr rfl ?hR
 case hr=>simp[results,Tryz.results164,go_sem];rfl
 exact⟨_,rfl,below3 _ _ _ _,l0,_,_,rfl,o,Four.mk t i g j rfl,qI R N H D Q e3⟩
end
namespace RG
open Go Go.RowKit
inductive SV where
 | v (x:TC)
 | p (b o:Nat)
 | s (b n c:Nat)
 | t (b n c:Nat) (y:TC)
def SV.at(μ:Nat->Nat):SV->TC
 | .v x=>x
 | .p b o=>.pointer (some ⟨μ b,o,none⟩)
 | .s b n c=>.slice (some ⟨μ b,0,none⟩) n c
 | .t b n c y=>.tuple #[.slice (some ⟨μ b,0,none⟩) n c,y]
def SV.blk:SV->Option Nat
 | .v _=>none
 | .p b _=>some b
 | .s b _ _=>some b
 | .t b _ _ _=>some b
theorem SV.at_congr{μ ν:Nat->Nat}{s:SV}(h:∀b,s.blk=some b->μ b=ν b):s.at μ=s.at ν:=by
 cases s with
 | v x=>rfl
 | p b o=>show yBj (some ⟨μ b,o,none⟩)=.pointer (some ⟨ν b,o,none⟩);rw[h b rfl]
 | s b n c=>show V1 (some ⟨μ b,0,none⟩) n c=.slice (some ⟨ν b,0,none⟩) n c;rw[h b rfl]
 | t b n c y=>show Value.tuple #[.slice (some ⟨μ b,0,none⟩) n c,y]=.tuple #[.slice (some ⟨ν b,0,none⟩) n c,y];rw[h b rfl]
inductive Kind where
 | stay
 | pass
 | call
 | make (b:Nat)
 | put (b:Nat)
structure It where
 dst:Option Vn
 need:List (Vn × Nat)
 out:SV
 kind:Kind
structure Bl where
 before:List TC
 after:List TC
 al:Option Nat
 st:Option Nat
def on(L:Array Bool)(i:Nat):Bool:=L.getD i false
def Bl.live(e:Bl)(L:Array Bool):Bool:=(e.al.map (on L)).getD true
def Bl.put(e:Bl)(L:Array Bool):Bool:=(e.st.map (on L)).getD false
def Bl.now(e:Bl)(L:Array Bool):List TC:=if e.put L=true then e.after else e.before
theorem eI{L:Array Bool}{i j:Nat}(h:i<L.size):on (L.setIfInBounds i true) j=(on L j || i == j):=by
 unfold on;simp only[TS,VG];by_cases k:i=j
 ·subst k;simp[h]
 ·simp[k]
theorem iQ{e:Bl}{L:Array Bool}{i:Nat}(h:i<L.size):e.live (L.setIfInBounds i true)=(e.live L || e.al == some i):=by
 unfold Bl.live;cases d:e.al with
 | none=>rfl
 | some j =>
  show on _ j=(on L j || _);rw[eI h];by_cases k:i=j
  ·subst k;simp
  ·have c:(i == j)=false:=by simpa using k
   have b:(some j == some i)=false:=by simpa using λh=>k h.symm
   rw[c,b]
theorem kE{e:Bl}{L:Array Bool}{i:Nat}(h:i<L.size):e.put (L.setIfInBounds i true)=(e.put L || e.st == some i):=by
 unfold Bl.put;cases d:e.st with
 | none=>rfl
 | some j =>
  show on _ j=(on L j || _);rw[eI h];by_cases k:i=j
  ·subst k;simp
  ·have c:(i == j)=false:=by simpa using k
   have b:(some j == some i)=false:=by simpa using λh=>k h.symm
   rw[c,b]
theorem range_below{B k o:Nat}{w w':TA}{cs:List TC}(h:w.rangeAt k o cs)(b:Below B w w')(c:k<B):w'.rangeAt k o cs:=λj v hv=>by
 rw[b.cell (p:=⟨k,o+j,none⟩) c];exact h j v hv
theorem eG{B k o n:Nat}{w w':TA}(h:w.there k o n)(b:Below B w w')(c:k<B):w'.there k o n:=λj d=>by
 rw[b.cell (p:=⟨k,o+j,none⟩) c,b.frozen (p:=⟨k,o+j,none⟩) c];exact h j d
theorem below_setCells{B k:Nat}{c:TA}(b:B<=k):∀(vs:List TC) (o:Nat) (w:TA),Below B c w->Below B c (w.setCells k o vs)
 | [],_,_,h=>h
 | v :: r,o,w,h=>below_setCells b r (o+1) _ (h.setCell (p:=⟨k,o,none⟩) b v)
theorem setCells_size(k:Nat):∀(vs:List TC) (o:Nat) (w:TA),(w.setCells k o vs).heap.size=w.heap.size
 | [],_,_=>rfl
 | v :: r,o,w=>by
  rw[ZE,setCells_size k r (o+1)];simp[World.setCell]
theorem there_setCells{k b o n:Nat}:∀(vs:List TC) (i:Nat) (w:TA),w.there b o n->(w.setCells k i vs).there b o n
 | [],_,_,h=>h
 | v :: r,i,w,h=>there_setCells r (i+1) _ λj c=>⟨World.isSome_setCells k [v] i w _ (h j c).1,by rw[Un];exact(h j c).2⟩
structure BelX(k0:Nat)(X:List Nat)(w w':TA):Prop where
 os:w'.os=w.os
 tape:w'.tape=w.tape
 output:w'.output=w.output
 size:w.heap.size<=w'.heap.size
 block:∀j,j<k0->j ∉ X->w'.heap[j]? = w.heap[j]?
theorem BelX.below{k:Nat}{w w':TA}(h:BelX k [] w w'):Below k w w':=⟨h.os,h.tape,h.output,h.size,λj b=>h.block j b Ud⟩
theorem BelX.drew{k:Nat}{X:List Nat}{w w':TA}(h:BelX k X w w'):BelX k X w w'.drew:=⟨h.os,h.tape,h.output,h.size,h.block⟩
theorem BelX.refl(k:Nat)(X:List Nat)(w:TA):BelX k X w w:=⟨rfl,rfl,rfl,TG _,λ_ _ _=>rfl⟩
theorem BelX.trans{d:Nat}{X:List Nat}{a b c:TA}(h:BelX d X a b)(k:BelX d X b c):BelX d X a c:=
 ⟨k.os.trans h.os,k.tape.trans h.tape,k.output.trans h.output,TU h.size k.size,λi e f=>(k.block i e f).trans (h.block i e f)⟩
structure Wd(w0:TA)(k0:Nat)(X:List Nat)(bl:List Bl)(L:Array Bool)(μ:Nat->Nat)(w:TA):Prop where
 bel:BelX k0 X w0 w
 le:k0<=w.heap.size
 has:∀(b:Nat) (e:Bl),bl[b]? = some e->e.live L=true->w.rangeAt (μ b) 0 (e.now L)/\w.there (μ b) 0 e.before.length/\μ b<w.heap.size/\(k0<=μ b\/μ b∈X)
 inj:∀(b c:Nat) (e f:Bl),bl[b]? = some e->bl[c]? = some f->e.live L=true->f.live L=true->b≠c->μ b≠μ c
variable {w0 w w':TA}{k0:Nat}{X:List Nat}{bl:List Bl}{L:Array Bool}{μ:Nat->Nat}
theorem Wd.same{g:Array Bool}(h:Wd w0 k0 X bl L μ w)(d:∀(b:Nat) (e:Bl),bl[b]? = some e->e.live g=e.live L/\e.put g=e.put L):Wd w0 k0 X bl g μ w:=by
 refine⟨h.bel,h.le,λb e k hv=>?_,λb c e f k i j hf=>h.inj b c e f k i ((d b e k).1 ▸ j) ((d c f i).1 ▸ hf)⟩;have:=h.has b e k ((d b e k).1 ▸ hv);unfold Bl.now at this⊢;rw[(d b e k).2];exact this
theorem Wd.call(h:Wd w0 k0 X bl L μ w)(c:Below w.heap.size w w'):Wd w0 k0 X bl L μ w':=by
 refine⟨h.bel.trans ⟨c.os,c.tape,c.output,c.size,λk l _=>c.block k (TF l h.le)⟩,TU h.le c.size,λb e f hv=>?_,h.inj⟩;obtain⟨j,i,d,g⟩:=h.has b e f hv;exact⟨range_below j c d,eG i c d,TF d c.size,g⟩
def upd(μ:Nat->Nat)(b k:Nat):Nat->Nat:=λc=>if c=b then k else μ c
structure Made(w:TA)(k:Nat)(c:List TC)(w':TA):Prop where
 bel:Below w.heap.size w w'
 le:w.heap.size<=k
 lt:k<w'.heap.size
 range:w'.rangeAt k 0 c
 there:w'.there k 0 c.length
theorem Made.alloc(w:TA)(c:List TC)(t:Uw):Made w w.heap.size c (w.alloc (.cells c.toArray t)):=by
 refine⟨aD w _,TG _,by rw[TQ];omega,λj v k=>?_,λj k=>⟨?_,Vr _ _ _ _⟩⟩
 ·rw[TO,Us];simpa using k
 ·rw[TO,Us];simp[k]
theorem Wd.make{i b k:Nat}{e:Bl}(h:Wd w0 k0 X bl L μ w)(y:i<L.size)(x:bl[b]? = some e)(D:e.al=some i)(u:∀(c:Nat) (f:Bl),bl[c]? = some f->c≠b->f.al≠some i)
 (j:∀(c:Nat) (f:Bl),bl[c]? = some f->f.st≠some i) (v:e.put L=false) (t:Made w k e.before w') :
 Wd w0 k0 X bl (L.setIfInBounds i true) (upd μ b k) w':=by
 have o:∀(c:Nat) (f:Bl),bl[c]? = some f->f.put (L.setIfInBounds i true)=f.put L:=λc f m=>by
  rw[kE y,show(f.st == some i)=false by simpa using j c f m,VD]
 have n:∀(c:Nat) (f:Bl),bl[c]? = some f->c≠b->f.live (L.setIfInBounds i true)=f.live L:=λc f m j=>by
  rw[iQ y,show(f.al == some i)=false by simpa using u c f m j,VD]
 have p:∀(c:Nat) (f:Bl),bl[c]? = some f->c≠b->f.live (L.setIfInBounds i true)=true->μ c<w.heap.size:=λc f m j hv=>(h.has c f m (n c f m j ▸ hv)).2.2.1
 have l:=t.bel;have r:=t.le;refine⟨h.bel.trans ⟨l.os,l.tape,l.output,l.size,λk C _=>l.block k (TF C h.le)⟩,TU h.le l.size,λc f m hv=>?_,λc d f g m hd hf z q=>?_⟩
 ·by_cases j:c=b
  ·subst j;rw[x]at m;obtain rfl:e=f:=Uc.inj m;have s:e.now (L.setIfInBounds i true)=e.before:=by unfold Bl.now;rw[o c e x,v];rfl
   rw[s];unfold upd;rw[yB3 rfl];exact⟨t.range,t.there,t.lt,Ub (TU h.le r)⟩
  ·obtain⟨B,A,v,a⟩:=h.has c f m (n c f m j ▸ hv);unfold upd;rw[yB4 j];have s:f.now (L.setIfInBounds i true)=f.now L:=by unfold Bl.now;rw[o c f m]
   rw[s];exact⟨range_below B l v,eG A l v,TF v l.size,a⟩
 ·unfold upd;by_cases j:c=b
  ·subst j;rw[yB3 rfl,yB4 (λh=>q h.symm)];exact Nat.ne_of_gt (TF (p d g hd (λh=>q h.symm) z) r)
  ·by_cases s:d=b
   ·subst s;rw[yB3 rfl,yB4 j];exact Nat.ne_of_lt (TF (p c f m j hf) r)
   ·rw[yB4 j,yB4 s];exact h.inj c d f g m hd (n c f m j ▸ hf) (n d g hd s ▸ z) q
structure PutTo(k n:Nat)(cs:List TC)(w w':TA):Prop where
 os:w'.os=w.os
 tape:w'.tape=w.tape
 output:w'.output=w.output
 size:w.heap.size<=w'.heap.size
 block:∀j,j<w.heap.size->j≠k->w'.heap[j]? = w.heap[j]?
 range:w'.rangeAt k 0 cs
 there:w'.there k 0 n
theorem aG(k:Nat):∀(vs:List TC) (o:Nat) (w:TA) (j:Nat),j≠k->(w.setCells k o vs).heap[j]? = w.heap[j]?
 | [],_,_,_,_=>rfl
 | v :: r,o,w,j,h=>by
  rw[ZE,aG k r (o+1) _ j h,Below.heap_setCell _ _ _ _ h]
theorem tA(k:Nat):∀(vs:List TC) (o:Nat) (w:TA),(w.setCells k o vs).os=w.os/\(w.setCells k o vs).tape=w.tape/\(w.setCells k o vs).output=w.output
 | [],_,_=>⟨rfl,rfl,rfl⟩
 | v :: r,o,w=>by rw[ZE];exact tA k r (o+1) _
theorem PutTo.store{k n o:Nat}{b c vs:List TC}(g:w.there k 0 n)(s:w.rangeAt k 0 b)(x:o+vs.length<=n)(r:∀j,c[j]? = if o<=j/\j<o+vs.length then vs[j-o]? else b[j]?):PutTo k n c w (w.setCells k o vs):=by
 obtain⟨t,m,p⟩:=tA k vs o w;refine⟨t,m,p,by rw[setCells_size];exact TG _,λj _ d=>aG k vs o w j d,λj v hv=>?_,there_setCells _ _ _ g⟩;have e:w.there k o vs.length:=λj d=>by have:=g (o+j) oM;rwa[TO]at this
 rw[r j]at hv;rw[TO];by_cases d:o<=j/\j<o+vs.length
 ·rw[yB3 d]at hv;have:=World.rangeAt_setCells_same w k o vs e (j-o) v hv;rwa[show o+(j-o)=j by omega]at this
 ·rw[yB4 d]at hv;have l:w.rangeAt k j [v]:=λi u f=>by
   cases i with
   | zero =>
    obtain rfl:v=u:=by simpa using f
    have:=s j v hv;rwa[TO]at this
   | succ i=>simp at f
  have q:=World.rangeAt_setCells_apart l k o vs (T8 (by simp only[Uy,WS];omega));have:=q 0 v rfl;exact this
theorem PutTo.whole{k:Nat}{b c:List TC}(f:w.there k 0 b.length)(e:w.rangeAt k 0 b)(g:c.length=b.length):PutTo k b.length c w (w.setCells k 0 c):=
 PutTo.store f e oM (λj=>by
  by_cases d:0<=j/\j<0+c.length
  ·rw[yB3 d];rfl
  ·rw[yB4 d,VW oM,VW oM])
theorem Wd.put{i b:Nat}{e:Bl}(h:Wd w0 k0 X bl L μ w)(t:i<L.size)(s:bl[b]? = some e)(z:e.st=some i)(hv:e.live L=true)(m:PutTo (μ b) e.before.length e.after w w')
 (k:∀(c:Nat) (f:Bl),bl[c]? = some f->c≠b->f.st≠some i) (o:∀(c:Nat) (f:Bl),bl[c]? = some f->f.al≠some i) :
 Wd w0 k0 X bl (L.setIfInBounds i true) μ w':=by
 have n:∀(c:Nat) (f:Bl),bl[c]? = some f->f.live (L.setIfInBounds i true)=f.live L:=λc f l=>by
  rw[iQ t,show(f.al == some i)=false by simpa using o c f l,VD]
 obtain⟨F,G,H,C⟩:=h.has b e s hv;have B:=h.le;refine⟨h.bel.trans ⟨m.os,m.tape,m.output,m.size,λj q A=>m.block j oM (λe=>C.elim (λh=>oM) (λh=>A (e ▸ h)))⟩,TU h.le m.size,λc f l o=>?_,λc d f g l hd hf D=>h.inj c d f g l hd (n c f l ▸ hf) (n d g hd ▸ D)⟩;rw[n c f l]at o;obtain⟨E,y,u,x⟩:=h.has c f l o;by_cases p:c=b
 ·subst p;rw[s]at l;obtain rfl:e=f:=Uc.inj l;have r:e.now (L.setIfInBounds i true)=e.after:=by
   unfold Bl.now;rw[kE t,z];simp
  rw[r];exact⟨m.range,m.there,TF u m.size,x⟩
 ·have r:f.now (L.setIfInBounds i true)=f.now L:=by
   unfold Bl.now;rw[kE t,show(f.st == some i)=false by simpa using k c f l p,VD]
  rw[r];have k:=m.block (μ c) u (h.inj c b f e l s o hv p);refine⟨λj v q=>?_,λj q=>?_,TF u m.size,x⟩
  ·rw[Ua (w:=w) (a:=⟨μ c,0+j,none⟩) k];exact E j v q
  ·rw[Ua (w:=w) (a:=⟨μ c,0+j,none⟩) k,World.frozen?_of_block (w:=w) (a:=⟨μ c,0+j,none⟩) k];exact y j q
end RG
namespace RG
open Go Go.RowKit
variable {P:Vd}{ops:Array UI}{Q:YJ->Act->TA->Prop}{w0 w:TA}{k0:Nat}{X:List Nat}{its:List It}{bl:List Bl}{olds:List (Vn × SV)}{a0:Act}{L:Array Bool}{μ μ' μ0:Nat->Nat}
structure Ac(its:List It)(bl:List Bl)(a0:Act)(L:Array Bool)(μ:Nat->Nat)(a:Act):Prop where
 defers:a.defers=a0.defers
 size:a.tmps.size=a0.tmps.size
 got:∀(i:Nat) (it:It) (d:Vn),its[i]? = some it->on L i=true->it.dst=some d->a.tmps[d]? = some (it.out.at μ)/\∀b,it.out.blk=some b->∃e:Bl,bl[b]? = some e/\e.live L=true
 rest:∀t:Vn,(∀(i:Nat) (it:It),its[i]? = some it->on L i=true->it.dst≠some t)->a.tmps[t]? = a0.tmps[t]?
def bR(o:UI)(j:Nat):Bool:=o.after.any (λe=>U7 .any e && e.on == j)
def E4(k:Array UI)(b:List It)(i:Nat)(t:Vn):Bool:=b.zipIdx.all (λx=>x.1.dst != some t || (match k[x.2]? with|some o=>bR o i|none=>false))
def Known(c:Array UI)(i:Nat)(k:List It)(olds:List (Vn × SV))(b:List (Vn × Nat))(μ:Nat->Nat)(a:Act):Prop:=
 (∀(t:Vn) (j:Nat) (it:It),(t,j)∈b->k[j]? = some it->a.eval (.tmp t)=it.out.at μ)/\(∀(t:Vn) (s:SV),(t,s)∈olds->E4 c k i t=true->a.eval (.tmp t)=s.at μ)
def readB(k:Array UI)(i:Nat)(e:Bl):Bool:=match e.st with|none=>true|some s=>match k[s]? with|some o=>bR o i|none=>false
def Reads(k:Array UI)(i:Nat)(c:List Bl)(μ:Nat->Nat)(w:TA):Prop:=∀(b:Nat) (e:Bl),c[b]? = some e->(e.al=none\/∃(o:UI) (j:Nat),k[i]? = some o/\e.al=some j/\bR o j=true)->readB k i e=true->w.rangeAt (μ b) 0 e.before
def Does(P:Vd)(Q:YJ->Act->TA->Prop)(c:List Bl)(o:UI)(it:It)(μ:Nat->Nat)(a:Act)(w:TA)(K:Act->TA->Prop):Kind->Prop
 | .stay=>K (a.put o.dst (it.out.at μ)) w->o.wp P a w K Q
 | .pass=>it.out=.v VU
 | .call=>(∀w',Below w.heap.size w w'->K (a.put o.dst (it.out.at μ)) w')->o.wp P a w K Q
 | .make b=>∀e:Bl,c[b]? = some e->(∀(k:Nat) (w':TA),Made w k e.before w'->K (a.put o.dst (it.out.at (upd μ b k))) w')->o.wp P a w K Q
 | .put b=>∀e:Bl,c[b]? = some e->w.there (μ b) 0 e.before.length->w.rangeAt (μ b) 0 e.before->(∀w',PutTo (μ b) e.before.length e.after w w'->K (a.put o.dst (it.out.at μ)) w')->o.wp P a w K Q
def Cert(P:Vd)(Q:YJ->Act->TA->Prop)(e:TA)(d:Nat)(X:List Nat)(k:Array UI)(i:Nat)(b:List It)(c:List Bl)(olds:List (Vn × SV))(o:UI)(it:It):Prop:=
 ∀(μ:Nat->Nat) (a:Act) (w:TA) (K:Act->TA->Prop),Known k i b olds it.need μ a->Reads k i c μ w->BelX d X e w->Does P Q c o it μ a w K it.kind
def I5(k:List It)(c:List Bl)(o:UI)(it:It)(b:Nat):Bool:=
 (match c[b]? with|some e=>(match e.al with|none=>true|some j=>bR o j)|none=>false) || it.need.any (λx=>bR o x.2 && (match k[x.2]? with|some jt=>jt.dst.isSome && jt.out.blk == some b|none=>false))
def yV(d:List It)(k:List Bl)(i:Nat)(o:UI)(it:It):Kind->Bool
 | .stay | .pass | .call=>k.all (λe=>e.al != some i && e.st != some i) && (match it.out.blk with|none=>true|some b=>I5 d k o it b)
 | .make b=>(match it.out.blk with|some c=>c == b|none=>false) && k.zipIdx.all (λx=>x.1.st != some i && (x.1.al == some i) == (x.2 == b)) && (k[b]?).isSome
 | .put b=>(match it.out with | .v _=>true|_=>false) && k.zipIdx.all (λx=>x.1.al != some i && (x.1.st == some i) == (x.2 == b)) && (match k[b]? with|some e=>(match e.al with|none=>true|some j=>bR o j)|none=>false)
def Kind.isPass:Kind->Bool
 | .pass=>true
 | _=>false
def Je(k:List It)(o:UI)(it:It):Bool:=
 match o.guard with
 | none=>!it.kind.isPass
 | some (j,want)=>bR o j && (match k[j]? with|some jt=>jt.dst.isSome && (match jt.out with | .v (.bool b)=>(b == want) == !it.kind.isPass|_=>false)|none=>false)
def okB(k:List It)(c:List Bl)(i:Nat)(o:UI)(it:It):Bool:=
 (o.dst == it.dst) && Je k o it && o.after.all (λe=>!U7 .any e || e.on<i) && it.need.all (λb=>bR o b.2 && ((k[b.2]?).bind (·.dst)) == some b.1) && yV k c i o it it.kind
def xZ:List It->Bool
 | []=>true
 | it :: r=>(match it.dst with|none=>true|some d=>r.all (λk=>k.dst != some d)) && xZ r
def SX(k:List Bl)(olds:List (Vn × SV)):Bool:=
 olds.all (λx=>(match x.2.blk with|none=>true|some b=>match k[b]? with|some e=>e.al.isNone|none=>false))
def allB(b:Array UI)(k:List It)(c:List Bl)(olds:List (Vn × SV))(n:Nat):Bool:=
 b.size == k.length && xZ k && SX c olds && k.all (λit=>match it.dst with|none=>true|some d=>d<n) &&
 (US k.length).all (λi=>match b[i]?,k[i]? with|some o,some it=>okB k c i o it|_,_=>false)
theorem Jz:∀ {k:List It},xZ k=true->∀(i j:Nat) (it b:It) (d:Vn),k[i]? = some it->k[j]? = some b->it.dst=some d->b.dst=some d->i=j
 | [],_,i,_,_,_,_,h,_,_,_=>by simp at h
 | x :: r,h,i,j,it,b,d,hi,hj,di,dj=>by
  simp only[xZ,T0]at h;match i,j with
  | 0,0=>rfl
  | 0,j+1 =>
   simp only[Xt,Uc.injEq]at hi;simp only[WB]at hj;subst hi;rw[di]at h;have:=Uo.1 h.1 b (Vb hj);rw[dj]at this;simp at this
  | i+1,0 =>
   simp only[Xt,Uc.injEq]at hj;simp only[WB]at hi;subst hj;rw[dj]at h;have:=Uo.1 h.1 it (Vb hi);rw[di]at this;simp at this
  | i+1,j+1 =>
   simp only[WB]at hi hj;rw[Jz h.2 i j it b d hi hj di dj]
theorem oG{e:Bl}{i:Nat}(k:i<L.size)(h:e.live L=true):e.live (L.setIfInBounds i true)=true:=by rw[iQ k,h,Wz]
theorem Ac.put{a:Act}{i:Nat}{it:It}(h:Ac its bl a0 L μ a)(hd:xZ its=true)(p:i<L.size)(n:its[i]? = some it)(hμ:∀(b:Nat) (e:Bl),bl[b]? = some e->e.live L=true->μ' b=μ b)
 (u:∀d,it.dst=some d->d<a0.tmps.size) (o:∀d,it.dst=some d->∀b,it.out.blk=some b->∃e:Bl,bl[b]? = some e/\e.live (L.setIfInBounds i true)=true)
 (v:TC) (hv:∀d,it.dst=some d->v=it.out.at μ'):Ac its bl a0 (L.setIfInBounds i true) μ' (a.put it.dst v):=by
 have m:∀(j:Nat) (f:It) (d:Vn),its[j]? = some f->on L j=true->f.dst=some d->a.tmps[d]? = some (f.out.at μ')/\∀b,f.out.blk=some b->∃e:Bl,bl[b]? = some e/\e.live (L.setIfInBounds i true)=true:=λj f d g ho c=>by
  obtain⟨s,q⟩:=h.got j f d g ho c;refine⟨?_,λb k=>?_⟩
  ·rw[s]
   congr 1
   refine SV.at_congr λb r=>?_
   obtain⟨e,l,o⟩:=q b r;rw[hμ b e l o]
  ·obtain⟨e,l,o⟩:=q b k;exact⟨e,l,oG p o⟩
 cases k:it.dst with
 | none =>
  show Ac its bl a0 _ μ' a;refine⟨h.defers,h.size,λj f d g ho c=>?_,λt q=>h.rest t λj f g ho=>q j f g (by rw[eI p,ho,Wz])⟩;rw[eI p]at ho;by_cases l:i=j
  ·subst l;rw[n]at g;obtain rfl:it=f:=Uc.inj g;rw[k]at c;cases c
  ·exact m j f d g (by simpa[l]using ho) c
 | some d0 =>
  have s:=u d0 k;refine⟨h.defers,?_,λj f d g ho c=>?_,λt q=>?_⟩
  ·show(a.tmps.setIfInBounds d0 v).size=_;rw[Up];exact h.size
  ·show(a.tmps.setIfInBounds d0 v)[d]? = _/\_;rw[VG];rw[eI p]at ho;by_cases l:i=j
   ·subst l;rw[n]at g;obtain rfl:it=f:=Uc.inj g;rw[k]at c;obtain rfl:d0=d:=Uc.inj c;rw[yB3 rfl,yB3 (by rw[h.size];exact s),hv d0 k];exact⟨rfl,o d0 k⟩
   ·have o:d0≠d:=λr=>l (Jz hd i j it f d0 n g k (r ▸ c))
    rw[yB4 o];exact m j f d g (by simpa[l]using ho) c
  ·show(a.tmps.setIfInBounds d0 v)[t]? = _;have o:d0≠t:=λl=>q i it n (by rw[eI p];simp) (by rw[k,l])
   rw[VG,yB4 o];exact h.rest t λj f g ho=>q j f g (by rw[eI p,ho,Wz])
structure Inv(ops:Array UI)(its:List It)(bl:List Bl)(a0:Act)(w0:TA)(k0:Nat)(X:List Nat)(μ0:Nat->Nat)(L:Array Bool)(a:Act)(w:TA):Prop where
 size:L.size=its.length
 cl:∀(i:Nat) (o:UI),ops[i]? = some o->on L i=true->∀e∈o.after,U7 .any e=true->on L e.on=true
 all:∃μ,(∀(b:Nat) (e:Bl),bl[b]? = some e->e.al=none->μ b=μ0 b)/\Ac its bl a0 L μ a/\Wd w0 k0 X bl L μ w/\∀(b:Nat) (e:Bl),bl[b]? = some e->e.put L=true->e.live L=true
theorem AY{o:UI}(h:o.guard=none)(y:Nat->Option Bool):WI o y=true:=by unfold WI;rw[h]
theorem jW{p:Bl × Nat->Bool}(h:bl.zipIdx.all p=true)(b:Nat)(e:Bl)(k:bl[b]? = some e):p (e,b)=true:=
 Uo.1 h (e,b) (by rw[XX];exact k)
theorem two{s t:Option Nat}{i c b:Nat}(h:(s != some i && (t == some i) == (c == b))=true):s≠some i/\(t=some i↔c=b):=by
 rw[T0]at h;refine⟨by simpa using h.1,?_⟩;have k:(t == some i)=(c == b):=by simpa using h.2
 constructor
 ·intro d;rw[d]at k;simpa using k.symm
 ·intro d;rw[d]at k;simpa using k
theorem step{i:Nat}{o:UI}{it:It}{a:Act}(hd:xZ its=true)(ho:ops[i]? = some o)(T:its[i]? = some it)(hq:okB its bl i o it=true)(h0:∀d,it.dst=some d->d<a0.tmps.size)
 (holds:∀(t:Vn) (s:SV),(t,s)∈olds->a0.tmps[t]? = some (s.at μ0)/\∀b,s.blk=some b->∃e:Bl,bl[b]? = some e/\e.al=none)
 (l:∀(j:Nat) (Z:UI) (G:It),ops[j]? = some Z->its[j]? = some G->Z.dst=G.dst) (F:ops.size=its.length) (B:Cert P Q w0 k0 X ops i its bl olds o it) (h7:on L i=false) (K:∀e∈o.after,U7 .any e=true->on L e.on=true) (h:Inv ops its bl a0 w0 k0 X μ0 L a w) :
 wpOp P ops Q i (Inv ops its bl a0 w0 k0 X μ0 (L.setIfInBounds i true)) a w:=by
 obtain⟨ht,h8,μ,hμ,hA,hW,hO⟩:=h;have D:i<L.size:=by rw[ht];exact(T9.1 T).1
 simp only[okB,T0]at hq;obtain⟨⟨⟨⟨hr,V⟩,k1⟩,h9⟩,g⟩:=hq;have C:o.dst=it.dst:=by simpa using hr
 have r:∀j,bR o j=true->on L j=true:=λj J=>by
  obtain⟨e,S,m⟩:=Xr.1 J;simp only[T0,beq_iff_eq]at m;rw[<-m.2];exact K e S m.1
 have hh:WI o (yielded ops a.tmps) = !it.kind.isPass:=by
  unfold WI;unfold Je at V;cases N:o.guard with
  | none=>rw[N]at V;dsimp only at V⊢;rw[V]
  | some jw =>
   obtain⟨j,q⟩:=jw;rw[N]at V;dsimp only at V⊢;rw[T0]at V;cases J:its[j]? with
   | none=>rw[J]at V;cases V.2
   | some G =>
    rw[J]at V;obtain⟨h1,A⟩:=V;dsimp only at A;rw[T0]at A;obtain⟨d,I⟩:=UT.1 A.1;have M:j<its.length:=(T9.1 J).1;have E:ops[j]? = some (ops[j]'(by rw[F];exact M)):=Uj _;have H:=(hA.got j G d J (r j h1) I).1;have R:yielded ops a.tmps j=match G.out.at μ with | .bool b=>some b|_=>none:=by
     unfold yielded;rw[E];show(match (ops[j]'(by rw[F];exact M)).dst.bind (a.tmps[·]?) with|some (.bool b)=>some b|_=>none)=_;rw[l j _ G E J,I];show(match a.tmps[d]? with|some (.bool b)=>some b|_=>none)=_;rw[H];cases G.out.at μ<;>rfl
    rw[R];have l:=A.2;cases n:G.out with
    | p b x=>rw[n]at l;cases l
    | s b x y=>rw[n]at l;cases l
    | t b x y z=>rw[n]at l;cases l
    | v x =>
     rw[n]at l;cases x with
     | bool b =>
      show(some b == some q)=_;dsimp only at l;have:(b == q) = !it.kind.isPass:=by simpa using l
      rw[<-this];cases b<;>cases q<;>rfl
     | _=>cases l
 have hK:Known ops i its olds it.need μ a:=by
  refine⟨λt j G hm J=>?_,λt s hm M=>?_⟩
  ·have h1:=Uo.1 h9 (t,j) hm;simp only[T0,J]at h1;have A:G.dst=some t:=by simpa using h1.2
   have H:=(hA.got j G t J (r j h1.1) A).1;show a.tmps.getD t VU=_;rw[TS,H];rfl
  ·obtain⟨A,H⟩:=holds t s hm;have R:=hA.rest t (λj G J U I=>by
    have l:=Uo.1 M (G,j) (by rw[XX];exact J);dsimp only at l;rw[I]at l;cases E:ops[j]? with
    | none=>rw[E]at l;simp at l
    | some Z =>
     rw[E]at l;have q:bR Z i=true:=by simpa using l
     obtain⟨e',O,F⟩:=Xr.1 q;simp only[T0,beq_iff_eq]at F;have:=h8 j Z E U e' O F.1;rw[F.2,h7]at this;cases this)
   show a.tmps.getD t VU=_;rw[TS,R,A];show s.at μ0=s.at μ;refine SV.at_congr λb m=>?_
   obtain⟨e,S,q⟩:=H b m;rw[hμ b e S q]
 have hR:Reads ops i bl μ w:=λb e m q N=>by
  have:=(hW.has b e m (by
   unfold Bl.live;rcases q with q|⟨I,j,l,q,hd⟩
   ·rw[q];rfl
   ·rw[q];show on L j=true;rw[ho]at l;obtain rfl:=Uc.inj l;exact r j hd)).1
  unfold Bl.now Bl.put at this;unfold readB at N;cases hs:e.st with
  | none=>rw[hs]at this;exact this
  | some s =>
   rw[hs]at this N;dsimp only at N;cases l:ops[s]? with
   | none=>rw[l]at N;cases N
   | some os =>
    rw[l]at N;have I:on L s=false:=by
     cases U:on L s with
     | false=>rfl
     | true =>
      obtain⟨e',O,F⟩:=Xr.1 N;simp only[T0,beq_iff_eq]at F;have:=h8 s os l U e' O F.1;rw[F.2,h7]at this;cases this
    rw[show(Option.map (on L) (some s)).getD false=on L s from rfl,I]at this;exact this
 have W:∀b,I5 its bl o it b=true->∃e:Bl,bl[b]? = some e/\e.live L=true:=λb m=>by
  unfold I5 at m;rw[Bool.or_eq_true]at m;rcases m with A|A
  ·cases S:bl[b]? with
   | none=>rw[S]at A;cases A
   | some e =>
    rw[S]at A;dsimp only at A;refine⟨e,rfl,?_⟩;unfold Bl.live;cases q:e.al with
    | none=>rfl
    | some j=>rw[q]at A;exact r j A
  ·obtain⟨x,I,H⟩:=List.any_eq_true.1 A;rw[T0]at H;cases J:its[x.2]? with
   | none=>rw[J]at H;cases H.2
   | some G =>
    rw[J]at H;dsimp only at H;rw[T0]at H;obtain⟨d,l⟩:=UT.1 H.2.1;exact(hA.got x.2 G d J (r x.2 H.1) l).2 b (by simpa using H.2.2)
 have I:∀(j:Nat) (Z:UI),ops[j]? = some Z->on (L.setIfInBounds i true) j=true->∀e∈Z.after,U7 .any e=true->on (L.setIfInBounds i true) e.on=true:=λj Z E U e S m=>by
  rw[eI D]at U⊢;by_cases l:i=j
  ·subst l;rw[ho]at E;obtain rfl:o=Z:=Uc.inj E;rw[K e S m,Wz]
  ·rw[h8 j Z E (by simpa[l]using U) e S m,Wz]
 have G:(L.setIfInBounds i true).size=its.length:=by rw[Up];exact ht
 have hC:=B μ a w (Inv ops its bl a0 w0 k0 X μ0 (L.setIfInBounds i true)) hK hR hW.bel;unfold wpOp;rw[ho];dsimp only;rw[hh];cases hk:it.kind with
 | pass =>
  rw[hk]at hC g;simp only[yV,T0]at g;have H:∀(b:Nat) (e:Bl),bl[b]? = some e->e.al≠some i/\e.st≠some i:=λb e m=>by simpa using Uo.1 g.1 e (Vb m)
  have l:∀(b:Nat) (e:Bl),bl[b]? = some e->e.live (L.setIfInBounds i true)=e.live L/\e.put (L.setIfInBounds i true)=e.put L:=λb e m =>
   ⟨by rw[iQ D,show(e.al == some i)=false by simpa using(H b e m).1,VD],by rw[kE D,show(e.st == some i)=false by simpa using(H b e m).2,VD]⟩
  show Inv ops its bl a0 w0 k0 X μ0 (L.setIfInBounds i true) (a.put o.dst VU) w;refine⟨G,I,μ,hμ,?_,hW.same l,λb e m=>by rw[(l b e m).1,(l b e m).2];exact hO b e m⟩;rw[C];have n:it.out=.v VU:=hC;refine hA.put hd D T (λ_ _ _ _=>rfl) h0 (λ_ _ b K=>?_) _ (λ_ _=>by rw[n];rfl);rw[n]at K;cases K
 | stay =>
  rw[hk]at hC g;simp only[yV,T0]at g;show o.wp P a w _ Q\/_;left;refine hC ?_;have H:∀(b:Nat) (e:Bl),bl[b]? = some e->e.al≠some i/\e.st≠some i:=λb e m=>by simpa using Uo.1 g.1 e (Vb m)
  have l:∀(b:Nat) (e:Bl),bl[b]? = some e->e.live (L.setIfInBounds i true)=e.live L/\e.put (L.setIfInBounds i true)=e.put L:=λb e m =>
   ⟨by rw[iQ D,show(e.al == some i)=false by simpa using(H b e m).1,VD],by rw[kE D,show(e.st == some i)=false by simpa using(H b e m).2,VD]⟩
  refine⟨G,I,μ,hμ,?_,hW.same l,λb e m=>by rw[(l b e m).1,(l b e m).2];exact hO b e m⟩;rw[C];refine hA.put hd D T (λ_ _ _ _=>rfl) h0 (λ_ _ b K=>?_) _ (λ_ _=>rfl);have A:=g.2;rw[K]at A;obtain⟨e,S,hl⟩:=W b A;exact⟨e,S,oG D hl⟩
 | call =>
  rw[hk]at hC g;simp only[yV,T0]at g;show o.wp P a w _ Q\/_;left;refine hC λw' F=>?_
  have H:∀(b:Nat) (e:Bl),bl[b]? = some e->e.al≠some i/\e.st≠some i:=λb e m=>by simpa using Uo.1 g.1 e (Vb m)
  have l:∀(b:Nat) (e:Bl),bl[b]? = some e->e.live (L.setIfInBounds i true)=e.live L/\e.put (L.setIfInBounds i true)=e.put L:=λb e m =>
   ⟨by rw[iQ D,show(e.al == some i)=false by simpa using(H b e m).1,VD],by rw[kE D,show(e.st == some i)=false by simpa using(H b e m).2,VD]⟩
  refine⟨G,I,μ,hμ,?_,(hW.call F).same l,λb e m=>by rw[(l b e m).1,(l b e m).2];exact hO b e m⟩;rw[C];refine hA.put hd D T (λ_ _ _ _=>rfl) h0 (λ_ _ b K=>?_) _ (λ_ _=>rfl);have A:=g.2;rw[K]at A;obtain⟨e,S,hl⟩:=W b A;exact⟨e,S,oG D hl⟩
 | make b =>
  rw[hk]at hC g;simp only[yV,T0]at g;obtain⟨⟨n,hz⟩,M⟩:=g;obtain⟨e,l⟩:=UT.1 M;have ha:e.al=some i:=(two (jW hz b e l)).2.2 rfl;have F:∀(c:Nat) (f:Bl),bl[c]? = some f->f.st≠some i:=λc f B=>(two (jW hz c f B)).1
  have O:∀(c:Nat) (f:Bl),bl[c]? = some f->c≠b->f.al≠some i:=λc f B R h=>R ((two (jW hz c f B)).2.1 h)
  have H:e.live L=false:=by unfold Bl.live;rw[ha];exact h7
  have hpt:e.put L=false:=by
   cases hp:e.put L with
   | false=>rfl
   | true=>have:=hO b e l hp;rw[H]at this;cases this
  have hn:it.out.blk=some b:=by
   cases K:it.out.blk with
   | none=>rw[K]at n;cases n
   | some c =>
    rw[K]at n;rw[show c=b by simpa using n]
  show o.wp P a w _ Q\/_;left;refine hC e l λk w' hm=>?_
  have hμb:∀(c:Nat) (f:Bl),bl[c]? = some f->f.live L=true->upd μ b k c=μ c:=λc f B hl=>by
   unfold upd;rw[yB4];rintro rfl;rw[l]at B;obtain rfl:e=f:=Uc.inj B;rw[H]at hl;cases hl
  refine⟨G,I,upd μ b k,λc f B q=>?_,?_,hW.make D l ha O F hpt hm,λc f B=>?_⟩
  ·rw[hμb c f B (by unfold Bl.live;rw[q];rfl)];exact hμ c f B q
  ·rw[C];refine hA.put hd D T hμb h0 (λ_ _ c Y=>?_) _ (λ_ _=>rfl);rw[hn]at Y;have h1:b=c:=Uc.inj Y;subst h1;exact⟨e,l,by rw[iQ D,ha];simp⟩
  ·rw[kE D,show(f.st == some i)=false by simpa using F c f B,VD];exact λhp=>oG D (hO c f B hp)
 | put b =>
  rw[hk]at hC g;simp only[yV,T0]at g;obtain⟨⟨n,hz⟩,M⟩:=g;cases l:bl[b]? with
  | none=>rw[l]at M;cases M
  | some e =>
   rw[l]at M;dsimp only at M;have hs:e.st=some i:=(two (jW hz b e l)).2.2 rfl;have O:∀(c:Nat) (f:Bl),bl[c]? = some f->f.al≠some i:=λc f B=>(two (jW hz c f B)).1
   have F:∀(c:Nat) (f:Bl),bl[c]? = some f->c≠b->f.st≠some i:=λc f B R h=>R ((two (jW hz c f B)).2.1 h)
   have H:e.live L=true:=by
    unfold Bl.live;cases q:e.al with
    | none=>rfl
    | some j =>
     have A:=M;rw[q]at A;exact r j A
   show o.wp P a w _ Q\/_;left;have hy:e.put L=false:=by unfold Bl.put;rw[hs];exact h7
   have A:e.now L=e.before:=by unfold Bl.now;rw[hy];rfl
   refine hC e l (hW.has b e l H).2.1 (A ▸ (hW.has b e l H).1) λw' hw=>?_
   refine⟨G,I,μ,hμ,?_,hW.put D l hs H hw F O,λc f B hp=>?_⟩
   ·rw[C];refine hA.put hd D T (λ_ _ _ _=>rfl) h0 (λd hu c Y=>?_) _ (λd hu=>rfl);cases K:it.out with
    | v x=>rw[K]at Y;cases Y
    | p x y=>rw[K]at n;cases n
    | s x y z=>rw[K]at n;cases n
    | t x y z u=>rw[K]at n;cases n
   ·rw[iQ D,show(f.al == some i)=false by simpa using O c f B,VD];rw[kE D]at hp;by_cases R:c=b
    ·subst R;rw[l]at B;obtain rfl:e=f:=Uc.inj B;exact H
    ·rw[show(f.st == some i)=false by simpa using F c f B R,VD]at hp;exact hO c f B hp
end RG
namespace RG
open Go Go.RowKit
variable {P:Vd}{ops:Array UI}{Q:YJ->Act->TA->Prop}{w0 w:TA}{k0:Nat}{X:List Nat}{its:List It}{bl:List Bl}{olds:List (Vn × SV)}{a0:Act}{L:Array Bool}{μ μ0:Nat->Nat}
def puts(μ:Nat->Nat):List It->Act->Act
 | [],a=>a
 | it :: r,a=>puts μ r (a.put it.dst (it.out.at μ))
theorem mW(μ:Nat->Nat):∀(k:List It) (a:Act),(puts μ k a).defers=a.defers
 | [],_=>rfl
 | it :: r,a=>by
  rw[puts,mW μ r];cases it.dst<;>rfl
theorem qQ(a:Act)(d:Option Vn)(v:TC):(a.put d v).tmps.size=a.tmps.size:=by
 cases d with
 | none=>rfl
 | some d=>exact Up ..
theorem yP(μ:Nat->Nat):∀(k:List It) (a:Act),(puts μ k a).tmps.size=a.tmps.size
 | [],_=>rfl
 | it :: r,a=>by rw[puts,yP μ r,qQ]
theorem nZ(a:Act){d:Option Vn}(v:TC){t:Vn}(h:d≠some t):(a.put d v).tmps[t]? = a.tmps[t]?:=by
 cases d with
 | none=>rfl
 | some d =>
  show(a.tmps.setIfInBounds d v)[t]? = _;rw[VG,yB4 (λe=>h (by rw[e]))]
theorem lV(μ:Nat->Nat):∀(k:List It) (a:Act) (t:Vn),(∀it∈k,it.dst≠some t)->(puts μ k a).tmps[t]? = a.tmps[t]?
 | [],_,_,_=>rfl
 | it :: r,a,t,h=>by
  rw[puts,lV μ r _ t (λx b=>h x (Uq _ b)),nZ a _ (h it Uz)]
theorem rY(μ:Nat->Nat):∀(k:List It) (a:Act) (i:Nat) (it:It) (d:Vn),xZ k=true->k[i]? = some it->it.dst=some d->d<a.tmps.size->(puts μ k a).tmps[d]? = some (it.out.at μ)
 | [],_,i,_,_,_,h,_,_=>by simp at h
 | x :: r,a,0,it,d,hB,h,hd,hs=>by
  obtain rfl:x=it:=by simpa using h
  simp only[xZ,T0,hd]at hB;rw[puts,lV μ r _ d (λy b=>by simpa using Uo.1 hB.1 y b),hd];show(a.tmps.setIfInBounds d _)[d]? = _;rw[VG,yB3 rfl,yB3 hs]
 | x :: r,a,i+1,it,d,hB,h,hd,hs=>by
  simp only[xZ,T0]at hB;rw[puts];exact rY μ r _ i it d hB.2 (by simpa using h) hd (by rw[qQ];exact hs)
theorem Act.ext'{a b:Act}(c:a.tmps=b.tmps)(k:a.defers=b.defers):a=b:=by
 cases a;cases b;subst c;subst k;rfl
theorem Ac.done{a:Act}(h:Ac its bl a0 L μ a)(f:xZ its=true)(c:∀it∈its,∀d,it.dst=some d->d<a0.tmps.size)(b:∀i,i<its.length->on L i=true):a=puts μ its a0:=by
 refine Act.ext' ?_ (by rw[mW];exact h.defers);apply Array.ext_getElem?;intro t;by_cases e:∃(i:Nat) (it:It),its[i]? = some it/\it.dst=some t
 ·obtain⟨i,it,k,hd⟩:=e;rw[(h.got i it t k (b i (T9.1 k).1) hd).1,rY μ its a0 i it t f k hd (c it (Vb k) t hd)]
 ·rw[h.rest t (λi it k _ hd=>e ⟨i,it,k,hd⟩),lV μ its a0 t (λit g hd=>?_)];obtain⟨i,k⟩:=Vv g;exact e ⟨i,it,k,hd⟩
def unl(L:Array Bool):Nat:=L.toList.countP (λb=>!b)
theorem count_set:∀(l:List Bool) (i:Nat),l[i]? = some false->(l.set i true).countP (λb=>!b)+1=l.countP (λb=>!b)
 | [],i,h=>by simp at h
 | x :: r,0,h=>by
  obtain rfl:x=false:=by simpa using h
  simp
 | x :: r,i+1,h=>by
  have:=count_set r i (by simpa using h);rw[List.set_cons_succ,yAT,yAT];omega
theorem lK{i:Nat}(h:L.getD i true=false):unl (L.setIfInBounds i true)+1=unl L:=by
 unfold unl;rw[Array.toList_setIfInBounds];refine count_set _ _ ?_;rw[UF];rw[TS]at h;cases k:L[i]? with
 | none=>rw[k]at h;cases h
 | some b=>rw[k]at h;rw[show b=false from h]
theorem jJ(h:unl L=0)(i:Nat)(c:i<L.size):on L i=true:=by
 have b:=List.countP_eq_zero.1 h;have k:=b L[i] (by simp);unfold on;rw[TS,Uj c];simpa using k
structure Reg(P:Vd)(ops:Array UI)(Q:YJ->Act->TA->Prop)(w0:TA)(k0:Nat)(X:List Nat)(its:List It)(bl:List Bl)(olds:List (Vn × SV))(a0:Act)(μ0:Nat->Nat):Prop where
 chk:allB ops its bl olds a0.tmps.size=true
 old:∀(t:Vn) (s:SV),(t,s)∈olds->a0.tmps[t]? = some (s.at μ0)
 cert:∀(i:Nat) (o:UI) (it:It),ops[i]? = some o->its[i]? = some it->Cert P Q w0 k0 X ops i its bl olds o it
theorem Reg.step{i:Nat}{o:UI}{a:Act}(R:Reg P ops Q w0 k0 X its bl olds a0 μ0)(ho:ops[i]? = some o)(u:on L i=false)(l:∀e∈o.after,U7 .any e=true->on L e.on=true)(h:Inv ops its bl a0 w0 k0 X μ0 L a w):
 wpOp P ops Q i (Inv ops its bl a0 w0 k0 X μ0 (L.setIfInBounds i true)) a w:=by
 have B:=R.chk;simp only[allB,T0,beq_iff_eq]at B;obtain⟨⟨⟨⟨f,hd⟩,g⟩,v⟩,n⟩:=B;have x:i<its.length:=by rw[<-f];exact(Uh.1 ho).1
 obtain⟨it,k⟩:∃it,its[i]? = some it:=⟨its[i],TZ x⟩
 have A:=Uo.1 n i (U4.2 x);rw[ho,k]at A;refine RG.step (olds:=olds) hd ho k A (λd q=>?_) (λt s y=>?_) (λj E D r m=>?_) f (R.cert i o it ho k) u l h
 ·have:=Uo.1 v it (Vb k);rw[q]at this;simpa using this
 ·have C:=Uo.1 g (t,s) y;refine⟨R.old t s y,λb p=>?_⟩;have c:=C;dsimp only at c;rw[p]at c;dsimp only at c;cases z:bl[b]? with
  | none=>rw[z]at c;cases c
  | some e=>rw[z]at c;exact⟨e,rfl,by simpa using c⟩
 ·have c:=Uo.1 n j (U4.2 (T9.1 m).1);rw[r,m]at c;simp only[okB,T0]at c;simpa using c.1.1.1.1
theorem Reg.back{i:Nat}{o:UI}(R:Reg P ops Q w0 k0 X its bl olds a0 μ0)(ho:ops[i]? = some o):i<its.length/\∀e∈o.after,U7 .any e=true->e.on<i:=by
 have g:=R.chk;simp only[allB,T0,beq_iff_eq]at g;obtain⟨⟨⟨⟨d,hd⟩,f⟩,j⟩,k⟩:=g;have b:i<its.length:=by rw[<-d];exact(Uh.1 ho).1
 have c:=Uo.1 k i (U4.2 b);rw[ho,TZ b]at c;simp only[okB,T0]at c;refine⟨b,λe m l=>?_⟩;have:=Vu.1 c.1.1.2 e m;simpa[l]using this
theorem Reg.size(R:Reg P ops Q w0 k0 X its bl olds a0 μ0):ops.size=its.length:=by
 have k:=R.chk;simp only[allB,T0,beq_iff_eq]at k;exact k.1.1.1.1
theorem Reg.full{a:Act}(R:Reg P ops Q w0 k0 X its bl olds a0 μ0)(h:Inv ops its bl a0 w0 k0 X μ0 L a w)(d:UN .any ops L=[]):∀i,i<its.length->on L i=true:=by
 intro i;induction i using yBa with
 | ind i ih =>
  intro c;have ho:ops[i]? = some (ops[i]'(by rw[R.size];exact c)):=Uj _;cases k:on L i with
  | true=>rfl
  | false =>
   have:i∈UN .any ops L:=mem_ready.2 ⟨?_,_,ho,λe g f=>?_⟩
   ·rw[d]at this;cases this
   ·unfold on at k;rw[TS,Uj (by rw[h.size];exact c)]at k⊢;exact k
   ·have b:=(R.back ho).2 e g f;exact ih e.on b (Nat.lt_trans b c)
def ad(ks:List Nat)(b:Nat):Nat:=ks.getD b 0
structure St(w0:TA)(k0:Nat)(X:List Nat)(cs:List (List TC))(ks:List Nat)(w:TA):Prop where
 bel:BelX k0 X w0 w
 le:k0<=w.heap.size
 len:ks.length=cs.length
 has:∀(b:Nat) (c:List TC),cs[b]? = some c->w.rangeAt (ad ks b) 0 c/\w.there (ad ks b) 0 c.length/\ad ks b<w.heap.size/\(k0<=ad ks b\/ad ks b∈X)
 inj:∀(b c:Nat),b<cs.length->c<cs.length->b≠c->ad ks b≠ad ks c
theorem St.drew{cs:List (List TC)}{ks:List Nat}(h:St w0 k0 X cs ks w):St w0 k0 X cs ks w.drew:=⟨h.bel.drew,h.le,h.len,h.has,h.inj⟩
def Bl.fin(e:Bl):List TC:=if e.st.isSome=true then e.after else e.before
def mM(k:List Bl)(n:Nat):Bool:=k.zipIdx.all (λx=>x.1.al.isNone == decide (x.2<n)) && decide (n<=k.length)
theorem yK{r:Array UI}{cs:List (List TC)}{ks:List Nat}(q:St w0 k0 X cs ks w)(v:mM bl cs.length=true)(t:(bl.map (·.before)).take cs.length=cs):
 Inv r its bl a0 w0 k0 X (ad ks) (TP its.length false) a0 w:=by
 simp only[mM,T0]at v;have g:∀i,on (TP its.length false) i=false:=λi=>by
  unfold on;rw[TS,VZ];by_cases h:i<its.length
  ·rw[yB3 h];rfl
  ·rw[yB4 h];rfl
 have k:∀(b:Nat) (e:Bl),bl[b]? = some e->e.live (TP its.length false)=true->b<cs.length:=λb e l p=>by
  have n:=jW v.1 b e l;unfold Bl.live at p;cases m:e.al with
  | none=>simpa[m]using n
  | some j=>rw[m]at p;have:on (TP its.length false) j=true:=p;rw[g]at this;cases this
 have m:∀e:Bl,e.put (TP its.length false)=false:=λe=>by
  unfold Bl.put;cases e.st with
  | none=>rfl
  | some j=>exact g j
 have n:∀(b:Nat) (e:Bl),bl[b]? = some e->b<cs.length->cs[b]? = some e.before:=λb e l s=>by
  rw[<-t,Vh,yB3 s,UX,l];rfl
 refine⟨Array.size_replicate,(λi o _ h=>by rw[g]at h;cases h),ad ks,λ_ _ _ _=>rfl,⟨rfl,rfl,λi it d a ho=>?_,λ_ _=>rfl⟩,⟨q.bel,q.le,λb e l p=>?_,λb c e f l y z hf u=>q.inj b c (k b e l z) (k c f y hf) u⟩,λb e l x=>?_⟩
 ·rw[g]at ho;cases ho
 ·unfold Bl.now;rw[m e];exact q.has b e.before (n b e l (k b e l p))
 ·rw[m e]at x;cases x
theorem Inv.done{a:Act}{cs:List (List TC)}{ks:List Nat}(R:Reg P ops Q w0 k0 X its bl olds a0 (ad ks))(h:Inv ops its bl a0 w0 k0 X (ad ks) L a w)(o:ks.length=cs.length)(C:mM bl cs.length=true)(k:∀i,i<its.length->on L i=true)
 (p:∀e∈bl,∀j,e.al=some j\/e.st=some j->j<its.length) (s:∀e∈bl,e.fin.length=e.before.length)
 (I:∀(new:List Nat) (w':TA),new.length=bl.length-cs.length->St w0 k0 X (bl.map Bl.fin) (ks++new) w'->Q .normal (puts (ad (ks++new)) its a0) w'):Q .normal a w:=by
 obtain⟨D,-,μ,hμ,G,A,N⟩:=h;have J:=R.chk;simp only[allB,T0,beq_iff_eq]at J;obtain⟨⟨⟨⟨u,hd⟩,v⟩,y⟩,H⟩:=J;have K:=C;simp only[mM,T0,decide_eq_true_eq]at C;have f:∀(b:Nat) (e:Bl),bl[b]? = some e->e.live L=true:=λb e l=>by
  unfold Bl.live;cases g:e.al with
  | none=>rfl
  | some j=>exact k j (p e (Vb l) j (Ub g))
 have z:∀(b:Nat) (e:Bl),bl[b]? = some e->e.now L=e.fin:=λb e l=>by
  unfold Bl.now Bl.put Bl.fin;cases g:e.st with
  | none=>rfl
  | some j =>
   have:=k j (p e (Vb l) j (T8 g));simp[this]
 have g:∀b,b<bl.length->ad (ks++(US (bl.length-cs.length)).map (λj=>μ (cs.length+j))) b=μ b:=λb l=>by
  unfold ad;rw[Vf];by_cases n:b<cs.length
  ·rw[UB (by rw[o];exact n)];obtain⟨e,m⟩:∃e,bl[b]? = some e:=⟨bl[b],TZ l⟩
   have t:=jW C.1 b e m;have q:e.al=none:=by simpa[n]using t
   rw[hμ b e m q];unfold ad;rw[Vf]
  ·rw[U1 (by rw[o];omega),UX,o,List.getElem?_range oM];show μ (cs.length+(b-cs.length))=μ b
   congr 1
   omega
 have q:=G.done hd (λit E d n=>by
  have:=Uo.1 y it E;rw[n]at this;simpa using this) k
 have B:puts μ its a0=puts (ad (ks++(US (bl.length-cs.length)).map (λj=>μ (cs.length+j)))) its a0:=by
  have key:∀it∈its,∀d,it.dst=some d->it.out.at μ=it.out.at (ad (ks++(US (bl.length-cs.length)).map (λj=>μ (cs.length+j)))):=λit E d n=>by
   obtain⟨i,F⟩:=Vv E;have M:=(G.got i it d F (k i (T9.1 F).1) n).2;refine SV.at_congr λb l=>?_
   obtain⟨e,m,-⟩:=M b l;rw[g b (T9.1 m).1]
  clear G q v H y hd u D R k p I;generalize a0=F;induction its generalizing F with
  | nil=>rfl
  | cons it r ih =>
   rw[puts,puts];have t:F.put it.dst (it.out.at μ)=F.put it.dst (it.out.at (ad (ks++(US (bl.length-cs.length)).map (λj=>μ (cs.length+j))))):=by
    cases n:it.dst with
    | none=>rfl
    | some d=>rw[key it Uz d n]
   rw[t];exact ih (λx M=>key x (Uq _ M)) _
 rw[q,B];refine I _ w (by simp) ⟨A.bel,A.le,?_,λb c p=>?_,λb c l p F=>?_⟩
 ·simp only[TT,Uk,List.length_range];omega
 ·rw[UX]at p;cases m:bl[b]? with
  | none=>rw[m]at p;cases p
  | some e =>
   rw[m]at p;obtain rfl:e.fin=c:=Uc.inj p;have t:=A.has b e m (f b e m);rw[z b e m]at t;rw[g b (T9.1 m).1,s e (Vb m)];exact t
 ·rw[Uk]at l p;rw[g b l,g c p];exact A.inj b c _ _ (TZ l) (TZ p) (f b _ (TZ l)) (f c _ (TZ p)) F
theorem region_draws'{id:Nat}{cs:List (List TC)}{ks:List Nat}(v:P.follows .mixedOrders=true)(q:St w0 k0 X cs ks w)(R:Reg P ops Q w0 k0 X its bl olds a0 (ad ks))(r:mM bl cs.length=true)(s:(bl.map (·.before)).take cs.length=cs)(hE:(∀e∈bl,∀j,e.al=some j\/e.st=some j->j<its.length)/\∀e∈bl,e.fin.length=e.before.length)
 (u:∀(new:List Nat) (w':TA),new.length=bl.length-cs.length->St w0 k0 X (bl.map Bl.fin) (ks++new) w'->Q .normal (puts (ad (ks++new)) its a0) w'):(Vj id ops true).wp P Q a0 w:=by
 obtain⟨l,c⟩:=hE;have key:∀(k:Nat) (L:Array Bool) (a:Act) (w:TA),unl L=k->Inv ops its bl a0 w0 k0 X (ad ks) L a w->wpAny P .any ops Q k L a w:=by
  intro k;induction k with
  | zero =>
   intro L a w t g;have f:∀i,i<its.length->on L i=true:=λi n=>jJ t i (by rw[g.size];exact n)
   refine⟨?_,g.done R q.len r f l c u⟩;apply List.eq_nil_iff_forall_not_mem.2;intro i n;obtain⟨d,o,ho,-⟩:=mem_ready.1 n;have m:=f i (R.back ho).1;unfold on at m;rw[TS]at d m;cases p:L[i]? with
   | none=>rw[p]at d;cases d
   | some b=>rw[p]at d m;rw[show b=false from d]at m;cases m
  | succ k ih =>
   intro L a w t g;refine⟨λx=>g.done R q.len r (R.full g x) l c u,λi n=>?_⟩;obtain⟨d,o,ho,f⟩:=mem_ready.1 n;have m:on L i=false:=by
    unfold on;rw[TS]at d⊢;cases p:L[i]? with
    | none=>rfl
    | some b=>rw[p]at d;exact d
   exact wpOp_mono (λy w' p=>ih _ y w' (by have:=lK d;omega) p) (R.step ho m f g)
 refine wp_region_any v (key _ _ a0 _ ?_ ?_)
 ·unfold unl;rw[Array.toList_replicate,List.countP_replicate];simp
 ·rw[R.size];exact yK q.drew r s
theorem region_text'{id:Nat}{cs:List (List TC)}{ks:List Nat}(o:St w0 k0 X cs ks w)(R:Reg P ops Q w0 k0 X its bl olds a0 (ad ks))(p:mM bl cs.length=true)(n:(bl.map (·.before)).take cs.length=cs)(hE:(∀e∈bl,∀j,e.al=some j\/e.st=some j->j<its.length)/\∀e∈bl,e.fin.length=e.before.length)
 (f:∀(new:List Nat) (w':TA),new.length=bl.length-cs.length->St w0 k0 X (bl.map Bl.fin) (ks++new) w'->Q .normal (puts (ad (ks++new)) its a0) w'):(Vj id ops false).wp P Q a0 w:=by
 obtain⟨g,k⟩:=hE;have key:∀(m i:Nat) (L:Array Bool) (a:Act) (w:TA),i+m=its.length->(∀j,j<its.length->on L j=decide (j<i))->Inv ops its bl a0 w0 k0 X (ad ks) L a w->wpOps P ops Q (List.range' i m) a w:=by
  intro m;induction m with
  | zero =>
   intro i L a w s b d;exact d.done R o.len p (λj c=>by rw[b j c];simp;omega) g k f
  | succ m ih =>
   intro i L a w s b d;rw[List.range'_succ,wpOps_cons];have ho:ops[i]? = some (ops[i]'(by rw[R.size];omega)):=Uj _;refine wpOp_mono (λu w' l=>ih (i+1) _ u w' oM (λj c=>?_) l) (R.step ho (by rw[b i oM];simp) (λe t r=>?_) d)
   ·rw[eI (by rw[d.size];omega),b j c];by_cases q:j<i
    ·simp[q];omega
    ·by_cases f:i=j
     ·subst f;simp
     ·have:¬j<i+1:=oM;simp[q,f,this]
   ·have f:=(R.back ho).2 e t r;rw[b e.on oM];simpa using f
 refine wp_region ?_;rw[List.range_eq_range',R.size];refine key its.length 0 (TP its.length false) a0 w oM (λj c=>?_) (yK o p n);unfold on;rw[TS,VZ,yB3 c];simp
end RG
namespace RG
open Go Go.RowKit
variable {P:Vd}{Q:YJ->Act->TA->Prop}{its:List It}{bl:List Bl}{olds:List (Vn × SV)}{ops:Array UI}{i:Nat}{o:UI}{it:It}{w0:TA}{k0:Nat}{X:List Nat}
theorem cY(d:it.kind=.stay)(b:∀(μ:Nat->Nat) (a:Act) (w:TA),Known ops i its olds it.need μ a->BelX k0 X w0 w->(UD a.eval o).run P w=.ok (.value (it.out.at μ)) w):Cert P Q w0 k0 X ops i its bl olds o it:=by
 intro μ a w K c _ k;rw[d];intro h;unfold Vp;rw[b μ a w c k];exact h
theorem oK(y:it.kind=.stay)(b off:Nat)(e:Bl)(r:bl[b]? = some e)(n:e.al=none)(l:readB ops i e=true)(T:Uw)(t:Vn)(ho:o.op=.load T (.tmp t))(cs:List TC)(c:it.out=.v (.agg cs.toArray))
 (u:∀(μ:Nat->Nat) (a:Act),Known ops i its olds it.need μ a->a.eval (.tmp t)=(SV.p b off).at μ) (k:(e.before.drop off).take cs.length=cs)
 (m:(P.underlying T).map (·.isRow)=some true) (s:(P.info? T).map (·.size)=some cs.length):Cert P Q w0 k0 X ops i its bl olds o it:=by
 intro μ a w K x z _;rw[y];intro h;rw[c]at h;obtain⟨d,m,hd⟩:=TJ.1 m;refine wp_load_mid T (.tmp t) ho (μ b) off (u μ a x) cs d (λj v f=>?_) m hd s h;have q:=z b e r (Ub n) l (off+j) v ?_
 ·rw[TO]at q;exact q
 ·rw[<-k]at f;have g:j<cs.length:=by
   have p:=(T9.1 f).1;rw[k]at p;exact p
  rw[Vh,yB3 g,Zb]at f;exact f
theorem sQ(l:it.kind=.call)(f:Xy)(args:Array TC)(v:TC)(c:it.out=.v v)(b:∀(μ:Nat->Nat) (a:Act) (w:TA),Known ops i its olds it.need μ a->BelX k0 X w0 w->(UD a.eval o).run P w=.ok (.enter f args) w)
 (d:∀w,BelX k0 X w0 w->TW P f args w (rZ w λe w'=>e=v)):Cert P Q w0 k0 X ops i its bl olds o it:=by
 intro μ a w K j _ k;rw[l];intro h;rw[c]at h;unfold Vp;rw[b μ a w j k,WO];refine(d w k).mono ?_;rintro e w' ⟨m,rfl,g,rfl⟩;exact h w' g
theorem sP(b:Nat)(j:it.kind=.make b)(e:Bl)(f:bl[b]? = some e)(t:Uw)(d:∀(μ:Nat->Nat) (a:Act) (w:TA),Known ops i its olds it.need μ a->BelX k0 X w0 w->(UD a.eval o).run P w=.ok (.value (it.out.at (upd μ b w.heap.size))) (w.alloc (.cells e.before.toArray t))):Cert P Q w0 k0 X ops i its bl olds o it:=by
 intro μ a w K g _ k;rw[j];intro e' c h;rw[f]at c;obtain rfl:e=e':=Uc.inj c;unfold Vp;rw[d μ a w g k];exact h _ _ (Made.alloc w e.before t)
theorem JL(b:Nat)(s:it.kind=.put b)(e:Bl)(l:bl[b]? = some e)(T:Uw)(x y:Yj)(ho:o.op=.store T x y)(d:o.dst=none)(k:e.after.length=e.before.length)
 (n:∀(μ:Nat->Nat) (a:Act),Known ops i its olds it.need μ a->a.eval x=(SV.p b 0).at μ) (q:∀(μ:Nat->Nat) (a:Act),Known ops i its olds it.need μ a->a.eval y=.agg e.after.toArray)
 (m:(P.info? T).map (·.size)=some e.after.length) (r:e.after.all (·.oneCell')=true):Cert P Q w0 k0 X ops i its bl olds o it:=by
 intro μ a w K j _ _;rw[s];intro e' c g p h;rw[l]at c;obtain rfl:e=e':=Uc.inj c;have f:=PutTo.whole g p k;refine wp_store_mid T x y ho (μ b) 0 e.after.toArray (n μ a j) (q μ a j) ?_ ?_ ?_ ?_
 ·rw[UH,k];exact g
 ·rw[UH];exact m
 ·exact all_oneCell_toArray (λv hv=>Uo.1 r v hv)
 ·have:=h _ f;rw[d]at this⊢;exact this
theorem Known.op{k:List (Vn × Nat)}{μ:Nat->Nat}{a:Act}(h:Known ops i its olds k μ a)(t:Vn)(j:Nat)(d:(t,j)∈k){b:It}(c:its[j]? = some b):a.eval (.tmp t)=b.out.at μ:=h.1 t j b d c
theorem Known.old{k:List (Vn × Nat)}{μ:Nat->Nat}{a:Act}(h:Known ops i its olds k μ a)(t:Vn)(s:SV)(b:(t,s)∈olds)(hf:E4 ops its i t=true):a.eval (.tmp t)=s.at μ:=h.2 t s b hf
theorem len1{l:List Nat}(h:l.length=1):∃k,l=[k]:=List.length_eq_one_iff.1 h
theorem len2{l:List Nat}(h:l.length=2):∃k j,l=[k,j]:=by
 match l,h with
 | [k,j],_=>exact⟨k,j,rfl⟩
end RG
namespace RG
open Go Go.RowKit
variable {P:Vd}{ops:Array UI}{Q:YJ->Act->TA->Prop}{w0 w:TA}{k0:Nat}{X:List Nat}{its:List It}{bl:List Bl}{olds:List (Vn × SV)}{a0:Act}{L:Array Bool}{μ μ0:Nat->Nat}{i:Nat}{o:UI}{it:It}
def Certs(P:Vd)(Q:YJ->Act->TA->Prop)(e:TA)(d:Nat)(X:List Nat)(k:Array UI)(b:List It)(c:List Bl)(olds:List (Vn × SV)):Nat->List UI->List It->Prop
 | _,[],_=>True
 | _,_ :: _,[]=>False
 | i,o :: os,it :: is=>Cert P Q e d X k i b c olds o it/\Certs P Q e d X k b c olds (i+1) os is
theorem Certs.get:∀ {b:List UI}{k:List It}{n:Nat},Certs P Q w0 k0 X ops its bl olds n b k->∀(i:Nat) (o:UI) (it:It),b[i]? = some o->k[i]? = some it->Cert P Q w0 k0 X ops (n+i) its bl olds o it
 | [],_,_,_,i,_,_,h,_=>by simp at h
 | _ :: _,[],_,h,_,_,_,_,_=>h.elim
 | o :: b,it :: k,_,h,0,o',it',ho,hi=>by
  obtain rfl:o=o':=by simpa using ho
  obtain rfl:it=it':=by simpa using hi
  exact h.1
 | o :: b,it :: k,n,h,i+1,o',it',ho,hi=>by
  have:=Certs.get h.2 i o' it' (by simpa using ho) (by simpa using hi);rw[show n+(i+1)=n+1+i by omega];exact this
def Olds(a0:Act)(k:Nat->Nat):List (Vn × SV)->Prop
 | []=>True
 | x :: r=>a0.tmps[x.1]? = some (x.2.at k)/\Olds a0 k r
theorem Olds.get:∀ {l:List (Vn × SV)},Olds a0 μ0 l->∀(t:Vn) (s:SV),(t,s)∈l->a0.tmps[t]? = some (s.at μ0)
 | [],_,_,_,h=>by cases h
 | x :: r,h,t,s,hm=>by
  rcases List.mem_cons.1 hm with e|e
  ·subst e;exact h.1
  ·exact Olds.get h.2 t s e
theorem Reg.mk'(b:allB ops its bl olds a0.tmps.size=true)(old:Olds a0 μ0 olds)(k:Certs P Q w0 k0 X ops its bl olds 0 ops.toList its):Reg P ops Q w0 k0 X its bl olds a0 μ0:=
 ⟨b,λt s d=>old.get t s d,λi o it ho c=>by have:=k.get i o it (by rw[UF];exact ho) c;rwa[TO]at this⟩
theorem xE(j:it.kind=.call)(f:Xy)(t1:Vn)(v1 v:TC)(b:it.out=.v v)(k:∀(a:Act) (w:TA),(UD a.eval o).run P w=.ok (.enter f #[a.eval (.tmp t1)]) w)
 (g:∀(μ:Nat->Nat) (a:Act),Known ops i its olds it.need μ a->a.eval (.tmp t1)=v1) (c:∀w,TW P f #[v1] w (rZ w λe w'=>e=v)):Cert P Q w0 k0 X ops i its bl olds o it:=
 sQ j f #[v1] v b (λμ a w d _=>by rw[k,g μ a d]) (λw _=>c w)
theorem MQ{b k:Nat}(c:it.out=.p b 0):it.out.at (upd μ b k)=pZ k:=by
 rw[c];show yBj (some ⟨upd μ b k b,0,none⟩)=_;unfold upd;rw[yB3 rfl]
theorem pU(b:Nat)(d:it.kind=.make b)(k:it.out=.p b 0)(e:Bl)(c:bl[b]? = some e)(T:Uw)(ho:o.op=.alloc T)(f:∀w:TA,(yAj T true (.tuple #[])).run P w=.ok (.pointer (some ⟨w.heap.size,0,none⟩)) (w.alloc (.cells e.before.toArray T))):Cert P Q w0 k0 X ops i its bl olds o it:=by
 refine sP b d e c T λμ a w g _=>?_
 unfold UD;rw[ho];rw[MQ k];show((yAj T true (.tuple #[])) >>= λv=>pure (Ww v)).run P w=_;rw[Ue,f];rfl
theorem aC{e:Func}{a:Act}{cs:List (List TC)}{ks:List Nat}(g:St w0 k0 X cs ks w)(t:Vn)(T:Uw)(i:e.results=#[.cell t T])(b:Nat)(c:List TC)(f:cs[b]? = some c)(j:a.tmps[t]? = some (.pointer (some ⟨ad ks b,0,none⟩)))
 (k:(P.underlying T).map (·.isRow)=some true) (m:(P.info? T).map (·.size)=some c.length):(results e a.tmps).run P w=.ok (.agg c.toArray) w:=by
 obtain⟨d,k,hd⟩:=TJ.1 k;have n:=Z9 (P:=P) w (ad ks b) 0 T c d (g.has b c f).1 k hd m;have l:a.tmps.getD t VU=.pointer (some ⟨ad ks b,0,none⟩):=by rw[TS,j];rfl
 unfold results;rw[i];simp only[WV,YQ,Y6,l,asAddr];simp[Ue,n]
theorem Q6{l:List Nat}(h:l.length=3):∃k j i,l=[k,j,i]:=by
 match l,h with
 | [k,j,i],_=>exact⟨k,j,i,rfl⟩
theorem St.begin(w:TA):St w w.heap.size [] [] [] w:=⟨BelX.refl _ _ _,TG _,rfl,λb c h=>by simp at h,λb c h=>by simp at h⟩
end RG
namespace RG
open Go Go.RowKit
variable {P:Vd}{ops:Array UI}{Q:YJ->Act->TA->Prop}{w0 w:TA}{k0:Nat}{X:List Nat}{its:List It}{bl:List Bl}{olds:List (Vn × SV)}{a0:Act}{i:Nat}{o:UI}{it:It}
theorem cJ(k:it.kind=.pass)(h:it.out=.v VU):Cert P Q w0 k0 X ops i its bl olds o it:=by
 intro μ a w K _ _ _;rw[k];exact h
theorem Ck(e:it.kind=.stay)(T:Uw)(n:Nat)(t1:Vn)(ho:o.op=.build T #[(n,.tmp t1)])(v1 v:TC)(k:it.out=.v v)
 (d:∀(μ:Nat->Nat) (a:Act),Known ops i its olds it.need μ a->a.eval (.tmp t1)=v1)
 (b:∀w:TA,(Instr.build T #[(n,v1)]).run P w=.ok v w):Cert P Q w0 k0 X ops i its bl olds o it:=by
 refine cY e λμ a w c _=>?_
 unfold UD;rw[ho,k];dsimp only;simp only[Zw,V2,Zx,d μ a c];rw[Ue,b];rfl
theorem aJ(j:it.kind=.stay)(op:BinOp)(T c:Uw)(t1 t2:Vn)(v1 v2 v:TC)(ho:o.op=.binOp op T (.tmp t1) (.tmp t2) c)(k:it.out=.v v)
 (g:∀(μ:Nat->Nat) (a:Act),Known ops i its olds it.need μ a->a.eval (.tmp t1)=v1) (d:∀(μ:Nat->Nat) (a:Act),Known ops i its olds it.need μ a->a.eval (.tmp t2)=v2)
 (f:∀w,(eqGuard op T (.tmp t1) (.tmp t2) v1 v2).run P w=.ok () w) (e:∀w,(binOp op T v1 v2).run P w=.ok v w):Cert P Q w0 k0 X ops i its bl olds o it:=by
 refine cY j λμ a w b _=>?_
 unfold UD;rw[ho,k];dsimp only;rw[g μ a b,d μ a b,Ue,Ue,f];dsimp only[ZA];rw[e];rfl
theorem eD{k:Func}{a:Act}(t:Vn)(c:k.results=#[.tmp t])(v:TC)(d:a.tmps[t]? = some v):(results k a.tmps).run P w=.ok v w:=by
 have b:a.tmps.getD t VU=v:=by rw[TS,d];rfl
 unfold results;rw[c];simp only[WV,YQ,Y6,b];simp[Ue]
theorem bQ{f:Func}{a:Act}{cs:List (List TC)}{ks:List Nat}(j:St w0 k0 X cs ks w)(t u:Vn)(T:Uw)(o:f.results=#[.cell t T,.tmp u])(b:Nat)(c:List TC)(g:cs[b]? = some c)(n:a.tmps[t]? = some (.pointer (some ⟨ad ks b,0,none⟩)))(v:TC)(k:a.tmps[u]? = some v)
 (e:(P.underlying T).map (·.isRow)=some true) (l:(P.info? T).map (·.size)=some c.length):(results f a.tmps).run P w=.ok (.tuple #[.agg c.toArray,v]) w:=by
 obtain⟨d,e,hd⟩:=TJ.1 e;have p:=Z9 (P:=P) w (ad ks b) 0 T c d (j.has b c g).1 e hd l;have i:a.tmps.getD t VU=.pointer (some ⟨ad ks b,0,none⟩):=by rw[TS,n];rfl
 have m:a.tmps.getD u VU=v:=by rw[TS,k];rfl
 unfold results;rw[o];simp only[WV,YQ,Y6,i,m,asAddr];simp[Ue,p]
end RG
namespace RG
open Go Go.RowKit
variable {P:Vd}{ops:Array UI}{Q:YJ->Act->TA->Prop}{w0 w:TA}{k0:Nat}{X:List Nat}{its:List It}{bl:List Bl}{olds:List (Vn × SV)}{a0 a:Act}{i:Nat}{o:UI}{it:It}{μ:Nat->Nat}
structure Sl(a:Act)(n:Nat):Prop where
 size:a.tmps.size=n
 defers:a.defers=[]
theorem Sl.puts{n:Nat}(h:Sl a n):Sl (puts μ its a) n:=⟨by rw[yP];exact h.size,by rw[mW];exact h.defers⟩
theorem E8{t:Vn}{v:TC}(h:a.tmps[t]? = some v):a.eval (.tmp t)=v:=by
 show a.tmps.getD t VU=v;rw[TS,h];rfl
theorem results_none{k:Func}{tmps:Array TC}(b:k.results=#[]):(results k tmps).run P w=.ok (.tuple #[]) w:=by
 unfold results;rw[b];simp
theorem Hl{c:Code}{v0:TC}{n:Nat}(k:a.tmps[0]? = some v0)(b:a.tmps.size=n)(hd:a.defers=[])(h:∀a,Sl a n->a.tmps[0]? = some v0->c.wp P Q a w):c.wp P Q a w:=h a ⟨b,hd⟩ k
theorem Kx{c:Code}{v0 v1:TC}{n:Nat}(k:a.tmps[0]? = some v0)(b:a.tmps[1]? = some v1)(d:a.tmps.size=n)(hd:a.defers=[])(h:∀a,Sl a n->a.tmps[0]? = some v0->a.tmps[1]? = some v1->c.wp P Q a w):c.wp P Q a w:=h a ⟨d,hd⟩ k b
theorem Sk{c:Code}{v0 v1 v2:TC}{n:Nat}(b:a.tmps[0]? = some v0)(d:a.tmps[1]? = some v1)(k:a.tmps[2]? = some v2)(e:a.tmps.size=n)(hd:a.defers=[])(h:∀a,Sl a n->a.tmps[0]? = some v0->a.tmps[1]? = some v1->a.tmps[2]? = some v2->c.wp P Q a w):c.wp P Q a w:=h a ⟨e,hd⟩ b d k
theorem mB(b:Nat)(m:it.kind=.make b)(e:Bl)(f:bl[b]? = some e)(T E:Uw)(t1 t2:Vn)(n:Nat)(k:it.out=.s b n n)(ho:o.op=.makeSlice T (.tmp t1) (.tmp t2))
 (l:∀(μ:Nat->Nat) (a:Act),Known ops i its olds it.need μ a->a.eval (.tmp t1)=iZ n) (d:∀(μ:Nat->Nat) (a:Act),Known ops i its olds it.need μ a->a.eval (.tmp t2)=iZ n)
 (g:∀w:TA,(Instr.makeSlice T (iZ n) (iZ n)).run P w=.ok (.slice (some ⟨w.heap.size,0,none⟩) n n) (w.alloc (.cells e.before.toArray E))):Cert P Q w0 k0 X ops i its bl olds o it:=by
 refine sP b m e f E λμ a w c _=>?_
 have j:it.out.at (upd μ b w.heap.size)=.slice (some ⟨w.heap.size,0,none⟩) n n:=by
  rw[k];show V1 (some ⟨upd μ b w.heap.size b,0,none⟩) n n=_;unfold upd;rw[yB3 rfl]
 unfold UD;rw[ho];dsimp only;rw[l μ a c,d μ a c,j,Ue,g];rfl
theorem gI(d:it.kind=.stay)(t:Vn)(s:SV)(v:TC)(k:it.out=.v v)(e:∀(μ:Nat->Nat) (a:Act),Known ops i its olds it.need μ a->a.eval (.tmp t)=s.at μ)
 (hE:∀(a:Act) (w:TA),(UD a.eval o).run P w=(UD (λ_=>a.eval (.tmp t)) o).run P w) (c:∀(μ:Nat->Nat) (w:TA),(UD (λ_=>s.at μ) o).run P w=.ok (.value v) w):Cert P Q w0 k0 X ops i its bl olds o it:=by
 refine cY d λμ a w b _=>?_
 rw[hE,e μ a b,c,k];rfl
theorem D8(y:it.kind=.call)(b:Nat)(e:Bl)(q:bl[b]? = some e)(l:e.al=none)(j:readB ops i e=true)(t:e.before≠[])(f:Xy)(args:(Nat->Nat)->Array TC)(v:TC)(d:it.out=.v v)(k:∀(μ:Nat->Nat) (a:Act) (w:TA),Known ops i its olds it.need μ a->(UD a.eval o).run P w=.ok (.enter f (args μ)) w)
 (n:∀(μ:Nat->Nat) (w:TA),μ b<w.heap.size->w.rangeAt (μ b) 0 e.before->TW P f (args μ) w (rZ w λr w'=>r=v)):Cert P Q w0 k0 X ops i its bl olds o it:=by
 intro μ a w K s z _;rw[y];intro h;rw[d]at h;have m:=z b e q (Ub l) j;have g:μ b<w.heap.size:=by
  cases c:e.before with
  | nil=>exact absurd c t
  | cons x r =>
   have u:=m 0 x (by rw[c];rfl);exact U5 λB=>by
    have p:w.heap[μ b]? = none:=XD oM;simp[WN,p]at u
 unfold Vp;rw[k μ a w s,WO];refine(n μ w g m).mono ?_;rintro r w' ⟨p,rfl,c,rfl⟩;exact h w' c
theorem rU{k o:Nat}{C cs:List TC}(h:w.rangeAt k 0 C)(c:∀j,j<cs.length->C[o+j]? = cs[j]?):w.rangeAt k o cs:=λj v hv=>by
 have b:=(T9.1 hv).1;have:=h (o+j) v (by rw[c j b];exact hv);rwa[TO]at this
theorem aY(d:it.kind=.stay)(T:Uw)(t u:Vn)(ho:o.op=.indexAddr T (.tmp t) (.tmp u))(s:SV)(b:TC)(e:∀(μ:Nat->Nat) (a:Act),Known ops i its olds it.need μ a->a.eval (.tmp t)=s.at μ)(c:∀(μ:Nat->Nat) (a:Act),Known ops i its olds it.need μ a->a.eval (.tmp u)=b)
 (hf:∀(μ:Nat->Nat) (w:TA),(UP T (s.at μ) b).run P w=.ok (it.out.at μ) w):Cert P Q w0 k0 X ops i its bl olds o it:=by
 refine cY d λμ a w k _=>?_
 unfold UD;rw[ho];dsimp only;rw[e μ a k,c μ a k,Ue,hf];rfl
theorem dU(c:it.kind=.stay)(T:Uw)(t:Vn)(k:TC)(ho:o.op=.indexAddr T (.tmp t) (.const k))(s:SV)(d:∀(μ:Nat->Nat) (a:Act),Known ops i its olds it.need μ a->a.eval (.tmp t)=s.at μ)
 (hf:∀(μ:Nat->Nat) (w:TA),(UP T (s.at μ) k).run P w=.ok (it.out.at μ) w):Cert P Q w0 k0 X ops i its bl olds o it:=by
 refine cY c λμ a w b _=>?_
 unfold UD;rw[ho];dsimp only;rw[d μ a b];show((UP T (s.at μ) k) >>= λv=>pure (Ww v)).run P w=_;rw[Ue,hf];rfl
theorem aH(f:it.kind=.stay)(op:BinOp)(T g:Uw)(t1:Vn)(v1 v2 v:TC)(ho:o.op=.binOp op T (.tmp t1) (.const v2) g)(k:it.out=.v v)
 (e:∀(μ:Nat->Nat) (a:Act),Known ops i its olds it.need μ a->a.eval (.tmp t1)=v1)
 (b:∀w,(eqGuard op T (.tmp t1) (.const v2) v1 v2).run P w=.ok () w) (c:∀w,(binOp op T v1 v2).run P w=.ok v w):Cert P Q w0 k0 X ops i its bl olds o it:=by
 refine cY f λμ a w d _=>?_
 unfold UD;rw[ho,k];dsimp only;rw[e μ a d];show(((eqGuard op T (.tmp t1) (.const v2) v1 v2) >>= λ_=>binOp op T v1 v2) >>= λv=>pure (Ww v)).run P w=_;rw[Ue,Ue,b];dsimp only[ZA];rw[c];rfl
theorem jG(e:it.kind=.stay)(S T:Uw)(t:Vn)(v b:TC)(ho:o.op=.convert S T (.tmp t))(k:it.out=.v b)(f:∀(μ:Nat->Nat) (a:Act),Known ops i its olds it.need μ a->a.eval (.tmp t)=v)(c:∀w,(convert S T v).run P w=.ok b w):Cert P Q w0 k0 X ops i its bl olds o it:=by
 refine cY e λμ a w d _=>?_
 unfold UD;rw[ho,k];dsimp only;rw[f μ a d,Ue,c];rfl
theorem MI(e:it.kind=.stay)(op:UnOp)(T:Uw)(t:Vn)(v b:TC)(ho:o.op=.unOp op T (.tmp t))(k:it.out=.v b)(f:∀(μ:Nat->Nat) (a:Act),Known ops i its olds it.need μ a->a.eval (.tmp t)=v)(c:∀w,(Op.unary op v).run P w=.ok b w):Cert P Q w0 k0 X ops i its bl olds o it:=by
 refine cY e λμ a w d _=>?_
 unfold UD;rw[ho,k];dsimp only;rw[f μ a d,Ue,c];rfl
theorem eJ(r:it.kind=.stay)(k off:Nat)(e:k<k0)(f:k ∉ X)(T:Uw)(t:Vn)(ho:o.op=.load T (.tmp t))(cs:List TC)(b:it.out=.v (.agg cs.toArray))
 (n:∀(μ:Nat->Nat) (a:Act),Known ops i its olds it.need μ a->a.eval (.tmp t)=.pointer (some ⟨k,off,none⟩)) (q:w0.rangeAt k off cs)
 (c:(P.underlying T).map (·.isRow)=some true) (m:(P.info? T).map (·.size)=some cs.length):Cert P Q w0 k0 X ops i its bl olds o it:=by
 intro μ a w K p _ l;rw[r];intro h;rw[b]at h;obtain⟨d,c,hd⟩:=TJ.1 c;refine wp_load_mid T (.tmp t) ho k off (n μ a p) cs d (λj v g=>?_) c hd m h;rw[Ua (w:=w0) (a:=⟨k,off+j,none⟩) (l.block k e f)];exact q j v g
theorem kV{T:Uw}{k off:Nat}{v:TC}(e:w.cell? ⟨k,off,none⟩=some v)(c:(P.underlying T).map (·.isRow)=some false):(ZZ T (.pointer (some ⟨k,off,none⟩))).run P w=.ok v w:=by
 obtain⟨d,c,hd⟩:=TJ.1 c;have b:(isAgg T).run P w=.ok false w:=by
  unfold isAgg;rw[Ue,run_underlying c w];cases d<;>simp_all
 simp[ZZ,Yk,loadVar,Ue,b,e]
theorem mC(p:it.kind=.stay)(b off:Nat)(e:Bl)(l:bl[b]? = some e)(f:e.al=none)(d:readB ops i e=true)(T:Uw)(t:Vn)(ho:o.op=.load T (.tmp t))(v:TC)(c:it.out=.v v)
 (m:∀(μ:Nat->Nat) (a:Act),Known ops i its olds it.need μ a->a.eval (.tmp t)=(SV.p b off).at μ) (k:e.before[off]? = some v)
 (j:(P.underlying T).map (·.isRow)=some false):Cert P Q w0 k0 X ops i its bl olds o it:=by
 intro μ a w K n q _;rw[p];intro h;rw[c]at h;have g:=q b e l (Ub f) d off v k;rw[TO]at g;unfold Vp UD;rw[ho];dsimp only;rw[m μ a n];show o.upon P a K Q (((ZZ T (.pointer (some ⟨μ b,off,none⟩))) >>= λv=>pure (Ww v)).run P w);rw[Ue,kV g j];exact h
theorem CV{T:Uw}{k off:Nat}{v u:TC}(e:w.cell? ⟨k,off,none⟩=some u)(hf:w.frozen? ⟨k,off,none⟩=false)(f:v.oneCell'=true)(hv:v.cells=#[v])(d:(P.info? T).map (·.size)=some 1):(Yw T (.pointer (some ⟨k,off,none⟩)) v).run P w=.ok () (w.setCells k off [v]):=by
 have:=run_storeCells_cells (P:=P) k off [v] 0 w (λj b=>by
  obtain rfl:j=0:=by simpa using b
  simp[e]) (λj b=>by
  obtain rfl:j=0:=by simpa using b
  simpa using hf) (λx c=>by
  obtain rfl:x=v:=by simpa using c
  exact f)
 cases c:P.info? T with
 | none=>simp[c]at d
 | some inf =>
  have g:inf.size=1:=by simp[c]at d;omega
  simp only[VK]at this;simp[Yw,Yk,storeVar,sizeOf,typeInfo,c,hv,g,this]
theorem GW(b off:Nat)(B:it.kind=.put b)(e:Bl)(p:bl[b]? = some e)(T:Uw)(x y:Yj)(v:TC)(ho:o.op=.store T x y)(f:o.dst=none)
 (r:∀(μ:Nat->Nat) (a:Act),Known ops i its olds it.need μ a->a.eval x=(SV.p b off).at μ) (t:∀(μ:Nat->Nat) (a:Act),Known ops i its olds it.need μ a->a.eval y=v) (k:off<e.before.length) (c:e.after=e.before.set off v)
 (q:(P.info? T).map (·.size)=some 1) (z:v.oneCell'=true) (hv:v.cells=#[v]):Cert P Q w0 k0 X ops i its bl olds o it:=by
 intro μ a w K n _ _;rw[B];intro e' d m s h;rw[p]at d;obtain rfl:e=e':=Uc.inj d;have g:PutTo (μ b) e.before.length e.after w (w.setCells (μ b) off [v]):=PutTo.store m s (by simp only[Uy,WS];omega) (λj=>by
  rw[c,List.getElem?_set];by_cases l:off=j
  ·subst l;rw[yB3 rfl,yB3 k,yB3 (by simp)];simp
  ·rw[yB4 l,yB4 (by simp only[Uy,WS];omega)])
 have c:=m off k;rw[TO]at c;obtain⟨u,l⟩:=UT.1 c.1;unfold Vp UD;rw[ho];dsimp only;rw[r μ a n,t μ a n];show o.upon P a K Q (((Yw T (.pointer (some ⟨μ b,off,none⟩)) v) >>= λ_=>pure Next.skip).run P w);rw[Ue,CV l c.2 z hv q];have:=h _ g;rw[f]at this;show K (a.put o.dst VU) _;rw[f];exact this
theorem fF(b off:Nat)(z:it.kind=.put b)(e:Bl)(p:bl[b]? = some e)(T:Uw)(x y:Yj)(vs:List TC)(ho:o.op=.store T x y)(f:o.dst=none)
 (r:∀(μ:Nat->Nat) (a:Act),Known ops i its olds it.need μ a->a.eval x=(SV.p b off).at μ) (t:∀(μ:Nat->Nat) (a:Act),Known ops i its olds it.need μ a->a.eval y=.agg vs.toArray) (d:off+vs.length<=e.before.length)
 (k:∀j,e.after[j]? = if off<=j/\j<off+vs.length then vs[j-off]? else e.before[j]?)
 (q:(P.info? T).map (·.size)=some vs.length) (u:vs.all (·.oneCell')=true):Cert P Q w0 k0 X ops i its bl olds o it:=by
 intro μ a w K m _ _;rw[z];intro e' c l s h;rw[p]at c;obtain rfl:e=e':=Uc.inj c;have g:=PutTo.store l s d k;refine wp_store_mid T x y ho (μ b) off vs.toArray (r μ a m) (t μ a m) ?_ ?_ ?_ ?_
 ·intro j n;have:=l (off+j) (by rw[UH]at n;omega);rwa[TO]at this
 ·rw[UH];exact q
 ·exact all_oneCell_toArray (λv hv=>Uo.1 u v hv)
 ·have:=h _ g;rw[f]at this⊢;exact this
theorem AB(b:Nat)(s:it.kind=.put b)(e:Bl)(l:bl[b]? = some e)(f:Xy)(args:(Nat->Nat)->Array TC)(v:TC)(g:it.out=.v v)(c:∀(μ:Nat->Nat) (a:Act) (w:TA),Known ops i its olds it.need μ a->BelX k0 X w0 w->(UD a.eval o).run P w=.ok (.enter f (args μ)) w)
 (j:∀(μ:Nat->Nat) (w:TA),BelX k0 X w0 w->w.there (μ b) 0 e.before.length->w.rangeAt (μ b) 0 e.before->TW P f (args μ) w (Ret λr w'=>PutTo (μ b) e.before.length e.after w w'/\r=v)):Cert P Q w0 k0 X ops i its bl olds o it:=by
 intro μ a w K p _ k;rw[s];intro e' d n q h;rw[l]at d;obtain rfl:e=e':=Uc.inj d;rw[g]at h;unfold Vp;rw[c μ a w p k,WO];refine(j μ w k n q).mono ?_;rintro r w' ⟨t,rfl,m,rfl⟩;exact h w' m
theorem St.lent{k:Nat}{C:List TC}(j:k<w.heap.size)(f:w.rangeAt k 0 C)(e:w.there k 0 C.length):St w w.heap.size [k] [C] [k] w:=by
 refine⟨BelX.refl _ _ _,TG _,rfl,λb c h=>?_,λb c g d i=>?_⟩
 ·cases b with
  | zero =>
   obtain rfl:C=c:=by simpa using h
   exact⟨f,e,j,T8 Uz⟩
  | succ b=>simp at h
 ·simp only[Uy,WS]at g d;omega
theorem St.putTo{k:Nat}{C:List TC}{cs:List (List TC)}{ks:List Nat}{n:Nat}(h:St w0 w0.heap.size [k] (C :: cs) (k :: ks) w)(c:C.length=n):PutTo k n C w0 w:=by
 obtain⟨f,d,-,-⟩:=h.has 0 C rfl;refine⟨h.bel.os,h.bel.tape,h.bel.output,h.bel.size,λj e b=>h.bel.block j e (by simpa using b),f,?_⟩;rw[<-c];exact d
def rep(C:List TC)(o:Nat)(vs:List TC):List TC:=C.take o++(vs++C.drop (o+vs.length))
theorem dH{C vs:List TC}{o:Nat}(h:o+vs.length<=C.length):(rep C o vs).length=C.length:=by
 unfold rep;rw[TT,TT,WF,YF];omega
theorem rep_at{C vs:List TC}{o:Nat}(h:o+vs.length<=C.length)(j:Nat):(rep C o vs)[j]? = if o<=j/\j<o+vs.length then vs[j-o]? else C[j]?:=by
 unfold rep;have k:(C.take o).length=o:=by rw[WF];omega
 by_cases b:j<o
 ·rw[UB (by rw[k];exact b),Vh,yB3 b,yB4 oM]
 ·rw[U1 (by rw[k];omega),k];by_cases c:j<o+vs.length
  ·rw[UB oM,yB3 ⟨oM,c⟩]
  ·rw[U1 oM,yB4 oM,Zb]
   congr 1
   omega
theorem NZ{C cs:List TC}{o:Nat}(h:∀j,j<cs.length->C[o+j]? = cs[j]?)(b:o+cs.length<=C.length):(C.drop o).take cs.length=cs:=by
 apply List.ext_getElem?;intro j;by_cases k:j<cs.length
 ·rw[Vh,yB3 k,Zb,h j k]
 ·rw[VW (by rw[WF,YF];omega),VW oM]
theorem yA(b:Nat)(u:it.kind=.put b)(e:Bl)(n:bl[b]? = some e)(f:Xy)(t1 t2 j:Vn)(s1:SV)(v2 g v:TC)(c:it.out=.v v)(k:∀(a:Act) (w:TA),(UD a.eval o).run P w=.ok (.enter f #[a.eval (.tmp t1),a.eval (.tmp t2),a.eval (.tmp j)]) w)
 (t:∀(μ:Nat->Nat) (a:Act),Known ops i its olds it.need μ a->a.eval (.tmp t1)=s1.at μ) (m:∀(μ:Nat->Nat) (a:Act),Known ops i its olds it.need μ a->a.eval (.tmp t2)=v2) (p:∀(μ:Nat->Nat) (a:Act),Known ops i its olds it.need μ a->a.eval (.tmp j)=g)
 (l:∀(μ:Nat->Nat) (w:TA),w.there (μ b) 0 e.before.length->w.rangeAt (μ b) 0 e.before->TW P f #[s1.at μ,v2,g] w (Ret λr w'=>PutTo (μ b) e.before.length e.after w w'/\r=v)):Cert P Q w0 k0 X ops i its bl olds o it:=
 AB b u e n f (λμ=>#[s1.at μ,v2,g]) v c (λμ a w d _=>by rw[k,t μ a d,m μ a d,p μ a d]) (λμ w _ q s=>l μ w q s)
theorem Cj(s:it.kind=.call)(b:Nat)(e:Bl)(n:bl[b]? = some e)(g:e.al=none)(d:readB ops i e=true)(p:e.before≠[])(f:Xy)(t1 t2:Vn)(s1:SV)(v2 v:TC)(c:it.out=.v v)(k:∀(a:Act) (w:TA),(UD a.eval o).run P w=.ok (.enter f #[a.eval (.tmp t1),a.eval (.tmp t2)]) w)
 (q:∀(μ:Nat->Nat) (a:Act),Known ops i its olds it.need μ a->a.eval (.tmp t1)=s1.at μ) (m:∀(μ:Nat->Nat) (a:Act),Known ops i its olds it.need μ a->a.eval (.tmp t2)=v2)
 (l:∀(μ:Nat->Nat) (w:TA),μ b<w.heap.size->w.rangeAt (μ b) 0 e.before->TW P f #[s1.at μ,v2] w (rZ w λr w'=>r=v)):Cert P Q w0 k0 X ops i its bl olds o it:=
 D8 s b e n g d p f (λμ=>#[s1.at μ,v2]) v c (λμ a w j=>by rw[k,q μ a j,m μ a j]) l
end RG
namespace RG
open Go Go.RowKit
variable {P:Vd}{ops:Array UI}{Q:YJ->Act->TA->Prop}{w0 w:TA}{k0:Nat}{X:List Nat}{its:List It}{bl:List Bl}{olds:List (Vn × SV)}{a:Act}{i:Nat}{o:UI}{it:It}
theorem tO(e:it.kind=.stay)(T:Uw)(t:Vn)(b v c:TC)(ho:o.op=.slice T (.tmp t) (some (.const b)) none none)(k:it.out=.v c)(f:∀(μ:Nat->Nat) (a:Act),Known ops i its olds it.need μ a->a.eval (.tmp t)=v)
 (hf:∀w:TA,(VP T v (some b) none none).run P w=.ok c w):Cert P Q w0 k0 X ops i its bl olds o it:=by
 refine cY e λμ a w d _=>?_
 unfold UD;rw[ho,k];dsimp only;rw[f μ a d];show((VP T v (some b) none none) >>= λv=>pure (Ww v)).run P w=_;rw[Ue,hf];rfl
theorem Ci(d:it.kind=.stay)(T:Uw)(t:Vn)(v b:TC)(ho:o.op=.sliceToArrayPointer T (.tmp t))(k:it.out=.v b)(e:∀(μ:Nat->Nat) (a:Act),Known ops i its olds it.need μ a->a.eval (.tmp t)=v)
 (hf:∀w:TA,(Instr.arrayAt T v).run P w=.ok b w):Cert P Q w0 k0 X ops i its bl olds o it:=by
 refine cY d λμ a w c _=>?_
 unfold UD;rw[ho,k];dsimp only;rw[e μ a c,Ue,hf];rfl
theorem bJ(n:it.kind=.stay)(k off:Nat)(c:k<k0)(d:k ∉ X)(T:Uw)(t:Vn)(ho:o.op=.load T (.tmp t))(v:TC)(b:it.out=.v v)
 (g:∀(μ:Nat->Nat) (a:Act),Known ops i its olds it.need μ a->a.eval (.tmp t)=.pointer (some ⟨k,off,none⟩)) (l:w0.cell? ⟨k,off,none⟩=some v)
 (e:(P.underlying T).map (·.isRow)=some false):Cert P Q w0 k0 X ops i its bl olds o it:=by
 refine cY n λμ a w j f=>?_
 have m:w.cell? ⟨k,off,none⟩=some v:=by
  rw[Ua (w:=w0) (a:=⟨k,off,none⟩) (f.block k c d)];exact l
 unfold UD;rw[ho,b];dsimp only;rw[g μ a j,Ue,kV m e];rfl
theorem kJ(l:it.kind=.call)(f:Xy)(t1 t2:Vn)(v1 v2 v:TC)(b:it.out=.v v)(k:∀(a:Act) (w:TA),(UD a.eval o).run P w=.ok (.enter f #[a.eval (.tmp t1),a.eval (.tmp t2)]) w)
 (j:∀(μ:Nat->Nat) (a:Act),Known ops i its olds it.need μ a->a.eval (.tmp t1)=v1) (g:∀(μ:Nat->Nat) (a:Act),Known ops i its olds it.need μ a->a.eval (.tmp t2)=v2)
 (d:∀w,BelX k0 X w0 w->TW P f #[v1,v2] w (rZ w λe w'=>e=v)):Cert P Q w0 k0 X ops i its bl olds o it:=
 sQ l f #[v1,v2] v b (λμ a w c _=>by rw[k,j μ a c,g μ a c]) d
theorem tP(j:it.kind=.call)(f:Xy)(t1:Vn)(v1 v:TC)(b:it.out=.v v)(k:∀(a:Act) (w:TA),(UD a.eval o).run P w=.ok (.enter f #[a.eval (.tmp t1)]) w)
 (g:∀(μ:Nat->Nat) (a:Act),Known ops i its olds it.need μ a->a.eval (.tmp t1)=v1)
 (c:∀w,BelX k0 X w0 w->TW P f #[v1] w (rZ w λe w'=>e=v)):Cert P Q w0 k0 X ops i its bl olds o it:=
 sQ j f #[v1] v b (λμ a w d _=>by rw[k,g μ a d]) c
theorem St.init{cs:List (List TC)}{c:List TC}{ks:List Nat}{k:Nat}(h:St w0 k0 X (cs++[c]) (ks++[k]) w):St w0 k0 X cs ks w:=by
 have l:ks.length=cs.length:=by have:=h.len;simp only[TT,Uy,WS]at this;omega
 have d:∀b,b<cs.length->ad (ks++[k]) b=ad ks b:=λb f=>by
  unfold ad;rw[Vf,Vf,UB oM]
 refine⟨h.bel,h.le,l,λb g f=>?_,λb g f j i=>?_⟩
 ·have e:=(T9.1 f).1;have:=h.has b g (by rw[UB e];exact f);rwa[d b e]at this
 ·have:=h.inj b g (by rw[TT];omega) (by rw[TT];omega) i;rwa[d b f,d g j]at this
theorem gV{b:Func}{a:Act}(t u:Vn)(e:b.results=#[.tmp t,.tmp u])(v k:TC)(f:a.tmps[t]? = some v)(c:a.tmps[u]? = some k):(results b a.tmps).run P w=.ok (.tuple #[v,k]) w:=by
 have d:a.tmps.getD t VU=v:=by rw[TS,f];rfl
 have g:a.tmps.getD u VU=k:=by rw[TS,c];rfl
 unfold results;rw[e];simp only[WV,YQ,Y6,d,g];simp[Ue]
theorem nK(b:Nat)(l:it.kind=.make b)(e:Bl)(c:bl[b]? = some e)(T E:Uw)(t:Vn)(v:TC)(k:it.out=.s b 1 1)(ho:o.op=.buildSlice T 1 #[(0,.tmp t)])
 (d:∀(μ:Nat->Nat) (a:Act),Known ops i its olds it.need μ a->a.eval (.tmp t)=v)
 (f:∀w:TA,(Instr.buildSlice T 1 #[(0,v)]).run P w=.ok (.slice (some ⟨w.heap.size,0,none⟩) 1 1) (w.alloc (.cells e.before.toArray E))):Cert P Q w0 k0 X ops i its bl olds o it:=by
 refine sP b l e c E λμ a w j _=>?_
 have g:it.out.at (upd μ b w.heap.size)=.slice (some ⟨w.heap.size,0,none⟩) 1 1:=by
  rw[k];show V1 (some ⟨upd μ b w.heap.size b,0,none⟩) 1 1=_;unfold upd;rw[yB3 rfl]
 unfold UD;rw[ho,g];dsimp only;rw[show Array.map (λx:Nat × Yj=>match x with|(i,x)=>(i,a.eval x)) #[(0,Operand.tmp t)]=#[(0,v)] by rw[Zw];simp only[V2,Zx];rw[d μ a j],Ue,f];rfl
theorem nJ(u:it.kind=.stay)(b j:Nat)(e:Bl)(p:bl[b]? = some e)(g:UI)(l:ops[i]? = some g)(m:e.al=some j)(c:bR g j=true)(f:readB ops i e=true)(S T:Uw)(t:Vn)(n:Nat)(v:TC)(ho:o.op=.convert S T (.tmp t))(d:it.out=.v v)
 (q:∀(μ:Nat->Nat) (a:Act),Known ops i its olds it.need μ a->a.eval (.tmp t)=(SV.s b n n).at μ)
 (hf:∀(w:TA) (k:Nat),w.rangeAt k 0 e.before->(convert S T (.slice (some (aZ k)) n n)).run P w=.ok v w):Cert P Q w0 k0 X ops i its bl olds o it:=by
 intro μ a w K r x _;rw[u];intro h;rw[d]at h;have s:=x b e p (T8 ⟨g,j,l,m,c⟩) f;unfold Vp UD;rw[ho];dsimp only;rw[q μ a r];show Oper.upon P o a K Q (((convert S T (.slice (some ⟨μ b,0,none⟩) n n)) >>= λv=>pure (Ww v)).run P w);rw[Ue,hf w (μ b) s];exact h
end RG
namespace RG
open Go Go.RowKit
variable {P:Vd}{ops:Array UI}{Q:YJ->Act->TA->Prop}{w0 w:TA}{k0 n:Nat}{X:List Nat}{its:List It}{bl:List Bl}{os:List (Vn × SV)}{a:Act}{i:Nat}{o:UI}{it:It}{μ:Nat->Nat}{need:List (Vn × Nat)}
def src(c:Array UI)(k:List It)(d:List (Vn × SV))(b:List (Vn × Nat))(i:Nat)(t:Vn):Option SV:=
 match b.find? (λx=>x.1 == t) with
 | some x=>(k[x.2]?).map (·.out)
 | none=>match d.find? (λx=>x.1 == t) with
  | some x=>bif E4 c k i t then some x.2 else none
  | none=>none
theorem mN{t:Vn}{s:SV}(h:src ops its os need i t=some s)(K:Known ops i its os need μ a):a.eval (.tmp t)=s.at μ:=by
 unfold src at h;cases k:need.find? (λx=>x.1 == t) with
 | some x =>
  rw[k]at h;dsimp only at h;have c:=VB k;have b:x.1=t:=by simpa using Xo k
  obtain⟨e,d,rfl⟩:=TJ.1 h;exact K.op t x.2 (by rw[<-b];exact c) d
 | none =>
  rw[k]at h;dsimp only at h;cases ho:os.find? (λx=>x.1 == t) with
  | none=>rw[ho]at h;cases h
  | some x =>
   rw[ho]at h;dsimp only at h;have c:=VB ho;have b:x.1=t:=by simpa using Xo ho
   cases hf:E4 ops its i t with
   | false=>rw[hf]at h;cases h
   | true =>
    rw[hf]at h;obtain rfl:x.2=s:=Uc.inj h;exact K.old t x.2 (by rw[<-b];exact c) hf
theorem sx{t:Vn}{f:(Nat->Nat)->TC}(h:∀μ:Nat->Nat,(src ops its os need i t).map (λs=>s.at μ)=some (f μ):=by intro _;kernel_rfl):∀(μ:Nat->Nat) (a:Act),Known ops i its os need μ a->a.eval (.tmp t)=f μ:=λμ _ K=>by
 obtain⟨s,b,k⟩:=TJ.1 (h μ);rw[mN b K];exact k
def ro(b:Array UI)(c:List It)(d:List (Vn × SV))(k:List (Vn × Nat))(i:Nat)(μ:Nat->Nat):Yj->TC
 | .tmp t=>match src b c d k i t with|some s=>s.at μ|none=>VU
 | .const v=>v
 | .global g=>pZ g
 | .func f=>.func (.func f) #[] #[]
def seen(b:Array UI)(c:List It)(d:List (Vn × SV))(k:List (Vn × Nat))(i:Nat)(o:UI):Bool:=
 (match o.op with | .select _ _=>false|_=>true) && o.op.operands.all (λx=>match x with | .tmp t=>(src b c d k i t).isSome|_=>true)
theorem oI(h:seen ops its os need i o=true)(K:Known ops i its os need μ a):UD a.eval o=UD (ro ops its os need i μ) o:=by
 simp only[seen,T0]at h;refine execOp_congr o (λcs b d=>?_) (λx e=>?_)
 ·rw[d]at h;exact absurd h.1 (by simp)
 ·have k:=Vu.1 h.2 x e;cases x with
  | tmp t =>
   dsimp only at k;obtain⟨s,c⟩:=UT.1 k;rw[mN c K];show _=(match src ops its os need i t with|some s=>s.at μ|none=>VU);rw[c]
  | const v=>rfl
  | global g=>rfl
  | func f=>rfl
theorem st(h:∀(μ:Nat->Nat) (w:TA),((seen ops its os it.need i o,it.kind),(UD (ro ops its os it.need i μ) o).run P w)=((true,Kind.stay),.ok (.value (it.out.at μ)) w):=by intro _ _;kernel_rfl):Cert P Q w0 k0 X ops i its bl os o it:=by
 intro μ a w K d _ c;have k:=h μ w;simp only[Vz.injEq]at k;rw[k.1.2];intro b;unfold Vp;rw[oI k.1.1 d,k.2];exact b
theorem se{v d:TC}(e:d=v)(h:∀(μ:Nat->Nat) (w:TA),((seen ops its os it.need i o,it.kind,it.out),(UD (ro ops its os it.need i μ) o).run P w)=((true,Kind.stay,SV.v v),.ok (.value d) w):=by intro _ _;kernel_rfl):Cert P Q w0 k0 X ops i its bl os o it:=by
 intro μ a w K f _ c;have k:=h μ w;simp only[Vz.injEq]at k;rw[k.1.2.1];intro b;rw[k.1.2.2]at b;unfold Vp;rw[oI k.1.1 f,k.2,e];exact b
theorem mk(b:Nat)(T:Uw)(h:∀(μ:Nat->Nat) (w:TA),((seen ops its os it.need i o,it.kind),(UD (ro ops its os it.need i μ) o).run P w)=((true,Kind.make b),.ok (.value (it.out.at (upd μ b w.heap.size))) (w.alloc (.cells (((bl[b]?).map (·.before)).getD []).toArray T))):=by intro _ _;kernel_rfl):Cert P Q w0 k0 X ops i its bl os o it:=by
 intro μ a w K f _ c;have k:=h μ w;simp only[Vz.injEq]at k;rw[k.1.2];intro e g d;unfold Vp;rw[oI k.1.1 f,k.2,g];exact d _ _ (Made.alloc w e.before T)
theorem clB{f:Xy}{args:Array TC}{v:TC}(h:∀(μ:Nat->Nat) (w:TA),((seen ops its os it.need i o,it.kind,it.out),(UD (ro ops its os it.need i μ) o).run P w)=((true,Kind.call,SV.v v),.ok (.enter f args) w))
 (d:∀w,BelX k0 X w0 w->TW P f args w (rZ w λe w'=>e=v)):Cert P Q w0 k0 X ops i its bl os o it:=by
 intro μ a w K j _ b;have k:=h μ w;simp only[Vz.injEq]at k;rw[k.1.2.1];intro c;rw[k.1.2.2]at c;unfold Vp;rw[oI k.1.1 j,k.2,WO];refine(d w b).mono ?_;rintro e w' ⟨l,rfl,g,rfl⟩;exact c w' g
theorem cl{f:Xy}{args:Array TC}{v:TC}(k:∀w,TW P f args w (rZ w λe w'=>e=v))(h:∀(μ:Nat->Nat) (w:TA),((seen ops its os it.need i o,it.kind,it.out),(UD (ro ops its os it.need i μ) o).run P w)=((true,Kind.call,SV.v v),.ok (.enter f args) w):=by intro _ _;kernel_rfl):Cert P Q w0 k0 X ops i its bl os o it:=
 clB h (λw _=>k w)
theorem cm(b:Nat){f:Xy}{args:Array TC}{c:List TC}(m:∀w,BelX k0 X w0 w->TW P f args w (Ret λe w'=>∃k,Made w k c w'/\e=it.out.at (λ_=>k)))
 (h:∀(μ:Nat->Nat) (w:TA),((seen ops its os it.need i o,it.kind,(bl[b]?).map (·.before),it.out.blk),(UD (ro ops its os it.need i μ) o).run P w)=((true,Kind.make b,some c,some b),.ok (.enter f args) w)):Cert P Q w0 k0 X ops i its bl os o it:=by
 intro μ a w K u _ g;have l:=h μ w;simp only[Vz.injEq]at l;obtain⟨⟨x,q,j,p⟩,n⟩:=l;rw[q];intro e s y;rw[s]at j;obtain rfl:e.before=c:=Uc.inj j;unfold Vp;rw[oI x u,n,WO];refine(m w g).mono ?_;rintro r w' ⟨B,rfl,k,t,rfl⟩;have v:it.out.at (upd μ b k)=it.out.at (λ_=>k):=SV.at_congr λz d=>by
  rw[p]at d;obtain rfl:=Uc.inj d;unfold upd;rw[yB3 rfl]
 have:=y k w' t;rw[v]at this;exact this
def AC(k:Array UI)(i:Nat)(o:UI)(c:List Bl)(b:Nat):Bool:=match c[b]? with
 | some e=>(match e.al with|none=>true|some j=>bR o j) && readB k i e
 | none=>false
def Seen(c:List Bl)(k:List Nat)(μ:Nat->Nat)(w:TA):Prop:=∀b∈k,∀e:Bl,c[b]? = some e->e.before≠[]->w.rangeAt (μ b) 0 e.before/\μ b<w.heap.size
theorem Lm{f:List Nat}(ho:ops[i]? = some o)(h:f.all (AC ops i o bl)=true)(q:Reads ops i bl μ w):Seen bl f μ w:=λb p e l d=>by
 have k:=Uo.1 h b p;unfold AC at k;rw[l]at k;dsimp only at k;rw[T0]at k;have g:=q b e l (by
  cases c:e.al with
  | none=>exact Ub rfl
  | some j=>rw[c]at k;exact T8 ⟨o,j,ho,rfl,k.1⟩) k.2
 refine⟨g,?_⟩;cases c:e.before with
 | nil=>exact absurd c d
 | cons x r =>
  have m:=g 0 x (by rw[c];rfl);exact U5 λs=>by
   have n:w.heap[μ b]? = none:=XD oM;simp[WN,n]at m
theorem cr(b:List Nat){f:Xy}{args:(Nat->Nat)->Array TC}{v:TC}(g:∀(μ:Nat->Nat) (w:TA),BelX k0 X w0 w->Seen bl b μ w->TW P f (args μ) w (rZ w λe w'=>e=v))
 (h:∀(μ:Nat->Nat) (w:TA),((seen ops its os it.need i o,it.kind,it.out,b.all (AC ops i o bl),ops[i]?),(UD (ro ops its os it.need i μ) o).run P w)=((true,Kind.call,SV.v v,true,some o),.ok (.enter f (args μ)) w)):Cert P Q w0 k0 X ops i its bl os o it:=by
 intro μ a w K q t k;have c:=h μ w;simp only[Vz.injEq]at c;obtain⟨⟨s,m,p,l,r⟩,j⟩:=c;rw[m];intro d;rw[p]at d;unfold Vp;rw[oI s q,j,WO];refine(g μ w k (Lm r l t)).mono ?_;rintro e w' ⟨u,rfl,n,rfl⟩;exact d w' n
def ldv(k:Array UI)(c:List It)(f:List Bl)(d:List (Vn × SV))(i:Nat)(o:UI)(it:It)(T:Uw)(n:Nat):Option SV:=
 match it.kind,o.op with
 | .stay,.load T' (.tmp t)=>match src k c d it.need i t with
  | some (.p b off)=>match f[b]? with
   | some e=>bif T' == T && e.al.isNone && readB k i e && (off+n).ble e.before.length then some (.v (.agg ((e.before.drop off).take n).toArray)) else none
   | none=>none
  | _=>none
 | _,_=>none
theorem ld{T:Uw}{n:Nat}(f:(P.underlying T).map (·.isRow)=some true)(j:(P.info? T).map (·.size)=some n)(h:ldv ops its bl os i o it T n=some it.out:=by kernel_rfl):Cert P Q w0 k0 X ops i its bl os o it:=by
 unfold ldv at h;split at h
 ·rename_i T' t hk ho
  split at h
  ·rename_i b off hs
   split at h
   ·rename_i e hb
    cases c:(T' == T && e.al.isNone && readB ops i e && (off+n).ble e.before.length) with
    | false=>rw[c]at h;cases h
    | true =>
     rw[c]at h;have l:=h;simp only[T0,beq_iff_eq,Option.isNone_iff_eq_none,yBW]at c;obtain⟨⟨⟨rfl,d⟩,g⟩,m⟩:=c;have k:((e.before.drop off).take n).length=n:=by rw[WF,YF];omega
     refine oK hk b off e hb d g T' t ho ((e.before.drop off).take n) (Uc.inj l).symm (λ_ _ K=>mN hs K) ?_ f (by rw[k];exact j);rw[k]
   ·cases h
  ·cases h
 ·cases h
def ptv(k:Array UI)(c:List It)(f:List Bl)(d:List (Vn × SV))(i:Nat)(o:UI)(it:It)(T:Uw)(n:Nat):Option (List TC):=
 match it.kind,o.op,o.dst with
 | .put b,.store T' (.tmp x) (.tmp y),none=>match src k c d it.need i x,src k c d it.need i y with
  | some (.p b' off),some (.v (.agg vs))=>match f[b]? with
   | some e=>bif T' == T && b' == b && vs.size == n && (off+n).ble e.before.length && vs.toList.all (·.oneCell') then some (rep e.before off vs.toList) else none
   | none=>none
  | _,_=>none
 | _,_,_=>none
theorem pt{T:Uw}{n:Nat}(m:(P.info? T).map (·.size)=some n)(h:((ptv ops its bl os i o it T n).isSome,ptv ops its bl os i o it T n)=(true,match it.kind with | .put b=>(bl[b]?).map (·.after)|_=>none):=by kernel_rfl):Cert P Q w0 k0 X ops i its bl os o it:=by
 simp only[Vz.injEq]at h;obtain⟨k,h⟩:=h;rw[h]at k;unfold ptv at h;split at h
 ·rename_i b T' x y hk ho hdn
  rw[hk]at h k;dsimp only at h k;cases g:bl[b]? with
  | none=>rw[g]at k;cases k
  | some e =>
   rw[g]at h;split at h
   ·rename_i b' off vs hx hy
    dsimp only at h;cases f:(T' == T && b' == b && vs.size == n && (off+n).ble e.before.length && vs.toList.all (·.oneCell')) with
    | false=>rw[f]at h;cases h
    | true =>
     rw[f]at h;have q:some (rep e.before off vs.toList)=some e.after:=h;simp only[T0,beq_iff_eq,yBW]at f;obtain⟨⟨⟨⟨rfl,rfl⟩,l⟩,d⟩,p⟩:=f;have c:vs.toList.length=n:=by rw[Array.length_toList];exact l
     refine fF b' off hk e g T' (.tmp x) (.tmp y) vs.toList ho hdn (λ_ _ K=>mN hx K) (λ_ _ K=>?_) (by rw[c];exact d) (λj=>?_) (by rw[c];exact m) p
     ·rw[Array.toArray_toList];exact mN hy K
     ·rw[<-Uc.inj q,rep_at (by rw[c];exact d)]
   ·cases h
 ·rw[<-h]at k;cases k
def aft(pu:List (Nat × Nat × List TC))(b:Nat)(c:List TC):List TC:=match pu.find? (λx=>x.1 == b) with|some x=>x.2.2|none=>c
def sto(pu:List (Nat × Nat × List TC))(b:Nat):Option Nat:=(pu.find? (λx=>x.1 == b)).map (·.2.1)
def olB(pu:List (Nat × Nat × List TC)):Nat->List (List TC)->List Bl
 | _,[]=>[]
 | b,c :: r=>⟨c,aft pu b c,none,sto pu b⟩ :: olB pu (b+1) r
def mkB(pu:List (Nat × Nat × List TC)):Nat->List (Nat × List TC)->List Bl
 | _,[]=>[]
 | b,c :: r=>⟨c.2,aft pu b c.2,some c.1,sto pu b⟩ :: mkB pu (b+1) r
def bls(cs:List (List TC))(mk:List (Nat × List TC))(pu:List (Nat × Nat × List TC)):List Bl:=olB pu 0 cs++mkB pu cs.length mk
theorem qW(pu:List (Nat × Nat × List TC)):∀(cs:List (List TC)) (b:Nat),(olB pu b cs).length=cs.length
 | [],_=>rfl
 | c :: r,b=>by rw[olB,Uy,qW pu r,Uy]
theorem EX(pu:List (Nat × Nat × List TC)):∀(cs:List (Nat × List TC)) (b:Nat),(mkB pu b cs).length=cs.length
 | [],_=>rfl
 | c :: r,b=>by rw[mkB,Uy,EX pu r,Uy]
theorem v9(pu:List (Nat × Nat × List TC)):∀(cs:List (List TC)) (b:Nat),(olB pu b cs).map (·.before)=cs
 | [],_=>rfl
 | c :: r,b=>by rw[olB,V2,v9 pu r]
theorem wH(pu:List (Nat × Nat × List TC)):∀(cs:List (Nat × List TC)) (b:Nat),(mkB pu b cs).map (·.before)=cs.map (·.2)
 | [],_=>rfl
 | c :: r,b=>by rw[mkB,V2,wH pu r,V2]
theorem ET(pu:List (Nat × Nat × List TC)):∀(cs:List (List TC)) (b j:Nat) (e:Bl),(olB pu b cs)[j]? = some e->e.al=none/\e.after=aft pu (b+j) e.before/\e.st=sto pu (b+j)
 | [],_,_,_,h=>by simp[olB]at h
 | c :: r,b,0,e,h=>by
  rw[olB,Xt]at h;obtain rfl:=Uc.inj h;exact⟨rfl,rfl,rfl⟩
 | c :: r,b,j+1,e,h=>by
  rw[olB,WB]at h;have:=ET pu r (b+1) j e h;rwa[show b+1+j=b+(j+1) by omega]at this
theorem EY(pu:List (Nat × Nat × List TC)):∀(cs:List (Nat × List TC)) (b j:Nat) (e:Bl),(mkB pu b cs)[j]? = some e->(∃x∈cs,e.al=some x.1)/\e.after=aft pu (b+j) e.before/\e.st=sto pu (b+j)
 | [],_,_,_,h=>by simp[mkB]at h
 | c :: r,b,0,e,h=>by
  rw[mkB,Xt]at h;obtain rfl:=Uc.inj h;exact⟨⟨c,Uz,rfl⟩,rfl,rfl⟩
 | c :: r,b,j+1,e,h=>by
  rw[mkB,WB]at h;obtain⟨⟨x,f,d⟩,k⟩:=EY pu r (b+1) j e h;refine⟨⟨x,Uq _ f,d⟩,?_⟩;rwa[show b+1+j=b+(j+1) by omega]at k
variable {cs cs':List (List TC)}{mk:List (Nat × List TC)}{pu:List (Nat × Nat × List TC)}{ks:List Nat}
theorem AE:(bls cs mk pu).length=cs.length+mk.length:=by rw[bls,TT,qW,EX]
theorem xK:(bls cs mk pu).map (·.before)=cs++mk.map (·.2):=by rw[bls,Ye,v9,wH]
theorem uJ{b:Nat}{e:Bl}(h:(bls cs mk pu)[b]? = some e):e.after=aft pu b e.before/\e.st=sto pu b/\((b<cs.length/\e.al=none)\/(cs.length<=b/\∃x∈mk,e.al=some x.1)):=by
 unfold bls at h;by_cases k:b<cs.length
 ·rw[UB (by rw[qW];exact k)]at h;have:=ET pu cs 0 b e h;rw[TO]at this;exact⟨this.2.1,this.2.2,Ub ⟨k,this.1⟩⟩
 ·rw[U1 (by rw[qW];omega),qW]at h;have:=EY pu mk cs.length (b-cs.length) e h;rw[show cs.length+(b-cs.length)=b by omega]at this;exact⟨this.2.1,this.2.2,T8 ⟨oM,this.1⟩⟩
theorem zC:mM (bls cs mk pu) cs.length=true:=by
 simp only[mM,T0,decide_eq_true_eq];refine⟨Uo.2 λx c=>?_,by rw[AE];omega⟩;rw[XX]at c;rcases(uJ c).2.2 with⟨b,k⟩|⟨b,y,-,k⟩
 ·rw[k];simp[b]
 ·rw[k];simp;omega
def inB(m:Nat)(mk:List (Nat × List TC))(pu:List (Nat × Nat × List TC)):Bool:=mk.all (λx=>x.1.blt m) && pu.all (λx=>x.2.1.blt m)
theorem FC(h:inB its.length mk pu=true)(n:pu.map (λx=>x.2.2.length)=pu.map (λx=>(((cs++mk.map (·.2))[x.1]?).getD []).length)):
 (∀e∈bls cs mk pu,∀j,e.al=some j\/e.st=some j->j<its.length)/\∀e∈bls cs mk pu,e.fin.length=e.before.length:=by
 simp only[inB,T0]at h;refine⟨λe i j k=>?_,λe i=>?_⟩
 ·obtain⟨b,d⟩:=Vv i;obtain⟨l,g,m⟩:=uJ d;rcases k with k|k
  ·rcases m with⟨-,f⟩|⟨-,x,c,f⟩
   ·rw[f]at k;cases k
   ·rw[f]at k;obtain rfl:=Uc.inj k;have:=Uo.1 h.1 x c;exact V8 (Va this)
  ·rw[g]at k;unfold sto at k;obtain⟨x,c,rfl⟩:=TJ.1 k;have:=Uo.1 h.2 x (VB c);exact V8 (Va this)
 ·obtain⟨b,d⟩:=Vv i;obtain⟨l,g,-⟩:=uJ d;unfold Bl.fin;rw[g,l];unfold sto aft;cases f:pu.find? (λx=>x.1 == b) with
  | none=>rfl
  | some x =>
   show x.2.2.length=_;have o:=VB f;have c:x.1=b:=by simpa using Xo f
   have m:=Zf.1 n x o;rw[m,<-xK (pu:=pu),c,UX,d];rfl
def lk(k:List It)(b:List (Vn × SV))(t:Vn):Option SV:=
 match k.find? (λit=>it.dst == some t) with
 | some it=>some it.out
 | none=>(b.find? (λx=>x.1 == t)).map (·.2)
structure M(w0:TA)(k0:Nat)(X:List Nat)(n:Nat)(cs:List (List TC))(ks:List Nat)(os:List (Vn × SV))(a:Act)(w:TA):Prop where
 st:St w0 k0 X cs ks w
 sl:Sl a n
 os:Olds a (ad ks) os
def All:Nat->(List Nat->Prop)->Prop
 | 0,f=>f []
 | n+1,f=>∀k:Nat,All n λl=>f (k :: l)
theorem All.get:∀ {n:Nat}{f:List Nat->Prop},All n f->∀l:List Nat,l.length=n->f l
 | 0,f,h,l,hl=>by rw[List.length_eq_zero_iff.1 hl];exact h
 | n+1,f,h,[],hl=>by simp at hl
 | n+1,f,h,k :: l,hl=>All.get (h k) l (by simpa using hl)
theorem MP{s:SV}{new:List Nat}(h:∀b,s.blk=some b->b<ks.length):s.at (ad (ks++new))=s.at (ad ks):=SV.at_congr λb k=>by
 unfold ad;rw[Vf,Vf,UB (h b k)]
theorem Olds.mk'{μ:Nat->Nat}:∀ {l:List (Vn × SV)},(∀x∈l,a.tmps[x.1]? = some (x.2.at μ))->Olds a μ l
 | [],_=>trivial
 | x :: r,h=>⟨h x Uz,Olds.mk' λy k=>h y (Uq _ k)⟩
theorem M.next{d:List (Vn × SV)}{new:List Nat}{w':TA}(h:M w0 k0 X n cs ks os a w)(k:allB ops its (bls cs mk pu) os n=true)(p:(d.map λx=>lk its os x.1)=d.map λx=>some x.2)
 (B:St w0 k0 X cs' (ks++new) w'):M w0 k0 X n cs' (ks++new) d (puts (ad (ks++new)) its a) w':=by
 refine⟨B,h.sl.puts,Olds.mk' λx E=>?_⟩;have l:=Zf.1 p x E;simp only[allB,T0,beq_iff_eq]at k;obtain⟨⟨⟨⟨D,hd⟩,g⟩,r⟩,F⟩:=k;unfold lk at l;cases hf:its.find? (λit=>it.dst == some x.1) with
 | some it =>
  rw[hf]at l;have f:=VB hf;have i:it.dst=some x.1:=by simpa using Xo hf
  obtain⟨j,m⟩:=Vv f;have c:=Uo.1 r it f;rw[i]at c;have:=rY (ad (ks++new)) its a j it x.1 hd m i (by rw[h.sl.size];simpa using c);rw[this,<-Uc.inj l]
 | none =>
  rw[hf]at l;obtain⟨y,t,o⟩:=TJ.1 l;have f:=VB t;have m:y.1=x.1:=by simpa using Xo t
  have A:=h.os.get y.1 y.2 f;rw[lV _ its a x.1 (λit s i=>by
   have:=List.find?_eq_none.1 hf it s;rw[i]at this;simp at this),<-m,A,<-o]
  congr 1
  refine(MP λb C=>?_).symm;have c:=Uo.1 g y f;rw[C]at c;dsimp only at c;cases q:(bls cs mk pu)[b]? with
  | none=>rw[q]at c;cases c
  | some e =>
   rw[q]at c;rcases(uJ q).2.2 with⟨v,-⟩|⟨-,z,-,u⟩
   ·rw[h.st.len];exact v
   ·dsimp only at c;rw[u]at c;simp at c
theorem M.reg(h:M w0 k0 X n cs ks os a w)(k:allB ops its (bls cs mk pu) os n=true)(b:Certs P Q w0 k0 X ops its (bls cs mk pu) os 0 ops.toList its):Reg P ops Q w0 k0 X its (bls cs mk pu) os a (ad ks):=
 Reg.mk' (by rw[h.sl.size];exact k) h.os b
theorem Cn:((bls cs mk pu).map (·.before)).take cs.length=cs:=by rw[xK,List.take_left'];rfl
theorem M.tx{id:Nat}(h:M w0 k0 X n cs ks os a w)(k:List It)(mk:List (Nat × List TC))(pu:List (Nat × Nat × List TC))(c:List (List TC))(b:List (Vn × SV))
 (f:(allB ops k (bls cs mk pu) os n && inB k.length mk pu,(bls cs mk pu).map Bl.fin,b.map λx=>lk k os x.1)=(true,c,b.map λx=>some x.2))
 (p:pu.map (λx=>x.2.2.length)=pu.map (λx=>(((cs++mk.map (·.2))[x.1]?).getD []).length))
 (g:Certs P Q w0 k0 X ops k (bls cs mk pu) os 0 ops.toList k)
 (m:All mk.length λnew=>∀d w',M w0 k0 X n c (ks++new) b d w'->Q .normal d w'):(Vj id ops false).wp P Q a w:=by
 simp only[Vz.injEq,T0]at f;obtain⟨⟨e,j⟩,o,i⟩:=f;refine region_text' h.st (h.reg e g) zC Cn (FC j p) λnew w' d l=>?_
 rw[AE,WM]at d;exact m.get new d _ _ (h.next e i (o ▸ l))
theorem M.dr{id:Nat}(h:M w0 k0 X n cs ks os a w)(o:P.follows .mixedOrders=true)(k:List It)(mk:List (Nat × List TC))(pu:List (Nat × Nat × List TC))(c:List (List TC))(b:List (Vn × SV))
 (f:(allB ops k (bls cs mk pu) os n && inB k.length mk pu,(bls cs mk pu).map Bl.fin,b.map λx=>lk k os x.1)=(true,c,b.map λx=>some x.2))
 (q:pu.map (λx=>x.2.2.length)=pu.map (λx=>(((cs++mk.map (·.2))[x.1]?).getD []).length))
 (g:Certs P Q w0 k0 X ops k (bls cs mk pu) os 0 ops.toList k)
 (m:All mk.length λnew=>∀d w',M w0 k0 X n c (ks++new) b d w'->Q .normal d w'):(Vj id ops true).wp P Q a w:=by
 simp only[Vz.injEq,T0]at f;obtain⟨⟨e,j⟩,p,i⟩:=f;refine region_draws' o h.st (h.reg e g) zC Cn (FC j q) λnew w' d l=>?_
 rw[AE,WM]at d;exact m.get new d _ _ (h.next e i (p ▸ l))
theorem ML:(bls cs [] []).map Bl.fin=cs:=by
 have h:∀(cs:List (List TC)) (b:Nat),(olB [] b cs).map Bl.fin=cs:=λcs=>by
  induction cs with
  | nil=>intro _;rfl
  | cons c r ih=>intro b;rw[olB,V2,ih];rfl
 rw[bls,Ye,h];exact Xu _
theorem M.tx0{id:Nat}(h:M w0 k0 X n cs ks os a w)(k:List It)(b:List (Vn × SV))(d:(allB ops k (bls cs [] []) os n,b.map λx=>lk k os x.1)=(true,b.map λx=>some x.2))
 (e:Certs P Q w0 k0 X ops k (bls cs [] []) os 0 ops.toList k) (g:∀c w',M w0 k0 X n cs ks b c w'->Q .normal c w'):(Vj id ops false).wp P Q a w:=by
 simp only[Vz.injEq]at d;refine h.tx k [] [] cs b (by simp only[d.1,d.2,ML];rfl) rfl e (λc w' f=>g c w' ?_);rwa[Xu]at f
theorem M.t{id:Nat}(h:M w0 k0 X n cs ks os a w)(k:List It)(mk:List (Nat × List TC))(pu:List (Nat × Nat × List TC))(c:List (List TC))(b:List (Vn × SV))(e:Certs P Q w0 k0 X ops k (bls cs mk pu) os 0 ops.toList k)(i:All mk.length λnew=>∀d w',M w0 k0 X n c (ks++new) b d w'->Q .normal d w')(g:(allB ops k (bls cs mk pu) os n && inB k.length mk pu,(bls cs mk pu).map Bl.fin,b.map λx=>lk k os x.1)=(true,c,b.map λx=>some x.2):=by kernel_rfl)(f:pu.map (λx=>x.2.2.length)=pu.map (λx=>(((cs++mk.map (·.2))[x.1]?).getD []).length):=by kernel_rfl):(Vj id ops false).wp P Q a w:=h.tx k mk pu c b g f e i
theorem M.d{id:Nat}(h:M w0 k0 X n cs ks os a w)(k:List It)(mk:List (Nat × List TC))(pu:List (Nat × Nat × List TC))(c:List (List TC))(b:List (Vn × SV))(e:Certs P Q w0 k0 X ops k (bls cs mk pu) os 0 ops.toList k)(j:All mk.length λnew=>∀d w',M w0 k0 X n c (ks++new) b d w'->Q .normal d w')(g:(allB ops k (bls cs mk pu) os n && inB k.length mk pu,(bls cs mk pu).map Bl.fin,b.map λx=>lk k os x.1)=(true,c,b.map λx=>some x.2):=by kernel_rfl)(f:pu.map (λx=>x.2.2.length)=pu.map (λx=>(((cs++mk.map (·.2))[x.1]?).getD []).length):=by kernel_rfl)(i:P.follows .mixedOrders=true:=by kernel_rfl):(Vj id ops true).wp P Q a w:=h.dr i k mk pu c b g f e j
theorem M.u{id:Nat}(h:M w0 k0 X n cs ks os a w)(k:List It)(b:List (Vn × SV))(d:Certs P Q w0 k0 X ops k (bls cs [] []) os 0 ops.toList k)(f:∀c w',M w0 k0 X n cs ks b c w'->Q .normal c w')(e:(allB ops k (bls cs [] []) os n,b.map λx=>lk k os x.1)=(true,b.map λx=>some x.2):=by kernel_rfl):(Vj id ops false).wp P Q a w:=h.tx0 k b e d f
theorem M.at(h:M w0 k0 X n cs ks os a w){t:Vn}{s:SV}(c:(os.find? (λx=>x.1 == t)).map (·.2)=some s:=by kernel_rfl):a.tmps[t]? = some (s.at (ad ks)):=by
 obtain⟨y,b,rfl⟩:=TJ.1 c;have k:y.1=t:=by simpa using Xo b
 rw[<-k];exact h.os.get y.1 y.2 (VB b)
theorem St.made{w w':TA}{cs:List (List TC)}{ks:List Nat}(h:St w w.heap.size [] cs ks w'){b:Nat}{c:List TC}(f:cs[b]? = some c):Made w (ad ks b) c w':=by
 obtain⟨g,d,e,k⟩:=h.has b c f;exact⟨h.bel.below,k.elim id (λh=>absurd h Ud),e,g,d⟩
theorem M.av(h:M w0 k0 X n cs ks os a w){t:Vn}{v:TC}(k:(os.find? (λx=>x.1 == t)).map (·.2)=some (.v v):=by kernel_rfl):a.tmps[t]? = some v:=h.at k
theorem M.ev(h:M w0 k0 X n cs ks os a w){t:Vn}{v:TC}(k:(os.find? (λx=>x.1 == t)).map (·.2)=some (.v v):=by kernel_rfl):a.eval (.tmp t)=v:=E8 (h.at k)
theorem M.enter{c:Code}(k:List (Vn × SV))(n:Nat)(h:(k.map λx=>a.tmps[x.1]?,a.tmps.size,a.defers)=(k.map λx=>some (x.2.at (ad [])),n,[]))(d:∀a,M w w.heap.size [] n [] [] k a w->c.wp P Q a w):c.wp P Q a w:=by
 simp only[Vz.injEq]at h;exact d a ⟨St.begin w,⟨h.2.1,h.2.2⟩,Olds.mk' λx b=>Zf.1 h.1 x b⟩
theorem M.drop{i w:TA}{j n:Nat}{X:List Nat}{cs cs2:List (List TC)}{ks ks2:List Nat}{g:List (Vn × SV)}{a:Act}(h:M i j X n (cs++cs2) (ks++ks2) g a w)(o:ks.length=cs.length)
 (ho:g.all (λx=>match x.2.blk with|none=>true|some b=>b.blt cs.length)=true):M i j X n cs ks g a w:=by
 have k:∀b,b<cs.length->ad (ks++ks2) b=ad ks b:=λb d=>by
  unfold ad;rw[Vf,Vf,UB oM]
 refine⟨⟨h.st.bel,h.st.le,o,λb c d=>?_,λb c d m f=>?_⟩,h.sl,Olds.mk' λx l=>?_⟩
 ·have e:=(T9.1 d).1;have:=h.st.has b c (by rw[UB e];exact d);rwa[k b e]at this
 ·have:=h.st.inj b c (by rw[TT];omega) (by rw[TT];omega) f;rwa[k b d,k c m]at this
 ·rw[h.os.get x.1 x.2 l]
  congr 1
  refine SV.at_congr λb d=>?_
  have e:=Uo.1 ho x l;rw[d]at e;exact k b (V8 (Va e))
abbrev z(n:Nat):List TC:=List.replicate n (uZ 0)
def It.s(d:Vn)(k:List (Vn × Nat))(b:SV):It:=⟨some d,k,b,.stay⟩
def It.x(d:Vn)(k:List (Vn × Nat))(v:TC):It:=⟨some d,k,.v v,.stay⟩
def It.c(d:Vn)(k:List (Vn × Nat))(v:TC):It:=⟨some d,k,.v v,.call⟩
def It.m(d:Vn)(k:List (Vn × Nat))(b:Nat):It:=⟨some d,k,.p b 0,.make b⟩
def It.u(k:List (Vn × Nat))(b:Nat):It:=⟨none,k,.v VU,.put b⟩
end RG
namespace RG
open Go Go.RowKit
variable {P:Vd}{ops:Array UI}{Q:YJ->Act->TA->Prop}{w0 w:TA}{k0 n:Nat}{X ks:List Nat}{cs:List (List TC)}{os:List (Vn × SV)}{a:Act}
inductive Hh where
 | x (v:TC)
 | c (v:TC)
 | s (v:SV)
 | m (b:Nat)
 | u (b:Nat)
def nd(k:Array UI)(i:Nat):List (Vn × Nat):=
 match k[i]? with
 | none=>[]
 | some o=>o.op.operands.toList.filterMap λx=>match x with
  | .tmp t=>((US i).find? λj=>match k[j]? with|some p=>p.dst == some t && bR o j|none=>false).map λj=>(t,j)
  | _=>none
def dt(k:Array UI)(i:Nat):Option Vn:=(k[i]?).bind (·.dst)
def Hh.it(k:Array UI)(i:Nat):Hh->It
 | .x v=>⟨dt k i,nd k i,.v v,.stay⟩
 | .c v=>⟨dt k i,nd k i,.v v,.call⟩
 | .s v=>⟨dt k i,nd k i,v,.stay⟩
 | .m b=>⟨dt k i,nd k i,.p b 0,.make b⟩
 | .u b=>⟨none,nd k i,.v VU,.put b⟩
def mkL(k:Array UI):Nat->List Hh->List It
 | _,[]=>[]
 | i,h :: r=>h.it k i :: mkL k (i+1) r
def kps(k:List It)(b:List (Vn × SV))(l:List Vn):List (Vn × SV):=l.filterMap λt=>(lk k b t).map λs=>(t,s)
theorem M.U{id:Nat}(h:M w0 k0 X n cs ks os a w)(k:List Hh)(b:List Vn)(d:Certs P Q w0 k0 X ops (mkL ops 0 k) (bls cs [] []) os 0 ops.toList (mkL ops 0 k))(f:∀c w',M w0 k0 X n cs ks (kps (mkL ops 0 k) os b) c w'->Q .normal c w')(e:(allB ops (mkL ops 0 k) (bls cs [] []) os n,(kps (mkL ops 0 k) os b).map λx=>lk (mkL ops 0 k) os x.1)=(true,(kps (mkL ops 0 k) os b).map λx=>some x.2):=by kernel_rfl):(Vj id ops false).wp P Q a w:=h.u _ _ d f e
theorem M.T{id:Nat}(h:M w0 k0 X n cs ks os a w)(k:List Hh)(mk:List (Nat × List TC))(pu:List (Nat × Nat × List TC))(b:List (List TC))(c:List Vn)(e:Certs P Q w0 k0 X ops (mkL ops 0 k) (bls cs mk pu) os 0 ops.toList (mkL ops 0 k))(i:All mk.length λnew=>∀d w',M w0 k0 X n b (ks++new) (kps (mkL ops 0 k) os c) d w'->Q .normal d w')(g:(allB ops (mkL ops 0 k) (bls cs mk pu) os n && inB (mkL ops 0 k).length mk pu,(bls cs mk pu).map Bl.fin,(kps (mkL ops 0 k) os c).map λx=>lk (mkL ops 0 k) os x.1)=(true,b,(kps (mkL ops 0 k) os c).map λx=>some x.2):=by kernel_rfl)(f:pu.map (λx=>x.2.2.length)=pu.map (λx=>(((cs++mk.map (·.2))[x.1]?).getD []).length):=by kernel_rfl):(Vj id ops false).wp P Q a w:=h.t _ mk pu b _ e i g f
theorem M.D{id:Nat}(h:M w0 k0 X n cs ks os a w)(k:List Hh)(mk:List (Nat × List TC))(pu:List (Nat × Nat × List TC))(b:List (List TC))(c:List Vn)(e:Certs P Q w0 k0 X ops (mkL ops 0 k) (bls cs mk pu) os 0 ops.toList (mkL ops 0 k))(j:All mk.length λnew=>∀d w',M w0 k0 X n b (ks++new) (kps (mkL ops 0 k) os c) d w'->Q .normal d w')(g:(allB ops (mkL ops 0 k) (bls cs mk pu) os n && inB (mkL ops 0 k).length mk pu,(bls cs mk pu).map Bl.fin,(kps (mkL ops 0 k) os c).map λx=>lk (mkL ops 0 k) os x.1)=(true,b,(kps (mkL ops 0 k) os c).map λx=>some x.2):=by kernel_rfl)(f:pu.map (λx=>x.2.2.length)=pu.map (λx=>(((cs++mk.map (·.2))[x.1]?).getD []).length):=by kernel_rfl)(i:P.follows .mixedOrders=true:=by kernel_rfl):(Vj id ops true).wp P Q a w:=h.d _ mk pu b _ e j g f i
end RG
namespace NT
def IsP(n:Nat):Prop:=2<=n/\∀m,m ∣ n->m=1\/m=n
theorem IsP.cop{p k:Nat}(h:IsP p)(b:0<k)(c:k<p):Zv p k:=by
 unfold Zv;rcases h.2 _ (Zt p k)with e|e
 ·exact e
 ·have:=Xn b (Zk p k);omega
theorem IsP.cop_of{p k:Nat}(h:IsP p)(b:¬p ∣ k):Zv p k:=by
 unfold Zv;rcases h.2 _ (Zt p k)with e|e
 ·exact e
 ·exact absurd (e ▸ Zk p k) b
theorem IsP.euclid{p a b:Nat}(h:IsP p)(hd:p ∣ a*b):p ∣ a\/p ∣ b:=by
 by_cases k:p ∣ a
 ·exact Ub k
 ·exact T8 ((h.cop_of k).dvd_of_dvd_mul_left hd)
/-! the binomials -/
def ch: Nat -> Nat -> Nat
  | _, 0 => 1
  | 0, _ + 1 => 0
  | n + 1, k + 1 => ch n k + ch n (k + 1)
theorem rF(n:Nat):ch n 0=1:=by cases n<;>rfl
theorem rG:∀(n k:Nat),n<k->ch n k=0
 | 0,k+1,_=>rfl
 | n+1,k+1,h=>by
  rw[ch,rG n k oM,rG n (k+1) oM]
theorem Fp:∀(n:Nat),ch n n=1
 | 0=>rfl
 | n+1=>by rw[ch,Fp n,rG n (n+1) oM]
theorem uI:∀(n k:Nat),(k+1)*ch (n+1) (k+1)=(n+1)*ch n k
 | 0,0=>rfl
 | 0,k+1=>by simp[ch]
 | n+1,0=>by
  have h:=uI n 0;have e:ch (n+1+1) (0+1)=ch (n+1) 0+ch (n+1) (0+1):=rfl;rw[rF]at h;rw[e,rF];omega
 | n+1,k+1=>by
  have c:=uI n k;have b:=uI n (k+1);have e:ch (n+1+1) (k+1+1)=ch (n+1) (k+1)+ch (n+1) (k+1+1):=rfl;have e3:ch (n+1) (k+1)=ch n k+ch n (k+1):=rfl;rw[e,WL,b];have:(k+1+1)*ch (n+1) (k+1)=(n+1)*ch n k+ch (n+1) (k+1):=by
   rw[<-c,WE (k+1) 1,V4]
  rw[this,e3,WE (n+1) 1,V4,WL];omega
def sumTo:Nat->(Nat->Nat)->Nat
 | 0,_=>0
 | n+1,f=>sumTo n f+f n
theorem sumTo_congr(f g:Nat->Nat):∀n,(∀k,k<n->f k=g k)->sumTo n f=sumTo n g
 | 0,_=>rfl
 | n+1,h=>by
  rw[sumTo,sumTo,sumTo_congr f g n (λk b=>h k oM),h n oM]
theorem yH(f g:Nat->Nat):∀n,sumTo n (λk=>f k+g k)=sumTo n f+sumTo n g
 | 0=>rfl
 | n+1=>by simp only[sumTo];rw[yH f g n];omega
theorem yF(a:Nat)(f:Nat->Nat):∀n,sumTo n (λk=>a*f k)=a*sumTo n f
 | 0=>rfl
 | n+1=>by simp only[sumTo];rw[yF a f n,WL]
theorem jZ(f:Nat->Nat):∀n,sumTo (n+1) f=f 0+sumTo n (λk=>f (k+1))
 | 0=>by simp[sumTo]
 | n+1=>by rw[sumTo,jZ f n];simp only[sumTo];omega
theorem yG(p:Nat)(f:Nat->Nat):∀n,(∀k,k<n->p ∣ f k)->p ∣ sumTo n f
 | 0,_=>Nat.dvd_zero p
 | n+1,h=>Nat.dvd_add (yG p f n (λk b=>h k oM)) (h n oM)
theorem NB(a:Nat):∀n,(a+1)^n=sumTo (n+1) (λk=>ch n k*a^k)
 | 0=>by simp[sumTo,ch]
 | n+1=>by
  rw[Vk,NB a n,WL,Wq];rw[jZ (λk=>ch (n+1) k*a^k) (n+1)];have e:sumTo (n+1) (λk=>ch (n+1) (k+1)*a^(k+1))
   = sumTo (n+1) (λk=>a*(ch n k*a^k))+sumTo (n+1) (λk=>ch n (k+1)*a^(k+1)):=by
   rw[<-yH];refine sumTo_congr _ _ _ ?_;intro k _;show(ch n k+ch n (k+1))*a^(k+1)=_;rw[WE,Vk];have:ch n k*(a^k*a)=a*(ch n k*a^k):=by
    rw[Ut a,VV]
   rw[this]
  rw[e,yF];have c:sumTo (n+1) (λk=>ch n k*a^k)
   = ch n 0*a^0+sumTo n (λk=>ch n (k+1)*a^(k+1)):=jZ (λk=>ch n k*a^k) n
  have e3:sumTo (n+1) (λk=>ch n (k+1)*a^(k+1))=sumTo n (λk=>ch n (k+1)*a^(k+1)):=by
   rw[sumTo,rG n (n+1) oM,yBB,VK]
  have b:ch (n+1) 0*a^0=ch n 0*a^0:=by rw[rF,rF]
  rw[e3,b,Ut _ a];omega
theorem IsP.ch_dvd{p k:Nat}(h:IsP p)(b:k+1<p):p ∣ ch p (k+1):=by
 obtain⟨n,rfl⟩:∃n,p=n+1:=⟨p-1,by have:=h.1;omega⟩
 have e:=uI n k;have hd:(n+1) ∣ (k+1)*ch (n+1) (k+1):=e ▸ Nat.dvd_mul_right _ _;exact(h.cop oM b).dvd_of_dvd_mul_left hd
theorem IsP.frob{p:Nat}(h:IsP p)(a:Nat):(a+1)^p%p=(a^p+1)%p:=by
 obtain⟨n,rfl⟩:∃n,p=n+1:=⟨p-1,by have:=h.1;omega⟩
 rw[NB,sumTo,jZ,Fp,rF];obtain⟨c,b⟩:(n+1) ∣ sumTo n (λk=>ch (n+1) (k+1)*a^(k+1)):=
  yG _ _ _ (λk d=>Nat.dvd_mul_right_of_dvd (h.ch_dvd oM) _)
 rw[b];have:1*a^0+(n+1)*c+1*a^(n+1)=(a^(n+1)+1)+(n+1)*c:=by
  rw[Wx];omega
 rw[this,Ym]
theorem IsP.fermat{p:Nat}(h:IsP p):∀a,a^p%p=a%p
 | 0=>by
  rw[yBA (by have:=h.1;omega)]
 | a+1=>by
  rw[h.frob,XG,h.fermat a,<-XG]
theorem IsP.cancel{p a x y:Nat}(h:IsP p)(d:¬p ∣ a)(e:a*x%p=a*y%p):x%p=y%p:=by
 have key:∀x y,y<=x->a*x%p=a*y%p->x%p=y%p:=by
  intro x y k e;have b:=WH (Nat.sub_mod_eq_zero_of_mod_eq e);rw[<-Nat.mul_sub]at b;obtain⟨c,f⟩:=(h.cop_of d).dvd_of_dvd_mul_left b;have:x=y+p*c:=oM;rw[this,Ym]
 rcases yBD y x with k|k
 ·exact key x y k e
 ·exact(key y x k e.symm).symm
theorem IsP.fermat1{p:Nat}(h:IsP p)(a:Nat)(k:¬p ∣ a):a^(p-1)%p=1:=by
 obtain⟨n,rfl⟩:∃n,p=n+1:=⟨p-1,by have:=h.1;omega⟩
 have e:=h.fermat a;rw[Vk,Ut]at e;have:=h.cancel k (x:=a^n) (y:=1) (by rw[e,Wq]);rw[Nat.add_sub_cancel,this,Uf h.1]
/-! powers that are 1 -/
theorem LO(b r : Nat)(hr : 1<r)(x y : Nat): b^x%r=1 -> b^y%r=1 -> b^(yAQ x y)%r=1:=by
  induction x, y using yAQ.induction with
  | H0 n => intro _ h; rw[Nat.gcd_zero_left]; exact h
  | H1 m n hm ih =>
    intro h1 h2;rw[Nat.gcd_rec];refine ih ?_ h1;have e : b^n=(b^m)^(n/m) * b^(n%m):=by
      rw[<-Y7, <-VS, Nat.div_add_mod]
    rw[e, VT, yAl, h1, Nat.one_pow, Uf hr, V4, yAO]at h2;exact h2
theorem rE:∀n,2<=n->∃r,IsP r/\r ∣ n/\(IsP n\/r*r<=n):=by
 intro n;induction n using yBa with
 | _ n ih =>
  intro o;by_cases i:IsP n
  ·exact⟨n,i,Nat.dvd_refl n,Ub i⟩
  ·have:∃m,m ∣ n/\m≠1/\m≠n:=by
    refine U5 λc=>i ⟨o,λm d=>?_⟩
    refine U5 λb=>c ⟨m,d,λe=>b (Ub e),λe=>b (T8 e)⟩
   obtain⟨m,⟨k,d⟩,u,t⟩:=this;have p:m≠0:=by intro e;rw[e,yBB]at d;omega
   have s:k≠0:=by intro e;rw[e,Nat.mul_zero]at d;omega
   have q:k≠1:=by intro e;rw[e,Wq]at d;omega
   have g:m<n:=by
    have:=Xn oM (⟨k,d⟩:m ∣ n);omega
   have j:k<n:=by
    have:=Nat.mul_le_mul_right k (show 2<=m by omega);omega
   rcases yBD m k with f|f
   ·obtain⟨r,l,c,_⟩:=ih m g oM;have b:=Xn oM c;refine⟨r,l,Y9 c ⟨k,d⟩,T8 ?_⟩;rw[d];exact VR b (TU b f)
   ·obtain⟨r,l,c,_⟩:=ih k j oM;have b:=Xn oM c;refine⟨r,l,Y9 c ⟨m,by rw[d,Ut]⟩,T8 ?_⟩;rw[d];exact VR (TU b f) b
/-! what of a prime of n - 1 goes into the primes of n -/
theorem part{n q a r : Nat}(hq : IsP q)(hr : IsP r)(hrn : r ∣ n)(hn : 1<n)
    (h1 : a^(n-1)%n=1) (hd : q ∣ n-1) (h2 : yAQ (a^((n-1)/q)%n + (n-1)) n=1) : q ∣ r-1:=by
  have hr2:=hr.1;have toR : ∀x y, x%n=y%n -> x%r=y%r:=by
    intro x y e;rw[<-Ze x hrn, e, Ze y hrn]
  have hm : a^(n-1)%r=1:=by
    have:=toR (a^(n-1)) 1 (by rw[h1, Uf hn]);rw[this, Uf hr2]
  have hra : ¬r ∣ a:=by
    intro hc;have hz : a^(n-1)%r=0:=XC (Y9 hc (by
      have : a^1 ∣ a^(n-1):=yBb a oM;rwa[Yq]at this))
    omega
  have hb : (a^((n-1)/q))^q%r=1:=by
    rw[<-Y7, Nat.div_mul_cancel hd]; exact hm
  have hbr : ¬r ∣ a^((n-1)/q):=by
    intro hc;have : r ∣ (a^((n-1)/q))^q:=Y9 hc (by
      have : (a^((n-1)/q))^1 ∣ (a^((n-1)/q))^q:=yBb _ (by have:=hq.1; omega);rwa[Yq]at this)
    have:=XC this;omega
  have hg:=LO _ r hr2 q (r-1) hb (hr.fermat1 _ hbr);rcases hq.2 _ (Zt q (r-1))with e|e
  · rw[e, Yq]at hg
    exfalso;have hx : r ∣ a^((n-1)/q)%n + (n-1):=by
      refine WH ?_;have e1 : (a^((n-1)/q)%n)%r=1:=by rw[Ze _ hrn]; exact hg
      have e2 : (n-1 + 1)%r=0:=by
        rw[Nat.sub_add_cancel oM]; exact XC hrn
      have : (a^((n-1)/q)%n + (n-1))%r=(1 + (n-1))%r:=by
        rw[XG, e1, XG 1 (n-1), Uf hr2]
      rw[this, Nat.add_comm, e2]
    have:=Nat.dvd_gcd hx hrn;rw[h2]at this;have:=Xn oM this;omega
  · rw[<-e]; exact Zk _ _
theorem BC{n f:Nat}(e:1<n)(hf:n<(f+1)*(f+1))
 (k:∀r,IsP r->r ∣ n->f ∣ r-1):IsP n:=by
 obtain⟨r,b,c,h|h⟩:=rE n e
 ·exact h
 ·have:=Xn (by have:=b.1;omega) (k r b c);have d:f+1<=r:=by have:=b.1;omega
  have:=VR d d;omega
/-! trial -/
def trial(n : Nat): Nat -> Nat -> Bool
  | 0, _ => true
  | k + 1, d => (n%d != 0) && trial n k (d + 1)
theorem A5(n:Nat):∀k d,trial n k d=true->∀m,d<=m->m<d+k->¬m ∣ n
 | 0,_,_,m,_,_=>oM
 | k+1,d,h,m,h1,h2=>by
  simp only[trial,T0,bne_iff_ne,ne_eq]at h;rcases Nat.lt_or_ge d m with b|c
  ·exact A5 n k (d+1) h.2 m b oM
  ·have:m=d:=oM;subst this;intro hd;exact h.1 (XC hd)
theorem small{n k:Nat}(d:2<=n)(f:trial n k 2=true)(j:n<(k+2)*(k+2)):IsP n:=by
 obtain⟨r,g,c,h|h⟩:=rE n d
 ·exact h
 ·have e:=g.1;have b:r<2+k:=by
   refine U5 λi=>?_
   have:=VR (show k+2<=r by omega) (show k+2<=r by omega);omega
  exact absurd c (A5 n k 2 f r e b)
/-! powers, reckoned -/
def pm(n : Nat): Nat -> Nat -> Nat -> Nat -> Nat
  | 0, _, _, acc => acc
  | k + 1, a, e, acc => pm n k (a * a%n) (e/2) (if e%2=1 then acc * a%n else acc)
theorem EQ(n:Nat):∀k a e b,e<2^k->b<n->pm n k a e b=b*a^e%n
 | 0,a,e,b,h,ha=>by
  have:e=0:=by simpa using h
  subst this;rw[pm,Wx,Wq,Uf ha]
 | k+1,a,e,b,h,ha=>by
  have f:0<n:=oM;have c:(if e%2=1 then b*a%n else b)<n:=by
   split
   ·exact Vm _ f
   ·exact ha
  rw[pm,EQ n k _ _ _ (by rw[Vk]at h;omega) c];have d:∀y,y*(a*a%n)^(e/2)%n=y*(a*a)^(e/2)%n:=by
   intro y;rw[VT,<-yAl,<-VT]
  rw[d];have g:a^e=a^(e%2)*(a*a)^(e/2):=by
   have:(a*a)=a^2:=by rw[Vk,Yq]
   rw[this,<-Y7,<-VS,Nat.mod_add_div]
  rw[g];split
  ·rename_i h1
   rw[h1,Yq,VT,yAO,<-VT,VV]
  ·rename_i h1
   have:e%2=0:=oM;rw[this,Wx,V4]
theorem part'{n q a r k:Nat}(g:IsP q)(f:IsP r)(c:r ∣ n)(b:1<n)(i:n<2^k)
 (e:pm n k a (n-1) 1=1) (hd:(n-1)%q=0) (d:yAQ (pm n k a ((n-1)/q) 1+(n-1)) n=1):q ∣ r-1:=by
 rw[EQ n k a (n-1) 1 oM b,V4]at e;rw[EQ n k a _ 1 (Nat.lt_of_le_of_lt (Nat.div_le_self _ _) oM) b,V4]at d;exact part g f c b e (WH hd) d
/-! the two primes -/
theorem x21: IsP 1627771:=small (k:=1275) dC dK dC
theorem x30:IsP 545358713:=small (k:=23352) dC dK dC
theorem x26:IsP 44706919:=small (k:=6686) dC dK dC
theorem x17:IsP 120233:=small (k:=346) dC dK dC
theorem x27:IsP 107590001:=small (k:=10372) dC dK dC
theorem x23:IsP 7240687:=small (k:=2690) dC dK dC
theorem x16:IsP 96557:=small (k:=310) dC dK dC
theorem x39:IsP 297159362677:=
 BC (f:=1627771) dC dK (λr b hd=>part' (k:=39) (a:=2) x21 b hd dC dK dK dK dK)
theorem c95:IsP 29047611873442575647497758179:=
 BC (f:=(545358713*297159362677)) dC dK (λr b hd=>VE dK (part' (k:=95) (a:=2) x30 b hd dC dK dK dK dK) (part' (k:=95) (a:=2) x39 b hd dC dK dK dK dK))
theorem b68:IsP 174723607534414371449:=
 BC (f:=(44706919*120233)) dC dK (λr b hd=>VE dK (part' (k:=68) (a:=2) x26 b hd dC dK dK dK dK) (part' (k:=68) (a:=2) x17 b hd dC dK dK dK dK))
theorem c109:IsP 341948486974166000522343609283189:=
 BC (f:=29047611873442575647497758179) dC dK (λr b hd=>part' (k:=109) (a:=2) c95 b hd dC dK dK dK dK)
theorem pN:IsP 115792089237316195423570985008687907852837564279074904382605163141518161494337:=
 BC (f:=(174723607534414371449*341948486974166000522343609283189)) dC dK (λr b hd=>VE dK (part' (k:=256) (a:=2) b68 b hd dC dK dK dK dK) (part' (k:=256) (a:=2) c109 b hd dC dK dK dK dK))
theorem e128:IsP 255515944373312847190720520512484175977:=
 BC (f:=(107590001*7240687*96557)) dC dK (λr b hd=>VE dK (VE dK (part' (k:=128) (a:=2) x27 b hd dC dK dK dK dK) (part' (k:=128) (a:=2) x23 b hd dC dK dK dK dK)) (part' (k:=128) (a:=2) x16 b hd dC dK dK dK dK))
theorem SN:IsP 205115282021455665897114700593932402728804164701536103180137503955397371:=
 BC (f:=255515944373312847190720520512484175977) dC dK (λr b hd=>part' (k:=237) (a:=2) e128 b hd dC dK dK dK dK)
theorem pP:IsP 115792089237316195423570985008687907853269984665640564039457584007908834671663:=
 BC (f:=205115282021455665897114700593932402728804164701536103180137503955397371) dC dK (λr b hd=>part' (k:=256) (a:=2) SN b hd dC dK dK dK dK)
end NT
namespace EC
structure Line{P:Nat}[NeZero P](x1 y1 x2 y2 l:Fin P):Prop where
 go:y2=y1+l*(x2-x1)
 on:l*(y1+y2)=x1^2+x1*x2+x2^2
variable {P:Nat}[NeZero P]
theorem BG(k c d g l b f:Fin P)(o:c^2=k^3+7)(n:g^2=d^3+7)(i:Line k c d g l)(m:b=l^2-k-d)(j:f=l*(k-b)-c):f^2=b^3+7:=by
 obtain⟨e,h⟩:=i;subst j m e
 grobner
theorem MU(k g d e l1 l2 f j b l c i:Fin P)(p:Line k g d f l1)(s:Line d f e j l2)
 (n:b=l1^2-k-d) (r:l=l1*(k-b)-g) (o:c=l2^2-d-e) (m:i=l2*(d-c)-f) :
 ((l-j)^2-(b+e)*(b-e)^2)*(c-k)^2=((i-g)^2-(k+c)*(c-k)^2)*(b-e)^2:=by
 obtain⟨q,t⟩:=p;obtain⟨e3,u⟩:=s;subst r m n o e3 q
 grobner
theorem MS(c g e k l1 l2 j f b i d l:Fin P)(p:Line c g e j l1)(s:Line e j k f l2)
 (n:b=l1^2-c-e) (r:i=l1*(c-b)-g) (o:d=l2^2-e-k) (m:l=l2*(e-d)-j) :
 ((i-f)^2-(k+b)*(b-k)^2)*((l-g)*(b-k)-(i-f)*(d-c))+(b-k)^2*(((i-f)*k-f*(b-k))*(d-c)-((l-g)*c-g*(d-c))*(b-k))=0:=by
 obtain⟨q,t⟩:=p;obtain⟨e3,u⟩:=s;subst r m n o e3 q
 grobner (ringSteps:=100000000)
theorem J2(k g d b l1 l2 f e c i:Fin P)(n:Line k g d f l1)(q:Line d f b e l2)
 (l:b=l1^2-k-d) (p:e=l1*(k-b)-g) (m:c=l2^2-d-b) (j:i=l2*(d-c)-f) :
 (9*b^4-8*b*e^2)*(c-k)^2=((i-g)^2-(k+c)*(c-k)^2)*(4*e^2):=by
 obtain⟨o,r⟩:=n;obtain⟨e3,s⟩:=q;subst j m p l o
 grobner (ringSteps:=100000000)
theorem J1(c f d b l1 l2 g k e i:Fin P)(n:Line c f d g l1)(q:Line d g b k l2)
 (l:b=l1^2-c-d) (p:k=l1*(c-b)-f) (m:e=l2^2-d-b) (j:i=l2*(d-e)-g) :
 (3*b^2*(b*(4*k^2)-(9*b^4-8*b*k^2))-2*k^2*(4*k^2))*(e-c)=((i-f)*(c*(4*k^2)-(9*b^4-8*b*k^2))-f*(e-c)*(4*k^2))*(2*k):=by
 obtain⟨o,r⟩:=n;obtain⟨e3,s⟩:=q;subst j m p l o
 grobner (ringSteps:=100000000)
end EC
namespace EC
variable {P:Nat}[NeZero P]
theorem val_zero:(0:Fin P).val=0:=by simp
theorem val_one(h:NT.IsP P):(1:Fin P).val=1:=by
 have k:=h.1;show 1%P=1;exact Uf oM
theorem nzd(h:NT.IsP P){a b:Fin P}(e:a*b=0):a=0\/b=0:=by
 have c:a.val*b.val%P=0:=by
  have:=congrArg yA0 e;rw[Xq,val_zero]at this;exact this
 rcases h.euclid (WH c)with k|k
 ·exact Ub (Yx (by rw[val_zero];exact Yu k a.isLt))
 ·exact T8 (Yx (by rw[val_zero];exact Yu k b.isLt))
theorem bD(h:NT.IsP P){a b:Fin P}(c:a≠0)(k:b≠0):a*b≠0:=λe=>(nzd h e).elim c k
theorem cancel(h:NT.IsP P){a b c:Fin P}(f:a≠0)(e:b*a=c*a):b=c:=by
 have d:(b-c)*a=0:=by grobner
 rcases nzd h d with k|k
 ·grobner
 ·exact absurd k f
def inv(a:Fin P):Fin P:=Fin.ofNat P (a.val^(P-2))
theorem inv_mul(h:NT.IsP P){a:Fin P}(b:a≠0):inv a*a=1:=by
 apply Yx;have c:=h.1;have k:¬P ∣ a.val:=λhd=>b (Yx (by rw[val_zero];exact Yu hd a.isLt))
 rw[Xq,val_one h];show a.val^(P-2)%P*a.val%P=1;rw[yBc,<-Vk,show(P-2).succ=P-1 by omega];exact h.fermat1 _ k
abbrev Pt(P:Nat):=Option (Fin P × Fin P)
def On:Pt P->Prop
 | none=>True
 | some (x,y)=>y^2=x^3+7
def neg:Pt P->Pt P
 | none=>none
 | some (x,y)=>some (x,-y)
def mO(k c b d:Fin P):Fin P:=if k=b then 3*k^2*inv (2*c) else(d-c)*inv (b-k)
def third(k c b l:Fin P):Pt P:=some (l^2-k-b,l*(k-(l^2-k-b))-c)
def add:Pt P->Pt P->Pt P
 | none,b=>b
 | a,none=>a
 | some (x1,y1),some (x2,y2)=>if x1=x2/\y2 = -y1 then none else third x1 y1 x2 (mO x1 y1 x2 y2)
theorem mQ(h:NT.IsP P){x k b:Fin P}(d:k^2=x^3+7)(c:b^2=x^3+7)(ho:¬b = -k):b=k:=by
 have e:(b-k)*(b+k)=0:=by grobner
 rcases nzd h e with e|e
 ·grobner
 ·exact absurd (by grobner) ho
theorem uR{x k:Fin P}(h:NT.IsP P)(b:(2:Fin P)≠0)(ho:¬(x=x/\k = -k)):2*k≠0:=λe=>by
 rcases nzd h e with e|e
 ·exact b e
 ·exact ho ⟨rfl,by rw[e];grobner⟩
theorem bH(h:NT.IsP P)(g:(2:Fin P)≠0){b c k d:Fin P}(i:c^2=b^3+7)(j:d^2=k^3+7)(ho:¬(b=k/\d = -c)):Line b c k d (mO b c k d):=by
 unfold mO;by_cases f:b=k
 ·subst f;rw[yB3 rfl];have l:=mQ h i j (λe=>ho ⟨rfl,e⟩);subst l;have m:=inv_mul h (uR h g ho);exact⟨by grobner,by grobner⟩
 ·rw[yB4 f];have hd:k-b≠0:=λe=>f (by grobner)
  have m:=inv_mul h hd;refine⟨by grobner,cancel h hd (by grobner)⟩
theorem BR(h:NT.IsP P)(g:(2:Fin P)≠0){b d k c l m:Fin P}(i:d^2=b^3+7)(j:c^2=k^3+7)(ho:¬(b=k/\c = -d))(L:Line b d k c l)(M:Line b d k c m):l=m:=by
 obtain⟨q,b1⟩:=L;obtain⟨p,o⟩:=M;by_cases f:b=k
 ·subst f;have n:=mQ h i j (λe=>ho ⟨rfl,e⟩);subst n;exact cancel h (uR h g ho) (by grobner)
 ·have hd:k-b≠0:=λe=>f (by grobner)
  exact cancel h hd (by grobner)
theorem bV(h:NT.IsP P)(e:(2:Fin P)≠0){c k b d l:Fin P}(f:k^2=c^3+7)(g:d^2=b^3+7)(ho:¬(c=b/\d = -k))(L:Line c k b d l):add (some (c,k)) (some (b,d))=third c k b l:=by
 show(if c=b/\d = -k then none else third c k b (mO c k b d))=_;rw[yB4 ho,BR h e f g ho (bH h e f g ho) L]
theorem iJ{c k b d:Fin P}(ho:c=b/\d = -k):add (some (c,k)) (some (b,d))=none:=by
 show(if c=b/\d = -k then none else third c k b (mO c k b d))=_;rw[yB3 ho]
theorem bF(a:Pt P):add a none=a:=by cases a<;>rfl
theorem Line.swap{d k c e l:Fin P}(L:Line d k c e l):Line c e d k l:=by
 obtain⟨a,b⟩:=L;exact⟨by grobner,by grobner⟩
theorem CH{c d k e l:Fin P}(L:Line c d k e l):third c d k l=third k e c l:=by
 obtain⟨a,b⟩:=L;unfold third;have f:l^2-c-k=l^2-k-c:=by grobner
 have g:l*(c-(l^2-c-k))-d=l*(k-(l^2-k-c))-e:=by grobner
 rw[g,f]
theorem add_comm(h:NT.IsP P)(k:(2:Fin P)≠0)(a b:Pt P)(f:On a)(c:On b):add a b=add b a:=by
 rcases a with _|⟨j,g⟩
 ·rw[bF];rfl
 ·rcases b with _|⟨i,l⟩
  ·rfl
  ·by_cases ho:j=i/\l = -g
   ·rw[iJ ho,iJ ⟨ho.1.symm,by rw[ho.2];grobner⟩]
   ·have d:¬(i=j/\g = -l):=λe=>ho ⟨e.1.symm,by rw[e.2];grobner⟩
    have L:=bH h k f c ho;rw[bV h k f c ho L,bV h k c f d L.swap,CH L]
theorem Ej(h:NT.IsP P)(d:(2:Fin P)≠0)(a b:Pt P)(c:On a)(k:On b):On (add a b):=by
 rcases a with _|⟨g,e⟩
 ·exact k
 ·rcases b with _|⟨f,i⟩
  ·exact c
  ·by_cases ho:g=f/\i = -e
   ·rw[iJ ho];trivial
   ·have L:=bH h d c k ho;rw[bV h d c k ho L];exact BG g e f i _ _ _ c k L rfl rfl
theorem cO{a:Pt P}(h:On a):On (neg a):=by
 rcases a with _|⟨x,y⟩
 ·trivial
 ·have k:y^2=x^3+7:=h;show(-y)^2=x^3+7
  grobner
theorem neg_neg'(a:Pt P):neg (neg a)=a:=by
 rcases a with _|⟨x,y⟩
 ·rfl
 ·show some (x,- -y)=some (x,y);have:- -y=y:=by grobner
  rw[this]
theorem add_neg(a:Pt P):add a (neg a)=none:=by
 rcases a with _|⟨x,y⟩
 ·rfl
 ·exact iJ ⟨rfl,rfl⟩
theorem Line.neg{d k c e l:Fin P}(L:Line d k c e l):Line d (-k) c (-e) (-l):=by
 obtain⟨a,b⟩:=L;exact⟨by grobner,by grobner⟩
theorem neg_add(h:NT.IsP P)(g:(2:Fin P)≠0){a b:Pt P}(m:On a)(i:On b):neg (add a b)=add (neg a) (neg b):=by
 rcases a with _|⟨k,d⟩
 ·rfl
 ·rcases b with _|⟨c,f⟩
  ·rfl
  ·by_cases ho:k=c/\f = -d
   ·rw[iJ ho];exact(iJ ⟨ho.1,by rw[ho.2]⟩).symm
   ·have L:=bH h g m i ho;have j:¬(k=c/\-f = - -d):=λe=>ho ⟨e.1,by have:=e.2;grobner⟩
    rw[bV h g m i ho L];refine Eq.trans ?_ (bV h g (cO (a:=some (k,d)) m) (cO (a:=some (c,f)) i) j L.neg).symm;generalize mO k d c f=l;unfold third;show some (l^2-k-c,-(l*(k-(l^2-k-c))-d))=some ((-l)^2-k-c,-l*(k-((-l)^2-k-c)) - -d);have n:(-l)^2=l^2:=by grobner
    rw[n];have o:-(l*(k-(l^2-k-c))-d) = -l*(k-(l^2-k-c)) - -d:=by grobner
    rw[o]
theorem Line.back{k d e g l c f:Fin P}(L:Line k d e g l)(j:c=l^2-k-e)(i:f=l*(k-c)-d):Line k (-d) c f (-l):=by
 obtain⟨a,b⟩:=L;subst i j a;exact⟨by grobner,by grobner (ringSteps:=10000000)⟩
theorem P5{c b k l:Fin P}(d:k=l^2-c-b):(-l)^2-c-k=b:=by
 subst d
 grobner
theorem P4{c b d k l:Fin P}(a:k=d+l*(b-c)):-l*(c-b) - -d=k:=by
 subst a
 grobner
theorem OY{x y:Fin P}(z:y=0)(k:y^2=x^3+7):x^3+7=0:=by
 grobner
theorem BN(h:NT.IsP P)(j:(2:Fin P)≠0)(w:∀x:Fin P,x^3+7≠0){b c:Pt P}(g:On b)(i:On c):add (neg b) (add b c)=c:=by
 rcases b with _|⟨d,f⟩
 ·rfl
 ·rcases c with _|⟨n,s⟩
  ·rw[bF];exact iJ ⟨rfl,by grobner⟩
  ·have p:=g;have y:=i;by_cases ho:d=n/\s = -f
   ·rw[iJ ho,bF,ho.1,ho.2];rfl
   ·have L:=bH h j g i ho;have k:=BG d f n s _ _ _ g i L rfl rfl;rw[bV h j g i ho L];generalize mO d f n s=l at L k;obtain⟨m,r⟩:∃m,m=l^2-d-n:=⟨_,rfl⟩
    unfold third;rw[<-r]at k⊢;obtain⟨q,t⟩:∃q,q=l*(d-m)-f:=⟨_,rfl⟩
    rw[<-t]at k⊢;have M:=L.back r t;have a:=L.go;have o:¬(d=m/\q = - -f):=λe=>by
     obtain⟨u,v⟩:=e;have z:2*f=0:=by
      grobner
     rcases nzd h z with z|z
     ·exact j z
     ·exact w d (OY z p)
    refine(bV h j (cO (a:=some (d,f)) g) k o M).trans ?_;unfold third;rw[P5 r,P4 a]
theorem Rr(h:NT.IsP P){d c k b i e f j l3 m:Fin P}(g:k-c≠0)(n:b-d≠0)(l:f-e=l3*(k-c))(o:j-i=m*(b-d))
 (p:((f-e)^2-(k+c)*(k-c)^2)*(b-d)^2=((j-i)^2-(d+b)*(b-d)^2)*(k-c)^2):l3^2-k-c=m^2-d-b:=by
 rw[l,o]at p;clear l o;refine cancel h (bD h (bD h g g) (bD h n n)) ?_
 grobner
theorem Rq(h:NT.IsP P){d k c i l g j n l3 o X:Fin P}(m:c-k≠0)(s:i-d≠0)(r:j-g=l3*(c-k))(u:n-l=o*(i-d))(p:l3^2-c-k=X)
 (f:((j-g)^2-(k+c)*(c-k)^2)*((n-l)*(c-k)-(j-g)*(i-d))+(c-k)^2*(((j-g)*k-g*(c-k))*(i-d)-((n-l)*d-l*(i-d))*(c-k))=0):l3*(c-X)-j=o*(d-X)-l:=by
 rw[r,u]at f;have t:j=g+l3*(c-k):=by clear f p;grobner
 have v:c+k=l3^2-X:=by clear f;grobner
 rw[t];obtain⟨a,x⟩:∃a,c-k=a:=⟨_,rfl⟩
 rw[x]at m f⊢;generalize i-d=b at s f;have q:(o*(d-X)-l-(l3*(k-X)-g))*(a*a*a*b)=0:=by
  have w:k+c=l3^2-X:=by rw[<-v];clear f;grobner
  rw[w]at f
  grobner
 rcases nzd h q with e|e
 ·have w:c=k+a:=by clear f q e v t p r u;grobner
  rw[w]
  grobner
 ·exact absurd e (bD h (bD h (bD h m m) m) s)
theorem RD(h:NT.IsP P){d c b g k j l3 m:Fin P}(i:2*k≠0)(n:b-d≠0)(l:l3*(2*k)=3*c^2)(o:j-g=m*(b-d))
 (f:(9*c^4-8*c*k^2)*(b-d)^2=((j-g)^2-(d+b)*(b-d)^2)*(4*k^2)):l3^2-c-c=m^2-d-b:=by
 rw[o]at f;refine cancel h (bD h (bD h i i) (bD h n n)) ?_;have e:9*c^4=(l3*(2*k))*(l3*(2*k)):=by rw[l];clear f l;grobner
 rw[e]at f
 grobner
theorem RB(h:NT.IsP P){c b d f k m l3 n X:Fin P}(i:2*k≠0)(p:d-c≠0)(g:l3*(2*k)=3*b^2)(q:m-f=n*(d-c))(l:l3^2-b-b=X)
 (j:(3*b^2*(b*(4*k^2)-(9*b^4-8*b*k^2))-2*k^2*(4*k^2))*(d-c)=((m-f)*(c*(4*k^2)-(9*b^4-8*b*k^2))-f*(d-c)*(4*k^2))*(2*k)):l3*(b-X)-k=n*(c-X)-f:=by
 rw[q]at j;have e:9*b^4-8*b*k^2=X*(4*k^2):=by
  have o:9*b^4=(l3*(2*k))*(l3*(2*k)):=by rw[g];clear j g;grobner
  rw[o,<-l]
  grobner
 rw[e,<-g]at j;clear e g l;refine cancel h (bD h (bD h (bD h i i) i) p) ?_
 grobner
theorem mL{a b:Fin P}(h:¬a=b):a-b≠0:=λe=>h (by grobner)
theorem Line.run{c k b d l:Fin P}(L:Line c k b d l):d-k=l*(b-c)/\k-d=l*(c-b):=by
 obtain⟨a,-⟩:=L;exact⟨by grobner,by grobner⟩
theorem Line.at{x y l:Fin P}(L:Line x y x y l):l*(2*y)=3*x^2:=by
 obtain⟨-,b⟩:=L
 grobner
theorem N5{m l d:Fin P}(s:m^2=l^2):(m*d)^2=(l*d)^2:=by grobner
theorem Mv{k b:Fin P}(s:(k - -b)^2=(k-b)^2):4*(k*b)=0:=by grobner
theorem S4{m l c b k:Fin P}(r:m^2-b-c=k)(e:k=l^2-c-b):m^2=l^2:=by grobner
theorem Qw{x l a b:Fin P}(e:x=l^2-a-b):x=l^2-b-a:=by grobner
theorem Qv{d g c k b e l:Fin P}(L:Line d g c k l)(f:e=l*(d-b)-g):e=l*(c-b)-k:=by
 obtain⟨a,-⟩:=L
 grobner
theorem four_ne(h:NT.IsP P)(k:(2:Fin P)≠0):(4:Fin P)≠0:=λe=>by
 have:(2:Fin P)*2=0:=by grobner
 rcases nzd h this with e|e<;>exact k e
theorem BE{y z:Fin P}(e:y = -z):z = -y:=by grobner
theorem zF(h:NT.IsP P)(o:(2:Fin P)≠0){b f d l j i l1 l2 k m c g:Fin P}(E:i^2=j^3+7)(H:f^2=b^3+7)
 (w:Line b f d l l1) (z:Line d l j i l2) (s:k=l1^2-b-d) (y:m=l1*(b-k)-f) (v:c=l2^2-d-j) (q:g=l2*(d-c)-l)
 (F:m^2=k^3+7) (I:g^2=c^3+7) (u:¬(k=j/\i = -m)) (G:¬(b=c/\g = -f)) (r:¬c=b) :
 add (some (k,m)) (some (j,i))=add (some (b,f)) (some (c,g)):=by
 have p:=bH h o F E u;have n:=bH h o H I G;rw[bV h o F E u p,bV h o H I G n];unfold third;by_cases hd:k=j
 ·have J:=mQ h F (hd ▸ E) (λe=>u ⟨hd,e⟩);subst hd J;have t:=uR (x:=k) h o u;have a:=RD h t (mL r) p.at n.run.1 (J2 b f d k l1 l2 l i c g w z s y v q);have D:=RB h t (mL r) p.at n.run.1 rfl (J1 b f d k l1 l2 l i c g w z s y v q);rw[D,a]
 ·have a:=Rr h (mL hd) (mL r) p.run.2 n.run.1 (MU b f d j l1 l2 l i k m c g w z s y v q);have D:=Rq h (mL hd) (mL r) p.run.2 n.run.1 rfl (MS b f d j l1 l2 l i k m c g w z s y v q);rw[D,a]
theorem add_assoc(h:NT.IsP P)(l:(2:Fin P)≠0)(Z:∀x:Fin P,x^3+7≠0)(a b c:Pt P)(g:On a)(k:On b)(n:On c):add (add a b) c=add a (add b c):=by
 have comm:=λ(a b:Pt P) (g:On a) (k:On b)=>add_comm h l a b g k
 have f:=Ej h l a b g k;have i:=Ej h l b c k n;have I:∀ {u v:Pt P},On u->On v->add (neg u) (add u v)=v:=λhu hv=>BN h l Z hu hv
 by_cases z1:b=neg a
 ·subst z1;rw[add_neg];have:=I k n;rw[neg_neg']at this;exact this.symm
 by_cases z2:c=neg b
 ·subst z2;rw[add_neg,bF,comm _ _ f n,comm a b g k];exact I k g
 by_cases w:c=neg (add a b)
 ·subst w;rw[add_neg];have e:add b (neg (add a b))=neg a:=by
   rw[comm a b g k,neg_add h l k g];have:=I (cO k) (cO g);rw[neg_neg']at this;exact this
  rw[e,add_neg]
 by_cases s:add b c=neg a
 ·rw[s,add_neg];have e:a=neg (add b c):=by rw[s,neg_neg']
  have j:add a b=neg c:=by
   rw[comm a b g k,e,neg_add h l k n];have:=I (cO k) (cO n);rw[neg_neg']at this;exact this
  rw[j,comm _ _ (cO n) n,add_neg]
 rcases a with _|⟨p,t⟩
 ·rfl
 rcases b with _|⟨j,q⟩
 ·rfl
 rcases c with _|⟨A,H⟩
 ·rw[bF,bF]
 have R:¬(p=j/\q = -t):=λe=>z1 (by rw[e.1,e.2];rfl)
 have w2:¬(j=A/\H = -q):=λe=>z2 (by rw[e.1,e.2];rfl)
 have D:=bH h l g k R;have K:=bH h l k n w2;have B:=bV h l g k R D;have C:=bV h l k n w2 K;rw[B]at f w⊢;rw[C]at i s⊢;generalize mO p t j q=l1 at D B f w⊢;generalize mO j q A H=l2 at K C i s⊢;unfold third at f i w s B C⊢;obtain⟨E,G⟩:∃E,E=l1^2-p-j:=⟨_,rfl⟩
 obtain⟨F,X⟩:∃F,F=l2^2-j-A:=⟨_,rfl⟩
 rw[<-G]at f w B⊢;rw[<-X]at i s C⊢;obtain⟨Q,Y⟩:∃Q,Q=l1*(p-E)-t:=⟨_,rfl⟩
 obtain⟨N,U⟩:∃N,N=l2*(j-F)-q:=⟨_,rfl⟩
 rw[<-Y]at f w B⊢;rw[<-U]at i s C⊢;have S:¬(E=A/\H = -Q):=λe=>w (by rw[e.2,<-e.1];rfl)
 have W:¬(p=F/\N = -t):=λe=>s (by rw[e.2,<-e.1];rfl)
 by_cases L:F=p
 ·have hy:N=t:=by
   have r:=i;rw[L]at r;exact mQ h g r (λe=>W ⟨L.symm,e⟩)
  by_cases hd:E=A
  ·exfalso;have V:H=Q:=by
    have r:=f;exact mQ h r (hd ▸ n) (λe=>S ⟨hd,e⟩)
   have O:=I k n;rw[C,L,hy]at O;rw[hd,<-V]at B;have T:¬p=j:=λe=>by
    subst e;have r:=mQ h g k (λe=>R ⟨rfl,e⟩);subst r;rw[comm _ _ (cO k) g,add_neg]at O;cases O
   have u1:¬(j=p/\t = - -q):=λe=>T e.1.symm
   have M:=bH h l (cO (a:=some (j,q)) k) g u1;have r2:=bV h l (cO (a:=some (j,q)) k) g u1 M;have J:third j (-q) p (mO j (-q) p t)=some (A,H):=r2.symm.trans O;generalize mO j (-q) p t=m at M J;unfold third at J;have r4:m^2-j-p=A:=by injection J with J;injection J
   have k1:=M.run.1;have k2:=D.run.2;rw[hd]at G;have s2:=N5 (d:=p-j) (S4 r4 G);rw[<-k1,<-k2]at s2;have k3:=Mv s2;have r:∀ {x y:Fin P},y^2=x^3+7->y≠0:=λo z=>Z _ (OY z o)
   rcases nzd h k3 with e|e
   ·exact four_ne h l e
   ·rcases nzd h e with e|e
    ·exact r g e
    ·exact r k e
  ·-- the same,from the other side
   have r:=zF h l g n K.swap D.swap (Qw X) (Qv K U) (Qw G) (Qv D Y) i f (λe=>W ⟨e.1.symm,BE e.2⟩) (λe=>S ⟨e.1.symm,BE e.2⟩) hd;rw[comm _ _ f n,comm _ _ g i];exact r.symm
 ·exact zF h l n g D K G Y X U f i S W L
structure Cur(P:Nat)[NeZero P]:Prop where
 pr:NT.IsP P
 two:(2:Fin P)≠0
 sev:∀x:Fin P,x^3+7≠0
theorem Cur.y_ne(C:Cur P){a b:Fin P}(h:On (some (a,b))):b≠0:=λe=>C.sev a (OY e h)
theorem Cur.opp_ne(C:Cur P){a b:Fin P}(h:On (some (a,b))):¬(a=a/\b = -b):=λe=>by
 have k:2*b=0:=by
  have:=e.2
  grobner
 exact bD C.pr C.two (C.y_ne h) k
def Jac(x y z:Fin P):Pt P->Prop
 | none=>z=0
 | some (a,b)=>z≠0/\x=a*z^2/\y=b*z^3
def Frac(x y z:Fin P):Pt P->Prop
 | none=>z=0
 | some (a,b)=>z≠0/\x=a*z/\y=b*z
def Pair(x y:Fin P):Pt P->Prop
 | none=>x=0/\y=0
 | some (a,b)=>x=a/\y=b
def dbl(n:Fin P):Fin P:=n+n
def twB(x y:Fin P):Fin P:=dbl (dbl (x*(y*y)))
def twS(x:Fin P):Fin P:=dbl (x*x)+x*x
def twX(x y:Fin P):Fin P:=twS x*twS x-dbl (twB x y)
def twY(x y:Fin P):Fin P:=twS x*(twB x y-twX x y)-dbl (dbl (dbl (y*y*(y*y))))
def twZ(y z:Fin P):Fin P:=dbl (y*z)
theorem Sz{a b l x y z:Fin P}(g:l*(2*b)=3*a^2)(k:x=a*z^2)(c:y=b*z^3):twX x y=(l^2-a-a)*twZ y z^2:=by
 subst k c;unfold twX twS twB twZ dbl
 grobner (ringSteps:=100000000)
theorem Sy{a b l x y z X:Fin P}(g:l*(2*b)=3*a^2)(k:x=a*z^2)(d:y=b*z^3)(c:twX x y=X*twZ y z^2):twY x y=(l*(a-X)-b)*twZ y z^3:=by
 subst k d;unfold twY;rw[c];unfold twS twB twZ dbl
 grobner (ringSteps:=100000000)
theorem Sx(C:Cur P){b y z:Fin P}(c:b≠0)(k:z≠0)(f:y=b*z^3):twZ y z≠0:=λe=>by
 have d:2*b*(z*z*(z*z))=0:=by
  unfold twZ dbl at e;subst f
  grobner
 exact bD C.pr (bD C.pr C.two c) (bD C.pr (bD C.pr k k) (bD C.pr k k)) d
theorem Jac.twice(C:Cur P){x y z:Fin P}{p:Pt P}(h:Jac x y z p)(k:On p):Jac (twX x y) (twY x y) (twZ y z) (add p p):=by
 match p,h,k with
 | none,h,_ =>
  have c:=h;show twZ y z=0;subst c;unfold twZ dbl
  grobner
 | some (a,b),h,k =>
  obtain⟨f,d,c⟩:=h;have ho:=C.opp_ne k;have L:=bH C.pr C.two k k ho;rw[bV C.pr C.two k k ho L];have e:=Sz L.at d c;exact⟨Sx C (C.y_ne k) f c,e,Sy L.at d c e⟩
def dA(b k:Fin P):Fin P:=b*(k*k)
def eU(b k:Fin P):Fin P:=b*(k*k)*k
def plX(k c bx b:Fin P):Fin P:=(b-c)*(b-c)-(bx-k)*(bx-k)*(bx-k)-dbl ((bx-k)*(bx-k)*k)
def plY(k b bx c:Fin P):Fin P:=(c-b)*((bx-k)*(bx-k)*k-plX k b bx c)-(bx-k)*(bx-k)*(bx-k)*b
def plZ(k c b bx:Fin P):Fin P:=k*c*(bx-b)
theorem SQ{a b c d l t k f bx e Z:Fin P}(g:d-b=l*(c-a))(i:k=a*t^2)(j:f=b*t^3)(e3:bx=c*t^2)(n:e=d*t^3)(m:Z=t*(bx-k)):plX k f bx e=(l^2-a-c)*Z^2:=by
 have o:d=b+l*(c-a):=by grobner
 subst o i j e3 n m;unfold plX dbl
 grobner (ringSteps:=100000000)
theorem SO{a b c d l t k f bx e Z X:Fin P}(g:d-b=l*(c-a))(i:k=a*t^2)(o:f=b*t^3)(e3:bx=c*t^2)(m:e=d*t^3)(p:Z=t*(bx-k))(j:plX k f bx e=X*Z^2):plY k f bx e=(l*(a-X)-b)*Z^3:=by
 unfold plY;rw[j];have n:d=b+l*(c-a):=by grobner
 subst n i o e3 m p
 grobner (ringSteps:=100000000)
theorem Af(C : Cur P){a c t : Fin P}{k : Nat}(ht : t ≠ 0)(e : a * t ^ k = c * t ^ k): a = c := by
  have hk : ∀k : Nat, t ^ k ≠ 0 := λk => by
    induction k with
    | zero => intro h; exact ht (by have h2 : (1 : Fin P) = 0 := by { rw [← h]; grind }; calc t = t * 1 := by grobner
                                    _ = 0 := by rw [h2]; grobner)
    | succ k ih => intro h; exact bD C.pr ih ht (by rw [<-h]; grind)
  exact cancel C.pr (hk k) e
theorem Jac.plus(C:Cur P){m o e j n f:Fin P}{p q:Pt P}(h:Jac m o e p)(l:On p)(B:Jac j n f q)(i:On q)(G:e≠0)(F:f≠0):
 (dA m f=dA j e/\eU o f=eU n e/\add p q=add p p) \/
 (¬(dA m f=dA j e/\eU o f=eU n e)/\Jac (plX (dA m f) (eU o f) (dA j e) (eU n e)) (plY (dA m f) (eU o f) (dA j e) (eU n e)) (plZ e f (dA m f) (dA j e)) (add p q)):=by
 match p,q,h,l,B,i with
 | none,_,h,_,_,_=>exact absurd h G
 | some (a,b),none,_,_,h,_=>exact absurd h F
 | some (a,b),some (c,d),h,l,B,i =>
  obtain⟨-,y,z⟩:=h;obtain⟨-,E,w⟩:=B;have u:=bD C.pr G F;have r:dA m f=a*(e*f)^2:=by subst y;unfold dA;clear l i;grobner
  have v:eU o f=b*(e*f)^3:=by subst z;unfold eU;clear l i;grobner
  have e3:dA j e=c*(e*f)^2:=by subst E;unfold dA;clear l i;grobner
  have t:eU n e=d*(e*f)^3:=by subst w;unfold eU;clear l i;grobner
  by_cases s:dA m f=dA j e/\eU o f=eU n e
  ·refine Ub ⟨s.1,s.2,?_⟩;have A:a=c:=Af C u (by rw[<-r,<-e3];exact s.1);have g:b=d:=Af C u (by rw[<-v,<-t];exact s.2);rw[A,g]
  ·refine T8 ⟨s,?_⟩;by_cases g:a=c
   ·have hd:d = -b:=U5 λA=>s ⟨by rw[r,e3,g],by
     have:=mQ C.pr (x:=a) l (by rw[g];exact i) A;rw[v,t,this]⟩
    rw[iJ ⟨g,hd⟩];show plZ _ _ _ _=0;rw[r,e3,g];unfold plZ
    grobner
   ·have ho:¬(a=c/\d = -b):=λh=>g h.1
    have L:=bH C.pr C.two l i ho;rw[bV C.pr C.two l i ho L];have D:plZ e f (dA m f) (dA j e)=e*f*(dA j e-dA m f):=rfl;have A:=SQ L.run.1 r v e3 t D;refine⟨?_,A,SO L.run.1 r v e3 t D A⟩;rw[D];refine bD C.pr u (λh=>g ?_);exact Af C (k:=2) u (by rw[<-r,<-e3];clear l i L A;grobner)
theorem Jac.zero(C:Cur P){x y z:Fin P}{p:Pt P}(h:Jac x y z p)(k:z=0):p=none:=by
 match p,h with
 | none,_=>rfl
 | some (a,b),h=>exact absurd k h.1
theorem Jac.neg{x y z:Fin P}{p:Pt P}(h:Jac x y z p):Jac x (0-y) z (neg p):=by
 match p,h with
 | none,h=>exact h
 | some (a,b),h=>exact⟨h.1,h.2.1,by have:=h.2.2;show 0-y = -b*z^3;grobner⟩
theorem inv_zero(C:Cur P):inv (0:Fin P)=0:=by
 apply Yx;have k:=C.pr.1;show(0:Fin P).val^(P-2)%P=_;rw[val_zero];by_cases h:P=2
 ·exact absurd (Yx (by rw[val_zero];show 2%P=0;rw[h])) C.two
 ·rw[yBA oM,Nat.zero_mod]
theorem Jac.pair(C:Cur P){x y z:Fin P}{p:Pt P}(h:Jac x y z p):Pair (x*(inv z*inv z)) (y*(inv z*inv z)*inv z) p:=by
 match p,h with
 | none,h =>
  have k:=h;subst k;rw[inv_zero C];exact⟨by grobner,by grobner⟩
 | some (a,b),h =>
  have d:=inv_mul C.pr h.1;obtain⟨-,k,c⟩:=h;subst k c;exact⟨by grobner,by grobner⟩
theorem Pair.jac(C:Cur P){x y:Fin P}{p:Pt P}(h:Pair x y p)(k:¬(x=0/\y=0)):Jac x y 1 p:=by
 match p,h with
 | none,h=>exact absurd h k
 | some (a,b),h =>
  obtain⟨c,d⟩:=h;subst c d;refine⟨λe=>?_,by grobner,by grobner⟩;have:=congrArg yA0 e;rw[val_zero,val_one C.pr]at this;omega
theorem Pair.nothing(C:Cur P){x y:Fin P}{p:Pt P}(h:Pair x y p)(k:On p)(c:x=0/\y=0):p=none:=by
 match p,h,k with
 | none,_,_=>rfl
 | some (a,b),h,k =>
  obtain⟨e,d⟩:=h;exact absurd (by rw[<-d];exact c.2) (C.y_ne k)
/- The reference's fractions. -/
def frT(d e w v2 : Fin P): Fin P:=d * d * w-e * e * e-(v2 + v2) * (e * e)
theorem Tf{a b c d l w v v2 u u2:Fin P}(g:d-b=l*(c-a))(k:v2=a*w)(e:u2=b*w)(e3:v=c*w)(f:u=d*w):(v-v2)*frT (u-u2) (v-v2) w v2=(l^2-a-c)*((v-v2)*(v-v2)*(v-v2)*w):=by
 have i:d=b+l*(c-a):=by grobner
 subst i k e e3 f;unfold frT
 grobner (ringSteps:=100000000)
theorem Te{a b c d l w v v2 u u2:Fin P}(g:d-b=l*(c-a))(k:v2=a*w)(e:u2=b*w)(e3:v=c*w)(f:u=d*w):
 (u-u2)*(v2*((v-v2)*(v-v2))-frT (u-u2) (v-v2) w v2)-u2*((v-v2)*(v-v2)*(v-v2))=(l*(a-(l^2-a-c))-b)*((v-v2)*(v-v2)*(v-v2)*w):=by
 have i:d=b+l*(c-a):=by grobner
 subst i k e e3 f;unfold frT
 grobner (ringSteps:=100000000)
def fdD(x:Fin P):Fin P:=x*x+x*x+x*x
def fdE(y z:Fin P):Fin P:=(y+y)*z
def fdT(x y z:Fin P):Fin P:=fdD x*fdD x*z-(x+x)*(fdE y z*fdE y z)
theorem Ti{a b l x y z:Fin P}(g:l*(2*b)=3*a^2)(k:x=a*z)(c:y=b*z):fdE y z*fdT x y z=(l^2-a-a)*(fdE y z*fdE y z*fdE y z*z):=by
 subst k c;unfold fdT fdD fdE
 grobner (ringSteps:=100000000)
theorem Tj{a b l x y z:Fin P}(g:l*(2*b)=3*a^2)(k:x=a*z)(c:y=b*z):fdT x y z=(l^2-a-a)*(fdE y z*fdE y z*z):=by
 subst k c;unfold fdT fdD fdE
 grobner (ringSteps:=100000000)
theorem Tg{a b l x y z X:Fin P}(g:l*(2*b)=3*a^2)(k:x=a*z)(c:y=b*z)(d:fdT x y z=X*(fdE y z*fdE y z*z)):
 fdD x*(x*(fdE y z*fdE y z)-fdT x y z)-y*(fdE y z*fdE y z*fdE y z)=(l*(a-X)-b)*(fdE y z*fdE y z*fdE y z*z):=by
 rw[d];subst k c;unfold fdD fdE
 grobner (ringSteps:=100000000)
theorem Frac.zero{x y z:Fin P}{p:Pt P}(h:Frac x y z p)(k:z=0):p=none:=by
 match p,h with
 | none,_=>rfl
 | some (a,b),h=>exact absurd k h.1
theorem Frac.double(C:Cur P){x y z:Fin P}{p:Pt P}(h:Frac x y z p)(k:On p)(d:z≠0):
 Frac (fdE y z*fdT x y z) (fdD x*(x*(fdE y z*fdE y z)-fdT x y z)-y*(fdE y z*fdE y z*fdE y z)) (fdE y z*fdE y z*fdE y z*z) (add p p):=by
 match p,h,k with
 | none,h,_=>exact absurd h d
 | some (a,b),h,k =>
  obtain⟨-,f,c⟩:=h;have ho:=C.opp_ne k;have L:=bH C.pr C.two k k ho;rw[bV C.pr C.two k k ho L];have i:=C.y_ne k;have g:fdE y z≠0:=λe=>by
   refine bD C.pr (bD C.pr C.two i) (bD C.pr d d) ?_;unfold fdE at e;subst c
   grobner
  exact⟨bD C.pr (bD C.pr (bD C.pr g g) g) d,Ti L.at f c,Tg L.at f c (Tj L.at f c)⟩
theorem Frac.plus(C:Cur P){f n e g l k:Fin P}{p q:Pt P}(h:Frac f n e p)(m:On p)(E:Frac g l k q)(j:On q)(H:e≠0)(G:k≠0):
 (g*e=f*k/\¬l*e=n*k/\add p q=none)\/(g*e=f*k/\l*e=n*k/\¬l*e=0/\add p q=add p p) \/
 (¬g*e=f*k/\Frac ((g*e-f*k)*frT (l*e-n*k) (g*e-f*k) (e*k) (f*k))
  ((l*e-n*k)*(f*k*((g*e-f*k)*(g*e-f*k))-frT (l*e-n*k) (g*e-f*k) (e*k) (f*k))-n*k*((g*e-f*k)*(g*e-f*k)*(g*e-f*k)))
  ((g*e-f*k)*(g*e-f*k)*(g*e-f*k)*(e*k)) (add p q)):=by
 match p,q,h,m,E,j with
 | none,_,h,_,_,_=>exact absurd h H
 | some (a,b),none,_,_,h,_=>exact absurd h G
 | some (a,b),some (c,d),h,m,E,j =>
  obtain⟨-,A,B⟩:=h;obtain⟨-,F,z⟩:=E;have w:=bD C.pr H G;have s:f*k=a*(e*k):=by subst A;clear m j;grobner
  have y:n*k=b*(e*k):=by subst B;clear m j;grobner
  have e3:g*e=c*(e*k):=by subst F;clear m j;grobner
  have r:l*e=d*(e*k):=by subst z;clear m j;grobner
  generalize f*k=v2 at *;generalize n*k=u2 at *;generalize g*e=v at *;generalize l*e=u at *;by_cases o:v=v2
  ·have i:a=c:=cancel C.pr w (by rw[<-s,<-e3,o]);by_cases t:u=u2
   ·have D:b=d:=cancel C.pr w (by rw[<-y,<-r,t]);refine T8 (Ub ⟨o,t,?_,by rw[i,D]⟩);rw[r];exact bD C.pr (C.y_ne j) w
   ·refine Ub ⟨o,t,iJ ⟨i,?_⟩⟩;exact U5 λD=>t (by
     have:=mQ C.pr (x:=a) m (by rw[i];exact j) D;rw[r,y,this])
  ·refine T8 (T8 ⟨o,?_⟩);have i:¬a=c:=λh=>o (by rw[e3,s,h])
   have ho:¬(a=c/\d = -b):=λh=>i h.1
   have L:=bH C.pr C.two m j ho;rw[bV C.pr C.two m j ho L];have hd:=mL o;exact⟨bD C.pr (bD C.pr (bD C.pr hd hd) hd) w,Tf L.run.1 s y e3 r,Te L.run.1 s y e3 r⟩
def mul:Nat->Pt P->Pt P
 | 0,_=>none
 | n+1,a=>add (mul n a) a
theorem iY:On (none:Pt P):=trivial
theorem lD(a:Pt P):add none a=a:=rfl
theorem Cur.on(C:Cur P){a b:Pt P}(c:On a)(k:On b):On (add a b):=Ej C.pr C.two a b c k
theorem Cur.comm(C:Cur P){a b:Pt P}(c:On a)(k:On b):add a b=add b a:=add_comm C.pr C.two a b c k
theorem Cur.assoc(C:Cur P){a b c:Pt P}(e:On a)(d:On b)(k:On c):add (add a b) c=add a (add b c):=add_assoc C.pr C.two C.sev a b c e d k
theorem Cur.neg_l(C:Cur P){a:Pt P}(k:On a):add (neg a) a=none:=by
 rw[C.comm (cO k) k,add_neg]
theorem Cur.swap(C:Cur P){a b c d:Pt P}(f:On a)(e:On b)(k:On c)(hd:On d):add (add a b) (add c d)=add (add a c) (add b d):=by
 rw[C.assoc f e (C.on k hd),<-C.assoc e k hd,C.comm e k,C.assoc k e hd,<-C.assoc f k (C.on e hd)]
theorem cU(C:Cur P){a:Pt P}(k:On a):∀n,On (mul n a)
 | 0=>iY
 | n+1=>C.on (cU C k n) k
theorem mul_add(C:Cur P){a:Pt P}(k:On a)(m:Nat):∀n,mul (m+n) a=add (mul m a) (mul n a)
 | 0=>(bF _).symm
 | n+1=>by
  show add (mul (m+n) a) a=add (mul m a) (add (mul n a) a);rw[mul_add C k m n,C.assoc (cU C k m) (cU C k n) k]
def eM:Int->Pt P->Pt P
 | .ofNat n,a=>mul n a
 | .negSucc n,a=>neg (mul (n+1) a)
theorem iW(C:Cur P){a:Pt P}(k:On a):∀n,On (eM n a)
 | .ofNat n=>cU C k n
 | .negSucc n=>cO (cU C k (n+1))
theorem nR(C:Cur P){a:Pt P}(k:On a):∀n,eM (n+1) a=add (eM n a) a
 | .ofNat n=>rfl
 | .negSucc 0=>by
  show(none:Pt P)=add (neg (add none a)) a;rw[lD,C.neg_l k]
 | .negSucc (n+1)=>by
  show neg (mul (n+1) a)=add (neg (add (mul (n+1) a) a)) a;have b:=cU C k (n+1);rw[neg_add C.pr C.two b k,C.assoc (cO b) (cO k) k,C.neg_l k,bF]
theorem rO(C:Cur P){a:Pt P}(k:On a)(n:Int):eM (n-1) a=add (eM n a) (neg a):=by
 have h:=nR C k (n-1);rw[Int.sub_add_cancel]at h;rw[h,C.assoc (iW C k _) k (cO k),add_neg,bF]
theorem AX(C:Cur P){a:Pt P}(k:On a)(m:Int):∀n:Nat,eM (m+n) a=add (eM m a) (eM n a)
 | 0=>by rw[Ux,Zz];exact(bF _).symm
 | n+1=>by
  rw[show m+((n+1:Nat):Int)=(m+n)+1 by omega,nR C k,AX C k m n,show((n+1:Nat):Int)=(n:Int)+1 by omega,nR C k,
   C.assoc (iW C k _) (iW C k _) k]
theorem AW(C:Cur P){a:Pt P}(k:On a):∀n:Nat,eM (-(n:Int)) a=neg (eM n a)
 | 0=>rfl
 | n+1=>by
  have b:eM (((n+1:Nat):Int)) a=add (eM n a) a:=by rw[show((n+1:Nat):Int)=(n:Int)+1 by omega,nR C k]
  rw[b,neg_add C.pr C.two (iW C k _) k,<-AW C k n,show -((n+1:Nat):Int) = -(n:Int)-1 by omega,rO C k]
theorem AU(C:Cur P){a:Pt P}(k:On a)(m:Int):∀n:Nat,eM (m-n) a=add (eM m a) (eM (-(n:Int)) a)
 | 0=>by rw[Ux,Int.sub_zero];exact(bF _).symm
 | n+1=>by
  rw[show m-((n+1:Nat):Int)=(m-n)-1 by omega,rO C k,AU C k m n,show -((n+1:Nat):Int) = -(n:Int)-1 by omega,rO C k,
   C.assoc (iW C k _) (iW C k _) (cO k)]
theorem uN(C:Cur P){a:Pt P}(b:On a)(m n:Int):eM (m+n) a=add (eM m a) (eM n a):=by
 rcases Int.le_total 0 n with h|h
 ·obtain⟨k,rfl⟩:=Z7 h;exact AX C b m k
 ·obtain⟨k,c⟩:=Z7 (show 0<=-n by omega);obtain rfl:n = -(k:Int):=oM;rw[<-AU C b m k,Int.sub_eq_add_neg]
theorem AV(a:Pt P):eM 1 a=a:=lD a
theorem F8(a:Pt P):eM 0 a=none:=rfl
def tot(a:Nat->Pt P):Nat->(Nat->Int)->Pt P
 | 0,_=>none
 | k+1,f=>add (tot a k f) (eM (f k) (a k))
theorem CE(C:Cur P){a:Nat->Pt P}(f:Nat->Int):∀k,(∀i,i<k->On (a i))->On (tot a k f)
 | 0,_=>iY
 | k+1,h=>C.on (CE C f k λi b=>h i oM) (iW C (h k oM) _)
theorem fK{a:Nat->Pt P}{f g:Nat->Int}:∀k,(∀i,i<k->f i=g i)->tot a k f=tot a k g
 | 0,_=>rfl
 | k+1,h=>by
  show add (tot a k f) _=add (tot a k g) _;rw[fK k (λi b=>h i oM),h k oM]
theorem uU(a:Nat->Pt P){f:Nat->Int}:∀k,(∀i,i<k->f i=0)->tot a k f=none
 | 0,_=>rfl
 | k+1,h=>by
  show add (tot a k f) _=none;rw[uU a k (λi b=>h i oM),h k oM];rfl
theorem zS(C:Cur P){a:Nat->Pt P}(f g:Nat->Int):∀k,(∀i,i<k->On (a i))->tot a k (λj=>f j+g j)=add (tot a k f) (tot a k g)
 | 0,_=>rfl
 | k+1,h=>by
  have c:∀i,i<k->On (a i):=λi d=>h i oM
  have b:=h k oM;show add (tot a k _) (eM (f k+g k) (a k))=add (add (tot a k f) (eM (f k) (a k))) (add (tot a k g) (eM (g k) (a k)));rw[zS C f g k c,uN C b,C.swap (CE C f k c) (CE C g k c) (iW C b _) (iW C b _)]
theorem Ev(C:Cur P){a:Nat->Pt P}(i:Nat)(d:Int):∀k,i<k->(∀i,i<k->On (a i))->tot a k (λj=>if j=i then d else 0)=eM d (a i)
 | k+1,hi,h=>by
  show add (tot a k _) (eM (if k=i then d else 0) (a k))=_;by_cases b:k=i
  ·subst b;rw[yB3 rfl,uU a k (λj c=>yB4 oM)];rfl
  ·rw[yB4 b,Ev C i d k oM (λj c=>h j oM)];exact bF _
theorem KJ(C:Cur P){a:Nat->Pt P}(f:Nat->Int)(i:Nat)(d:Int)(k:Nat)(c:i<k)(h:∀i,i<k->On (a i)):
 tot a k (λj=>if j=i then f j+d else f j)=add (tot a k f) (eM d (a i)):=by
 rw[<-Ev C i d k c h,<-zS C f _ k h];refine fK k λj _=>?_
 by_cases b:j=i
 ·rw[yB3 b,yB3 b]
 ·rw[yB4 b,yB4 b,Zz]
theorem Gf(C:Cur P){a:Nat->Pt P}(f:Nat->Int)(k:Nat)(h:∀i,i<k->On (a i)):tot a k (λj=>2*f j)=add (tot a k f) (tot a k f):=by
 rw[<-zS C f f k h];exact fK k λj _=>oM
end EC
namespace EC
theorem Ll{P c:Nat}(g:NT.IsP P)(m:P=3*c+1)(n:7<P)(j:(P-7)^c%P≠1)(x:Nat):(x*x*x+7)%P≠0:=λe=>by
 have l:¬P ∣ x:=λhd=>by
  have b:P ∣ x*x*x:=Nat.dvd_mul_left_of_dvd hd _;have k:P ∣ 7:=(Nat.dvd_add_right b).1 (WH e);have:=Xn dC k;omega
 have b:=g.fermat1 x l;have k:x*x*x%P=P-7:=by
  have f:x*x*x%P<P:=Vm _ oM;have d:(x*x*x%P+7)%P=0:=by rw[yBd];exact e
  by_cases i:x*x*x%P+7<P
  ·rw[Uf i]at d;omega
  ·rw[yAA oM,Uf oM]at d;omega
 apply j;rw[<-k,<-yAl];rw[<-b]
 congr 1
 rw[show P-1=3*c by omega,Y7]
 congr 1
 rw[Vk,Vk,Yq]
theorem PQ{P c:Nat}[NeZero P](b:NT.IsP P)(d:P=3*c+1)(f:7<P)(g:(P-7)^c%P≠1):Cur P:=by
 refine⟨b,λe=>?_,λx e=>?_⟩
 ·have:=congrArg yA0 e;rw[val_zero]at this;have k:(2:Fin P).val=2%P:=rfl;rw[k,Uf oM]at this;omega
 ·have i:x*x*x+7=0:=by rw[<-e];grobner
  have:=congrArg yA0 i;rw[val_zero,Fin.val_add,Xq,Xq]at this;have k:(7:Fin P).val=7%P:=rfl;rw[k,yBc,yBd,Nat.add_mod_mod]at this;exact Ll b d f g x.val this
theorem Me:NT.pm 115792089237316195423570985008687907853269984665640564039457584007908834671663 256 (115792089237316195423570985008687907853269984665640564039457584007908834671663-7) 38597363079105398474523661669562635951089994888546854679819194669302944890554 1≠1:=dK
theorem QL{P c k:Nat}(b:c<2^k)(d:1<P)(h:NT.pm P k (P-7) c 1≠1):(P-7)^c%P≠1:=λe=>h (by rw[NT.EQ P k _ c 1 b d,V4];exact e)
theorem cur:∃(P:Nat) (_:NeZero P),P=115792089237316195423570985008687907853269984665640564039457584007908834671663/\Cur P:=by
 have f:=NT.pP;have e:=Me;have b:115792089237316195423570985008687907853269984665640564039457584007908834671663=3*38597363079105398474523661669562635951089994888546854679819194669302944890554+1:=dK;have k:38597363079105398474523661669562635951089994888546854679819194669302944890554<2^256:=dK;have d:7<115792089237316195423570985008687907853269984665640564039457584007908834671663:=dK;generalize 38597363079105398474523661669562635951089994888546854679819194669302944890554=c at *;generalize 115792089237316195423570985008687907853269984665640564039457584007908834671663=P at *;have g:NeZero P:=⟨oM⟩
 exact⟨P,g,rfl,PQ f b d (QL k oM e)⟩
end EC
section
open Go.RowKit Go.Sort
structure At4(w:TA)(k a b c d:Nat):Prop where
 c0:w.cell? ⟨k,0,none⟩=some (uZ a)
 c1:w.cell? ⟨k,1,none⟩=some (uZ b)
 c2:w.cell? ⟨k,2,none⟩=some (uZ c)
 c3:w.cell? ⟨k,3,none⟩=some (uZ d)
 f:∀o,w.frozen? ⟨k,o,none⟩=false
variable {w w1:TA}{k a b c d:Nat}
theorem At4.lt(h:At4 w k a b c d):k<w.heap.size:=World.block_lt_of_cell? _ _ h.c0
theorem At4.below{B:Nat}(h:At4 w k a b c d)(e:Below B w w1)(f:k<B):At4 w1 k a b c d:=
 ⟨by rw[e.cell (p:=⟨k,0,none⟩) f];exact h.c0,by rw[e.cell (p:=⟨k,1,none⟩) f];exact h.c1,by rw[e.cell (p:=⟨k,2,none⟩) f];exact h.c2,by rw[e.cell (p:=⟨k,3,none⟩) f];exact h.c3,
  λo=>by rw[e.frozen (p:=⟨k,o,none⟩) f];exact h.f o⟩
theorem At4.call(h:At4 w k a b c d)(e:Below w.heap.size w w1):At4 w1 k a b c d:=h.below e h.lt
theorem At4.alloc(h:At4 w k a b c d)(o:Obj):At4 (w.alloc o) k a b c d:=h.call (aD w o)
theorem At4.drewN(h:At4 w k a b c d)(q:Nat):At4 (w.drewN q) k a b c d:=⟨h.c0,h.c1,h.c2,h.c3,h.f⟩
theorem At4.new(w:TA)(t:Uw)(a b c d:Nat):At4 (w.alloc (.cells #[uZ a,uZ b,uZ c,uZ d] t)) w.heap.size a b c d:=
 ⟨by rw[Us];rfl,by rw[Us];rfl,by rw[Us];rfl,by rw[Us];rfl,λo=>Vr _ _ _ _⟩
theorem At4.made(w:TA)(t:Uw)(a b c d:Nat){k:Nat}(e:w.heap.size=k):At4 (w.alloc (.cells #[uZ a,uZ b,uZ c,uZ d] t)) k a b c d:=
 e ▸ At4.new w t a b c d
theorem aB{i j:Nat}{o k:Nat}(h:i≠j\/o≠k):(⟨i,o,none⟩:Addr)≠⟨j,k,none⟩:=by
 intro e;simp only[Addr.mk.injEq,and_true]at e;omega
theorem At4.other{j o : Nat}(h : At4 w k a b c d)(hj : j ≠ k)(v : TC): At4 (w.setCell ⟨j, o, none⟩ v) k a b c d :=
  ⟨by rw [TE _ _ _ _ (aB (Ub hj))]; exact h.c0, by rw [TE _ _ _ _ (aB (Ub hj))]; exact h.c1,
   by rw [TE _ _ _ _ (aB (Ub hj))]; exact h.c2, by rw [TE _ _ _ _ (aB (Ub hj))]; exact h.c3, λo => by rw [Un]; exact h.f o⟩
theorem At4.set0(h : At4 w k a b c d)(x : Nat): At4 (w.setCell (aZ k) (uZ (x : Int))) k x b c d :=
  ⟨Uu _ _ _ h.c0, by rw [TE _ _ _ _ (aB (T8 dC))]; exact h.c1,
   by rw [TE _ _ _ _ (aB (T8 dC))]; exact h.c2, by rw [TE _ _ _ _ (aB (T8 dC))]; exact h.c3, λo => by rw [Un]; exact h.f o⟩
theorem At4.set1(h : At4 w k a b c d)(x : Nat): At4 (w.setCell ⟨k, 1, none⟩ (uZ (x : Int))) k a x c d :=
  ⟨by rw [TE _ _ _ _ (aB (T8 dC))]; exact h.c0, Uu _ _ _ h.c1,
   by rw [TE _ _ _ _ (aB (T8 dC))]; exact h.c2, by rw [TE _ _ _ _ (aB (T8 dC))]; exact h.c3, λo => by rw [Un]; exact h.f o⟩
theorem At4.set2(h : At4 w k a b c d)(x : Nat): At4 (w.setCell ⟨k, 2, none⟩ (uZ (x : Int))) k a b x d :=
  ⟨by rw [TE _ _ _ _ (aB (T8 dC))]; exact h.c0, by rw [TE _ _ _ _ (aB (T8 dC))]; exact h.c1,
   Uu _ _ _ h.c2, by rw [TE _ _ _ _ (aB (T8 dC))]; exact h.c3, λo => by rw [Un]; exact h.f o⟩
theorem At4.set3(h : At4 w k a b c d)(x : Nat): At4 (w.setCell ⟨k, 3, none⟩ (uZ (x : Int))) k a b c x :=
  ⟨by rw [TE _ _ _ _ (aB (T8 dC))]; exact h.c0, by rw [TE _ _ _ _ (aB (T8 dC))]; exact h.c1,
   by rw [TE _ _ _ _ (aB (T8 dC))]; exact h.c2, Uu _ _ _ h.c3, λo => by rw [Un]; exact h.f o⟩
theorem At4.drew(h:At4 w k a b c d):At4 w.drew k a b c d:=⟨h.c0,h.c1,h.c2,h.c3,h.f⟩
def set4(w:TA)(k:Nat)(x y z t:TC):TA:=(((w.setCell (aZ k) x).setCell ⟨k,1,none⟩ y).setCell ⟨k,2,none⟩ z).setCell ⟨k,3,none⟩ t
theorem At4.self4(h:At4 w k a b c d)(x y z t:Nat):At4 (set4 w k (uZ x) (uZ y) (uZ z) (uZ t)) k x y z t:=(((h.set0 x).set1 y).set2 z).set3 t
theorem At4.other4{j:Nat}(h:At4 w k a b c d)(e:j≠k)(x y z t:TC):At4 (set4 w j x y z t) k a b c d:=(((h.other e x).other e y).other e z).other e t
theorem aF{B j:Nat}{b:TA}(h:Below B b w)(k:B<=j)(x y z t:TC):Below B b (set4 w j x y z t):=
 (((h.setCell (p:=⟨j,0,none⟩) k x).setCell (p:=⟨j,1,none⟩) k y).setCell (p:=⟨j,2,none⟩) k z).setCell (p:=⟨j,3,none⟩) k t
theorem Gi(w:TA)(j:Nat)(x y z t:TC):(set4 w j x y z t).heap.size=w.heap.size:=by simp[set4]
end
section
open Go.RowKit Go.Sort
variable {P:Nat}[NeZero P]{N:Nat}
structure FoldI(w wr:TA)(g0 g1 g2 a b c d p q r s:Nat):Prop where
 bl:Below w.heap.size w wr
 pr:At4 wr w.heap.size g0 g1 g2 0
 lo:At4 wr (w.heap.size+1) a b c d
 hi:At4 wr (w.heap.size+1+1) p q r s
 re:At4 wr (w.heap.size+1+1+1) 0 0 0 0
 ha:a<18446744073709551616
 hb:b<18446744073709551616
 hc:c<18446744073709551616
 hd:d<18446744073709551616
 hp:p<18446744073709551616
 hq:q<18446744073709551616
 hr:r<18446744073709551616
 hs:s<18446744073709551616
theorem Jk{a b c d p q r s g f i t k P gk:Nat}(o:P+val g f i 0=top)(m:top<2*P)(j:val a b c d<top)(n:gk=val a b c d+top*val 0 0 0 0)
 (u:t+top*k=val a b c d+val g f i 0) (v:k<=1) (l:t=val p q r s) (e:t<top):(k=0->val a b c d=gk%P)/\(k=1->val p q r s=gk%P):=by
 have e:gk=val a b c d:=by rw[n];rfl
 rw[e];refine⟨λh=>?_,λh=>?_⟩
 ·subst h;rw[Uf oM]
 ·subst h;rw[<-l,yAA oM,Uf oM];omega
theorem Ky{p q r s:Nat}(h:¬(p=0/\q=0/\r=0/\s=0)):0<val p q r s:=by unfold val;omega
theorem GO{x h g P gk:Nat}(k:0<h)(b:P+g=top)(d:top<2*P)(c:gk=x+top*h):x+g*h<gk/\(x+g*h)%P=gk%P:=by
 have e:gk=x+g*h+P*h:=by rw[c,<-b,WE];omega
 rw[e,Ym];have:0<P*h:=Nat.mul_pos oM k;exact⟨oM,rfl⟩
theorem B9{l t a b c d g h x:Nat}(f:g*h+x=l+18446744073709551616*t)(k:t=val a b c d):val l a b c+top*val d 0 0 0=x+val g 0 0 0*h:=by
 have e:val g 0 0 0=g:=by unfold val;omega
 rw[e];unfold val at *;unfold top;omega
theorem val_mul(c b k h:Nat):val c b k 0*h=c*h+18446744073709551616*(b*h)+340282366920938463463374607431768211456*(k*h):=by
 unfold val;rw[WE,WE,WE,VV,VV];omega
theorem wO{l0 l1 l2 j i l h x a b c d o m p n k f e g:Nat}(s:l0+18446744073709551616*val a b c d=j*h+x)
 (q:l1+18446744073709551616*val o m p n=i*h+val a b c d) (r:l2+18446744073709551616*val k f e g=l*h+val o m p n) :
 val l0 l1 l2 k+top*val f e g 0=x+val j i l 0*h:=by
 rw[val_mul];unfold val at *;unfold top;omega
theorem wQ(g0 g1 g2:Nat)(x y:TC)(m n P:Nat)(ht:g0<18446744073709551616)(hw:g1<18446744073709551616)(k9:g2<18446744073709551616)
 (hor:(g1=0/\g2=0)\/∃o:Nat,bits .or .u64 (g1:Int) (g2:Int)=(o:Int)/\o≠0) (hP:P+val g0 g1 g2 0=top) (kb:top<2*P) (hx:Four x m) (hy:Four y n) (w:TA) :
 TW prog 165 #[.agg #[uZ g0,uZ g1,uZ g2,uZ 0],x,y] w (rZ w λe w'=>Four e ((m+top*n)%P)):=by
 obtain⟨a,b,c,d,rfl,ha,hb,hc,hd,em⟩:=hx;obtain⟨p,q,r,s,rfl,hp,hq,hr,hs,en⟩:=hy;go_enter func165,ntmps165;go_wp2;go_loopg [] (val a b c d+top*val p q r s) (λg wr=>∃(a b c d p q r s:Nat),FoldI w wr g0 g1 g2 a b c d p q r s/\g=val a b c d+top*val p q r s/\Hid (g%P=(m+top*n)%P))
 case atStart =>
  have f:=hZ w (.cells #[uZ g0,uZ g1,uZ g2,uZ 0] 89) (.cells #[uZ a,uZ b,uZ c,uZ d] 87) (.cells #[uZ p,uZ q,uZ r,uZ s] 87) (.cells #[uZ 0,uZ 0,uZ 0,uZ 0] 87);refine⟨a,b,c,d,p,q,r,s,⟨f,?_,?_,?_,?_,ha,hb,hc,hd,hp,hq,hr,hs⟩,rfl,?_⟩
  ·exact(((At4.new w 89 g0 g1 g2 0).alloc _).alloc _).alloc _
  ·exact((At4.made (w.alloc _) 87 a b c d (TQ _ _)).alloc _).alloc _
  ·exact(At4.made ((w.alloc _).alloc _) 87 p q r s (by simp)).alloc _
  ·exact At4.made (((w.alloc _).alloc _).alloc _) 87 0 0 0 0 (by simp)
  ·rw[em,en];rfl
 case round =>
  obtain⟨a,b,c,d,p,q,r,s,hI,hg,HE⟩:=hrel;clear em en ha hb hc hd hp hq hr hs;obtain⟨bl,pr,lo,hi,re,ha,hb,hc,hd,hp,hq,hr,hs⟩:=hI;have HB:Hid (Below w.heap.size w wr):=bl;clear bl;generalize F:w.heap.size+1+1+1=C at re⊢;generalize I:w.heap.size+1+1=k2 at hi⊢;generalize G:w.heap.size+1=k1 at lo⊢;have H:Hid (w.heap.size+1=k1/\w.heap.size+1+1=k2/\w.heap.size+1+1+1=C):=⟨G,I,F⟩
  generalize J:w.heap.size=B at pr HB⊢;have H0:Hid (w.heap.size=B):=J;have kf:Hid (B<=k1):=by unfold Hid;omega
  have S:B≠k1:=oM;have k6:B≠k2:=oM;have kr:B≠C:=oM;have n12:k1≠k2:=oM;have Q:k1≠C:=oM;have kc:k2≠C:=oM;have z0:=pr.lt;have z1:=lo.lt;have z2:=hi.lt;have z3:=re.lt;clear J G I F;by_cases hz:p=0/\q=0/\r=0/\s=0
  ·obtain⟨rfl,rfl,rfl,rfl⟩:=hz;obtain⟨p0,p1,p2,p3,pf⟩:=id pr;obtain⟨l0,l1,l2,l3,lf⟩:=id lo;obtain⟨J,G,I,F,hf⟩:=id hi;obtain⟨r0,L,r2,r3,E⟩:=id re;go_wp2_with fail
   refine(qT _ _ _ _ (Four.mk ha hb hc hd rfl) (Four.mk ht hw k9 dC rfl) _).mono ?_;rintro e w1 ⟨v,rfl,f,v4,t,k,rfl,⟨R,Z,U,X,rfl,O,V,W,T,D⟩,hk,N⟩;have z:=Jk hP kb (iU ha hb hc hd) hg N hk D (D ▸ iU O V W T);rw[HE.out]at z;have HF:Hid _:=z;clear z;clear p0 p1 p2 p3 pf l0 l1 l2 l3 lf J G I F hf r0 L r2 r3 E N D hg HE;have i:=lo.call f;have j:=re.call f;have z3:=j.lt;have z1:=i.lt;have K:Hid (Below B w w1):=HB.trans (f.mono oM);obtain⟨l0,l1,l2,l3,lf⟩:=id i;obtain⟨r0,L,r2,r3,E⟩:=id j;have A:k=0\/k=1:=oM;rcases A with rfl|rfl
   ·go_wp2;have u:=((((j.set0 a).set1 b).set2 c).set3 d).alloc (.cells #[uZ R,uZ Z,uZ U,uZ X] 87);refine TM (v:=?v0) ?hr0 rfl ?hR0
    case hr0=>simp[results,Tryz.results165,go_sem,u.c0,u.c1,u.c2,u.c3];rfl
    refine⟨_,rfl,?_,Four.mk ha hb hc hd (HF.1 trivial).symm⟩;rw[H0.out];have Y:B<=C:=by have:=H.out;have:=H0.out;omega
    have q1:=(((K.setCell (p:=⟨C,0,none⟩) Y (uZ a)).setCell (p:=⟨C,1,none⟩) Y (uZ b)).setCell (p:=⟨C,2,none⟩) Y (uZ c)).setCell (p:=⟨C,3,none⟩) Y (uZ d);exact q1.alloc (by simp;omega) _
   ·go_wp2;have u:=((((j.set0 R).set1 Z).set2 U).set3 X).alloc (.cells #[uZ R,uZ Z,uZ U,uZ X] 87);refine TM (v:=?v1) ?hr1 rfl ?hR1
    case hr1=>simp[results,Tryz.results165,go_sem,u.c0,u.c1,u.c2,u.c3];rfl
    refine⟨_,rfl,?_,Four.mk O V W T (HF.2 trivial).symm⟩;rw[H0.out];have Y:B<=C:=by have:=H.out;have:=H0.out;omega
    have q1:=(((K.setCell (p:=⟨C,0,none⟩) Y (uZ R)).setCell (p:=⟨C,1,none⟩) Y (uZ Z)).setCell (p:=⟨C,2,none⟩) Y (uZ U)).setCell (p:=⟨C,3,none⟩) Y (uZ X);exact q1.alloc (by simp;omega) _
  ·go_upto_region 1 with fail
   go_cut [12] from 10 to 72 (λc wx=>c=.bool true/\wr=wx)
   case first =>
    obtain⟨J,G,I,F,hf⟩:=id hi;go_wp2_with fail
    all_goals (go_meet;exact⟨rfl,rfl⟩)
   case rest =>
    obtain⟨rfl,rfl⟩:=hcut;have h8:=GO (Ky hz) hP kb hg;clear hz;obtain⟨p0,p1,p2,p3,pf⟩:=id pr;obtain⟨l0,l1,l2,l3,lf⟩:=id lo;obtain⟨J,G,I,F,hf⟩:=id hi;rcases hor with⟨rfl,rfl⟩|⟨o,ho,kt⟩
    ·have hor:bits .or .u64 0 0=0:=dK;go_wp2_with fail
     refine(kA g0 _ _ _ _ ht (Four.mk hp hq hr hs rfl) (Four.mk ha hb hc hd rfl) _).mono ?_;rintro e w1 ⟨v,rfl,f,l,v4,t,rfl,hl,⟨R,Z,U,X,rfl,O,V,W,T,D⟩,N⟩;have i:=(lo.alloc _).call f;have A:=(hi.alloc _).call f;have z:=(pr.alloc _).call f;have j:=(re.alloc _).call f;have u:=(At4.new wr 87 0 0 0 0).call f;have K:Hid (Below B w w1):=(HB.alloc oM _).trans (f.mono (by simp;omega));clear f p0 p1 p2 p3 pf l0 l1 l2 l3 lf J G I F hf lo hi pr re;generalize hm:wr.heap.size=k4 at u z0 z1 z2 z3⊢;clear hm;have m0:B≠k4:=oM;have m1:k1≠k4:=oM;have m2:k2≠k4:=oM;have m3:C≠k4:=oM;have M:Hid (B<k4):=z0;clear z0 z1 z2 z3;have z0:=z.lt;have z1:=i.lt;have z2:=A.lt;have z3:=j.lt;have z4:=u.lt;have E:Hid (g0*val p q r s+val a b c d=l+18446744073709551616*t/\t=val R Z U X):=⟨N.symm,D⟩
     have HL:Hid (_/\_):=h8;clear N D h8 hg;obtain⟨p0,p1,p2,p3,pf⟩:=id z;obtain⟨l0,l1,l2,l3,lf⟩:=id i;obtain⟨J,G,I,F,hf⟩:=id A;obtain⟨t0,t1,t2,t3,tf⟩:=id u;go_wp2;go_region
     go_wp2;obtain⟨q1,q2,q3⟩:=H.out;have Y:=H0.out;subst q1 q2 q3 Y;go_roundg (val l R Z U+top*val X 0 0 0)
     case measure=>rw[B9 E.1 E.2];exact HL.1
     case rel =>
      refine⟨l,R,Z,U,X,0,0,0,⟨?_,?_,?_,?_,?_,hl,O,V,W,T,dC,dC,dC⟩,rfl,?_⟩
      ·have s1:=(K.setCell (p:=⟨w.heap.size+1,0,none⟩) (Y8 _) (uZ l))
       exact(aF (aF (aF s1 (V6 M.out) _ _ _ _) (Y8 _) _ _ _ _) oM _ _ _ _).drew
      ·exact((((z.other S.symm _).other4 m0.symm _ _ _ _).other4 S.symm _ _ _ _).other4 k6.symm _ _ _ _).drew
      ·exact((((i.set0 l).other4 m1.symm _ _ _ _).self4 l R Z U).other4 n12.symm _ _ _ _).drew
      ·exact((((A.other n12 _).other4 m2.symm _ _ _ _).other4 n12 _ _ _ _).self4 X 0 0 0).drew
      ·exact((((j.other Q _).other4 m3.symm _ _ _ _).other4 Q _ _ _ _).other4 kc _ _ _ _).drew
      ·unfold Hid;rw[B9 E.1 E.2,<-HE.out];exact HL.2
    ·go_wp2_with fail
     refine(kA g0 _ _ _ _ ht (Four.mk hp hq hr hs rfl) (Four.mk ha hb hc hd rfl) _).mono ?_;rintro e w1 ⟨v,rfl,f,l,v4,t,rfl,hl,⟨R,Z,U,X,rfl,O,V,W,T,D⟩,N⟩;have i:=(lo.alloc _).call f;have A:=(hi.alloc _).call f;have z:=(pr.alloc _).call f;have j:=(re.alloc _).call f;have u:=(At4.new wr 87 0 0 0 0).call f;have K:Hid (Below B w w1):=(HB.alloc oM _).trans (f.mono (by simp;omega));clear f p0 p1 p2 p3 pf l0 l1 l2 l3 lf J G I F hf lo hi pr re;generalize hm:wr.heap.size=k4 at u z0 z1 z2 z3⊢;clear hm;have m0:B≠k4:=oM;have m1:k1≠k4:=oM;have m2:k2≠k4:=oM;have m3:C≠k4:=oM;have M:Hid (B<k4):=z0;clear z0 z1 z2 z3;have ki:Hid (l+18446744073709551616*val R Z U X=g0*val p q r s+val a b c d):=by unfold Hid;rw[<-D];exact N
     have HL:Hid (_/\_):=h8;clear N D h8 hg;have z0:=z.lt;have z1:=i.lt;have z2:=A.lt;have z3:=j.lt;have z4:=u.lt;obtain⟨p0,p1,p2,p3,pf⟩:=id z;obtain⟨l0,l1,l2,l3,lf⟩:=id i;obtain⟨J,G,I,F,hf⟩:=id A;obtain⟨t0,t1,t2,t3,tf⟩:=id u;go_wp2_with fail
     refine(kA g1 _ _ _ _ hw (Four.mk hp hq hr hs rfl) (Four.mk O V W T rfl) _).mono ?_;rintro e w2 ⟨v,rfl,L,l',v5,t,rfl,ko,⟨a2,b2,c2,d2,rfl,kp,k8,kj,km,D⟩,N⟩;have h9:=((i.set0 l).other4 m1.symm _ _ _ _).call L;have h5:=((A.other n12 _).other4 m2.symm _ _ _ _).call L;have h6:=((z.other S.symm _).other4 m0.symm _ _ _ _).call L;have hh:=((j.other Q _).other4 m3.symm _ _ _ _).call L;have h7:=((u.other m1 _).self4 R Z U X).call L;have k5:Hid (Below B w w2):=((aF (K.setCell (p:=⟨k1,0,none⟩) kf.out _) (V6 M.out) _ _ _ _).trans (L.mono (by simp;omega)))
     clear L p0 p1 p2 p3 pf l0 l1 l2 l3 lf J G I F hf t0 t1 t2 t3 tf i A z j u K z0 z1 z2 z3 z4;have kg:Hid (l'+18446744073709551616*val a2 b2 c2 d2=g1*val p q r s+val R Z U X):=by unfold Hid;rw[<-D];exact N
     clear N D;have z0:=h6.lt;have z1:=h9.lt;have z2:=h5.lt;have z3:=hh.lt;have z4:=h7.lt;obtain⟨p0,p1,p2,p3,pf⟩:=id h6;obtain⟨l0,l1,l2,l3,lf⟩:=id h9;obtain⟨J,G,I,F,hf⟩:=id h5;obtain⟨t0,t1,t2,t3,tf⟩:=id h7;go_wp2_with fail
     refine(kA g2 _ _ _ _ k9 (Four.mk hp hq hr hs rfl) (Four.mk kp k8 kj km rfl) _).mono ?_;rintro e w3 ⟨v,rfl,E,h4,v6,t,rfl,hu,⟨a3,b3,c3,d3,rfl,kq,kd,kn,kl,D⟩,N⟩;have hj:=((h9.set1 l').other4 m1.symm _ _ _ _).call E;have hn:=((h5.other n12 _).other4 m2.symm _ _ _ _).call E;have k7:=((h6.other S.symm _).other4 m0.symm _ _ _ _).call E;have ka:=((hh.other Q _).other4 m3.symm _ _ _ _).call E;have ke:=((h7.other m1 _).self4 a2 b2 c2 d2).call E;have kk:Hid (Below B w w3):=((aF (k5.setCell (p:=⟨k1,1,none⟩) kf.out _) (V6 M.out) _ _ _ _).trans (E.mono (by simp;omega)))
     clear E p0 p1 p2 p3 pf l0 l1 l2 l3 lf J G I F hf t0 t1 t2 t3 tf h9 h5 h6 hh h7 k5 z0 z1 z2 z3 z4;have kh:Hid (h4+18446744073709551616*val a3 b3 c3 d3=g2*val p q r s+val a2 b2 c2 d2):=by unfold Hid;rw[<-D];exact N
     clear N D;have z0:=k7.lt;have z1:=hj.lt;have z2:=hn.lt;have z3:=ka.lt;have z4:=ke.lt;obtain⟨l0,l1,l2,l3,lf⟩:=id hj;obtain⟨J,G,I,F,hf⟩:=id hn;obtain⟨t0,t1,t2,t3,tf⟩:=id ke;go_wp2;go_region
     go_wp2;clear l0 l1 l2 l3 lf J G I F hf t0 t1 t2 t3 tf;obtain⟨q1,q2,q3⟩:=H.out;have Y:=H0.out;subst q1 q2 q3 Y;go_roundg (val l l' h4 a3+top*val b3 c3 d3 0)
     case measure=>rw[wO ki.out kg.out kh.out];exact HL.1
     case rel =>
      refine⟨l,l',h4,a3,b3,c3,d3,0,⟨?_,?_,?_,?_,?_,hl,ko,hu,kq,kd,kn,kl,dC⟩,rfl,?_⟩
      ·have s1:=(kk.setCell (p:=⟨w.heap.size+1,2,none⟩) (Y8 _) (uZ h4))
       have s2:=(aF s1 (V6 M.out) (uZ a3) (uZ b3) (uZ c3) (uZ d3))
       exact(aF (s2.setCell (p:=⟨w.heap.size+1,3,none⟩) (Y8 _) (uZ a3)) oM _ _ _ _).drew
      ·exact((((k7.other S.symm _).other4 m0.symm _ _ _ _).other S.symm _).other4 k6.symm _ _ _ _).drew
      ·exact((((hj.set2 h4).other4 m1.symm _ _ _ _).set3 a3).other4 n12.symm _ _ _ _).drew
      ·exact((((hn.other n12 _).other4 m2.symm _ _ _ _).other n12 _).self4 b3 c3 d3 0).drew
      ·exact((((ka.other Q _).other4 m3.symm _ _ _ _).other Q _).other4 kc _ _ _ _).drew
      ·unfold Hid;rw[wO ki.out kg.out kh.out,<-HE.out];exact HL.2
end
end Go.Proofs.YtjnchldodncnbaaGreat
