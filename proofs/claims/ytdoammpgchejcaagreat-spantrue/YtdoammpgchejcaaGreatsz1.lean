import Derived.KernelRfl
import Derived.Below
import Derived.Deep.MidRow
import Derived.WalkKit
import Derived.Test.YtdoammpgchejcaaGreatRows
import Derived.Lib.Mul64
import Derived.Laws.Bits64b
import Derived.Laws.Externs
import Derived.Sort.Row
import Derived.Deep.LoopGhost
import Derived.Deep.QuietTactic
import Derived.StillTailTactics
import Derived.BigRegion
import Derived.BigQuiet
import Derived.WalkSpells
import Derived.WalkLawsBesides
import Derived.OrdersHeld
import Derived.Orders
import Derived.Deep.CutRange
import Derived.Deep.Draws
set_option linter.unusedVariables false
set_option linter.constructorNameAsVariable false
set_option linter.unusedSimpArgs false
set_option maxRecDepth 1000000
set_option maxHeartbeats 4000000
namespace Go.Proofs.YtdoammpgchejcaaGreat
theorem yCj{c:Prop}{h:Decidable c}(hc:c){α:Sort _}{t e:α}:ite c t e=t:=if_pos hc
theorem yCk{c:Prop}{h:Decidable c}(hc:¬c){α:Sort _}{t e:α}:ite c t e=e:=if_neg hc
theorem yCl:True:=True.intro
open _root_.Array renaming all_eq_true'->WW,any_eq_true'->XN,getD_eq_getD_getElem?->UH,getElem?_eq_getElem->UZ,getElem?_eq_none->WM,getElem?_eq_some_iff->UY,getElem?_replicate->Yg,getElem?_setIfInBounds->WA,getElem?_toList->Vo,mapM_eq_mapM_toList->Xz,replicate->UI,size_setIfInBounds->VE
open _root_.Bool renaming and_eq_true->UK,or_false->WS,true_or->X9
open _root_.Classical renaming byContradiction->Ws
open _root_.Fin renaming ext->X8,val->yA8,val_mul->XI
open _root_.Go renaming Calls->UG,Exit->Yo,FuncId->Xp,Oper->Vj,Operand->XF,Program->VC,Tmp->WB,TypeId->U7,Value->Us,World->Uq,bodyPost_ret->UD,execOp->U4,run_loadVar_mid->Ye,undef->WO
open _root_.Go.Code renaming region->V3
open _root_.Go.Instr renaming alloc->yBG,indexAt->Vk,loadAt->ZB,sliceAt->Xm,storeAt->Yw,sureAddr->X4
open _root_.Go.IntKind renaming u64->Vn,wrap_u64->XT
open _root_.Go.Lib renaming half_mul_le->ZU
open _root_.Go.Next renaming value->Xo
open _root_.Go.Oper renaming upon_enter->WX,wp->VS
open _root_.Go.Region renaming binds->VO,ready->U6,wanted->V1
open _root_.Go.Result renaming andThen->ZT
open _root_.Go.RowKit renaming Below->yAr
open _root_.Go.Sem renaming run_bind->UU
open _root_.Go.Value renaming pointer->yBt,slice->Vv
open _root_.Go.World renaming block_lt_of_cell?->Xn,cell?->VX,cell?_alloc_new->Vb,cell?_of_block->UV,cell?_setCell_other->UT,cell?_setCell_same->VU,frozen?_alloc_new->Wu,frozen?_setCell->VK,setCells->YJ,size_alloc->UA
open _root_.Int renaming add_zero->ZR,eq_ofNat_of_zero_le->yAk,natCast_zero->WG
open _root_.List renaming all_eq_true->U9,append_nil->Xt,countP_cons->yA3,find?_some->Yd,getD_eq_getElem?_getD->VP,getElem?_append_left->US,getElem?_append_right->U0,getElem?_cons_succ->U8,getElem?_cons_zero->Ve,getElem?_drop->Zp,getElem?_eq_getElem->UF,getElem?_eq_none->Ww,getElem?_eq_some_iff->UE,getElem?_map->Vy,getElem?_of_mem->WI,getElem?_take->Wz,length_append->Uz,length_cons->Vh,length_drop->ZI,length_map->UP,length_nil->WF,length_take->WE,mapM_cons->YP,mapM_nil->YZ,map_append->V9,map_cons->XU,map_inj_left->Zx,mem_cons->VW,mem_cons_of_mem->Va,mem_cons_self->Vt,mem_of_find?_eq_some->WN,mem_of_getElem?->VI,mem_range->VZ,mem_zipIdx_iff_getElem?->YA,not_mem_nil->UX,range->VF,size_toArray->VB
open _root_.Nat renaming Coprime->ZQ,add_mod->Zn,add_mul->XE,add_mul_mod_self_left->YQ,add_sub_cancel_left->WJ,add_zero->XA,ble_eq->yB5,dvd_of_mod_eq_zero->XL,dvd_trans->Zm,eq_zero_of_dvd_of_lt->YV,gcd->yAX,gcd_dvd_left->ZM,gcd_dvd_right->ZD,le_of_ble_eq_true->VQ,le_of_dvd->Yc,le_of_lt->XJ,le_refl->Uv,le_succ->Zl,le_total->yBK,le_trans->UB,lt_of_lt_of_le->Uw,lt_of_succ_le->Xi,mod_add_mod->yBn,mod_eq_of_lt->UR,mod_eq_sub_mod->yAL,mod_eq_zero_of_dvd->Yq,mod_lt->V4,mod_mod->yBW,mod_mod_of_dvd->Zs,mod_mul_mod->yBm,mul_add->Yz,mul_assoc->X0,mul_comm->Vu,mul_le_mul->WP,mul_left_comm->ZC,mul_mod->Xy,mul_one->XQ,one_mul->Xh,pow_add->Yp,pow_dvd_pow->yBk,pow_mod->yAw,pow_mul->ZO,pow_one->YR,pow_succ->V6,pow_zero->YN,strongRecOn->yBj,zero_add->UC,zero_le->Wx,zero_mul->yBJ,zero_pow->yBI
open _root_.Nat.Coprime renaming mul_dvd_of_dvd_of_dvd->WU
open _root_.Option renaming isSome_iff_exists->Vq,map_eq_some_iff->Ux,some->UN
open _root_.Or renaming inl->U3,inr->UW
open _root_.Prod renaming mk->V5
open Go.Proofs.Tryz
open Go.RowKit Go.Sort Go.Deep
abbrev uZ(n:Int):Us:=.int .u64 n
abbrev iZ(n:Int):Us:=.int .i64 n
abbrev aZ(k:Nat):Go.Addr:=⟨k,0,none⟩
abbrev jZ(k:Nat):Us:=.pointer (some ⟨k,0,none⟩)
abbrev sZ(k n c:Nat):Us:=.slice (some ⟨k,0,none⟩) n c
abbrev oZ(k o:Nat):Us:=.pointer (some ⟨k,o,none⟩)
section
variable {P:Nat}[NeZero P]{N:Nat}
theorem oM{p:Prop}(h:p:=by omega):p:=h
theorem kR{p:Prop}(h:p:=by kernel_rfl):p:=h
theorem dC{p:Prop}(h:p:=by decide):p:=h
theorem dK{p:Prop}(h:p:=by decide +kernel):p:=h
end
section
theorem hE{α:Sort _}(x:α):∃y,Hid (x=y):=⟨x,rfl⟩
theorem mk1{p:Prop}(h:p):Hid p:=h
theorem mk2{p0 p1:Prop}(b:p0)(k:p1):Hid (p0/\p1):=⟨b,k⟩
theorem mk3{p0 p1 p2:Prop}(c:p0)(b:p1)(k:p2):Hid (p0/\p1/\p2):=⟨c,b,k⟩
theorem mk4{p0 p1 p2 k:Prop}(e:p0)(d:p1)(b:p2)(c:k):Hid (p0/\p1/\p2/\k):=⟨e,d,b,c⟩
theorem mk5{p0 p1 p2 k b:Prop}(g:p0)(f:p1)(c:p2)(e:k)(d:b):Hid (p0/\p1/\p2/\k/\b):=⟨g,f,c,e,d⟩
theorem mk6{p0 p1 p2 k c b:Prop}(j:p0)(i:p1)(d:p2)(g:k)(f:c)(e:b):Hid (p0/\p1/\p2/\k/\c/\b):=⟨j,i,d,g,f,e⟩
theorem mk7{p0 p1 p2 k c b p6:Prop}(d:p0)(l:p1)(f:p2)(j:k)(i:c)(g:b)(e:p6):Hid (p0/\p1/\p2/\k/\c/\b/\p6):=⟨d,l,f,j,i,g,e⟩
theorem mk8{p0 p1 p2 k c b p6 p7:Prop}(d:p0)(m:p1)(f:p2)(j:k)(i:c)(g:b)(e:p6)(l:p7):Hid (p0/\p1/\p2/\k/\c/\b/\p6/\p7):=⟨d,m,f,j,i,g,e,l⟩
section
variable {P:VC}{ops:Array Vj}{rest:List Vj}{op:Vj}{a:Act}{w w':Uq}{Q:Yo->Act->Uq->Prop}{T:U7}{y:XF}{g o:Nat}{cs:List Us}{v:Us}{ob:Obj}
theorem stR(t:WB)(d:Hid (w.setCells g o cs=w'))(hv:Hid (.agg cs.toArray=v))(th:w.there g o cs.toArray.size)(b:(P.info? T).map (·.size)=some cs.toArray.size)(e:cs.toArray.all (·.oneCell')=true)(h:wpList P ops Q rest (a.put op.dst WO) w')(k:op.guard=none:=by rfl)(ho:op.op=.store T (.tmp t) y:=by rfl)(hx:a.eval (.tmp t)=oZ g o:=by rfl)(c:a.eval y=v:=by rfl):wpList P ops Q (op :: rest) a w:=
 wpList_store_mid k T (.tmp t) y ho g o cs.toArray hx (c.trans hv.out.symm) th b e (by rw[show cs.toArray.toList=cs from rfl,d.out];exact h)
theorem ldR(t:WB)(e:w.rangeAt g o cs)(hv:Hid (.agg cs.toArray=v))(b:(P.underlying T).map (·.isRow)=some true)(c:(P.info? T).map (·.size)=some cs.length)(h:wpList P ops Q rest (a.put op.dst v) w)(k:op.guard=none:=by rfl)(ho:op.op=.load T (.tmp t):=by rfl)(hx:a.eval (.tmp t)=oZ g o:=by rfl):wpList P ops Q (op :: rest) a w:=by
 obtain⟨d,i,f⟩:=Ux.1 b;exact wpList_load_mid k T (.tmp t) ho g o hx cs d e i f c (by rw[hv.out];exact h)
theorem alR(t:WB)(e:Hid (w.heap.size=g))(d:Hid (w.alloc ob=w'))(h:wpList P ops Q rest (a.put op.dst (jZ g)) w')(hd:op.dst=some t:=by rfl)(k:op.guard=none:=by rfl)(c:(U4 a.eval op).run P w=.ok (.value (jZ w.heap.size)) (w.alloc ob):=by kernel_rfl):wpList P ops Q (op :: rest) a w:=
 wpList_plain k λK b=>by
  unfold VS;rw[c,e.out,d.out];exact b _ _ h
end
end
section
variable {P:Nat}[NeZero P]{N:Nat}
def val(a b c d:Nat):Nat:=a+18446744073709551616*b+340282366920938463463374607431768211456*c+6277101735386680763835789423207666416102355444464034512896*d
def Four(v:Us)(n:Nat):Prop:=∃a b c d:Nat,v=.agg #[uZ a,uZ b,uZ c,uZ d] /\
 a<18446744073709551616/\b<18446744073709551616/\c<18446744073709551616/\d<18446744073709551616/\n=val a b c d
def top:Nat:=115792089237316195423570985008687907853269984665640564039457584007913129639936
theorem mO{a b c d:Nat}(f:a<18446744073709551616)(e:b<18446744073709551616)(k:c<18446744073709551616)(hd:d<18446744073709551616):val a b c d<top:=by
 unfold val top;omega
theorem Four.lt{v:Us}{n:Nat}(h:Four v n):n<top:=by
 obtain⟨a,b,c,d,-,f,e,k,hd,rfl⟩:=h;exact mO f e k hd
theorem val_inj{a b c d p q r s:Nat}(g:a<18446744073709551616)(f:b<18446744073709551616)(k:c<18446744073709551616)
 (j:p<18446744073709551616) (i:q<18446744073709551616) (e:r<18446744073709551616) (h:val a b c d=val p q r s):a=p/\b=q/\c=r/\d=s:=by
 unfold val at h;omega
theorem Four.inj{v k:Us}{n:Nat}(h:Four v n)(j:Four k n):v=k:=by
 obtain⟨a,b,c,d,rfl,m,f,o,hd,e⟩:=h;obtain⟨p,q,r,s,rfl,l,g,i,t,e'⟩:=j;obtain⟨rfl,rfl,rfl,rfl⟩:=val_inj m f o l g i (e.symm.trans e');rfl
theorem Four.num{v:Us}{n m:Nat}(h:Four v n)(k:Four v m):n=m:=by
 obtain⟨a,b,c,d,rfl,o,f,t,hd,rfl⟩:=h;obtain⟨p,q,r,s,e,l,g,j,i,rfl⟩:=k;simp only[Value.agg.injEq,Array.mk.injEq,List.cons.injEq,Value.int.injEq,true_and,and_true,Int.ofNat_inj]at e;obtain⟨rfl,rfl,rfl,rfl⟩:=e;rfl
theorem Four.mk{a b c d n:Nat}(g:a<18446744073709551616)(f:b<18446744073709551616)(k:c<18446744073709551616)(hd:d<18446744073709551616)(e:n=val a b c d):
 Four (.agg #[uZ a,uZ b,uZ c,uZ d]) n:=⟨a,b,c,d,rfl,g,f,k,hd,e⟩
theorem ret_int{k:IntKind}{a b:Int}(h:a=b):Ending.returned (.int k a)=.returned (.int k b):=by rw[h]
theorem mixed:prog.follows .mixedOrders=true:=kR
theorem FY(x y c:Nat)(hx:x<18446744073709551616)(d:y<18446744073709551616)(b:c<=1):
 ∃s k:Nat,(∀w,(callFunc 175 #[uZ x,uZ y,uZ c]).run prog w=.ok (.value (.tuple #[uZ s,uZ k])) w) /\
  s<18446744073709551616/\k<=1/\s+18446744073709551616*k=x+y+c:=by
 refine⟨(x+y+c)%18446744073709551616,(x+y+c)/18446744073709551616,λw=>?_,oM,oM,oM⟩;rw[run_callFunc_extern func175 kR kR kR (e:=add64Entry) kR,run_add64 x y c oM oM oM oM];simp only[ZT]
 congr 5<;>omega
theorem Ew(x y c:Nat)(hx:x<18446744073709551616)(d:y<18446744073709551616)(b:c<=1):
 ∃s k:Nat,(∀w,(callFunc 167 #[uZ x,uZ y,uZ c]).run prog w=.ok (.value (.tuple #[uZ s,uZ k])) w) /\
  s<18446744073709551616/\k<=1/\s+y+c=x+18446744073709551616*k:=by
 refine⟨(x+18446744073709551616-y-c)%18446744073709551616,if x<y+c then 1 else 0,λw=>?_,oM,by split<;>omega,by split<;>omega⟩;rw[run_callFunc_extern func167 kR kR kR (e:=(Extern.MathBitsCarry.rows[1]).2) kR];have:c=0\/c=1:=oM;rcases this with rfl|rfl<;>rfl
theorem yT(x y:Nat)(hx:x<18446744073709551616)(b:y<18446744073709551616):
 ∃s k:Nat,(∀w,(callFunc 175 #[uZ x,uZ y,uZ 0]).run prog w=.ok (.value (.tuple #[uZ s,uZ k])) w) /\
  s<18446744073709551616/\k<=1/\s+18446744073709551616*k=x+y:=FY x y 0 hx b (Wx 1)
theorem OA(x y:Nat)(hx:x<18446744073709551616)(b:y<18446744073709551616):
 ∃s k:Nat,(∀w,(callFunc 167 #[uZ x,uZ y,uZ 0]).run prog w=.ok (.value (.tuple #[uZ s,uZ k])) w) /\
  s<18446744073709551616/\k<=1/\s+y=x+18446744073709551616*k:=Ew x y 0 hx b (Wx 1)
theorem maskN(a:Nat)(k:a<18446744073709551616):bits .and .u64 (a:Int) 4294967295=((a%4294967296:Nat):Int):=by
 have h:=bits_and_u64_nat a 4294967295 k oM;rw[show a &&& 4294967295=a%4294967296 from Nat.and_two_pow_sub_one_eq_mod a 32]at h;exact h
theorem divN(a:Nat):(a:Int)/4294967296=((a/4294967296:Nat):Int):=oM
theorem mulN(a b:Nat):(a:Int)*(b:Int)=((a*b:Nat):Int):=(Int.natCast_mul a b).symm
theorem addN(a b:Nat):(a:Int)+(b:Int)=((a+b:Nat):Int):=(Int.natCast_add a b).symm
theorem wrapN(a:Nat)(k:a<18446744073709551616):Vn.wrap (a:Int)=(a:Int):=by rw[XT];omega
theorem wrapM(a:Nat):Vn.wrap (a:Int)=((a%18446744073709551616:Nat):Int):=by rw[XT];omega
theorem Pj(x y:Nat)(hx:x<18446744073709551616)(d:y<18446744073709551616)(w:Uq):
 UG prog 174 #[uZ x,uZ y] w λe w'=>e=.returned (.tuple #[uZ ((x*y/18446744073709551616:Nat):Int),uZ ((x*y%18446744073709551616:Nat):Int)])/\w'=w:=by
 obtain⟨g,f,bw,k⟩:=Lib.mul64_hi x y hx d;have m:=ZU (a:=x/4294967296) (b:=y/4294967296) oM oM;have o:=ZU (a:=x/4294967296) (b:=y%4294967296) oM oM;have n:=ZU (a:=x%4294967296) (b:=y/4294967296) oM oM;have b1:x/4294967296*(y/4294967296)<18446744073709551616:=oM;have i:x/4294967296*(y%4294967296)<18446744073709551616:=oM;have j:x%4294967296*(y/4294967296)<18446744073709551616:=oM;have c:x/4294967296*(y/4294967296)+(x/4294967296*(y%4294967296)+x%4294967296*(y%4294967296)/4294967296)/4294967296<18446744073709551616:=oM;have l:x/4294967296*(y/4294967296)+(x/4294967296*(y%4294967296)+x%4294967296*(y%4294967296)/4294967296)/4294967296+((x/4294967296*(y%4294967296)+x%4294967296*(y%4294967296)/4294967296)%4294967296+x%4294967296*(y/4294967296))/4294967296<18446744073709551616:=oM;go_enter func174,ntmps174;go_wp2;simp only[maskN x hx,maskN y d,divN,mulN,addN,wrapN _ g,wrapN _ i,wrapN _ f,maskN _ f,wrapN _ j,wrapN _ bw,wrapN _ b1,wrapN _ c,wrapN _ l,wrapM (x*y)];rw[k]
 go_ret2
 exact⟨rfl,rfl⟩
theorem I4(x y:Nat)(hx:x<18446744073709551616)(b:y<18446744073709551616):
 ∃h l:Nat,(∀w,UG prog 174 #[uZ x,uZ y] w λe w'=>e=.returned (.tuple #[uZ h,uZ l])/\w'=w) /\
  h<18446744073709551616/\l<18446744073709551616/\l+18446744073709551616*h=x*y:=by
 have k:x*y<=18446744073709551615*18446744073709551615:=WP oM oM;exact⟨_,_,λw=>Pj x y hx b w,oM,oM,oM⟩
theorem Rq(x y:Nat)(hx:x<18446744073709551616)(d:y<18446744073709551616)(w:Uq):
 UG prog 174 #[uZ x,uZ y] w λe w'=>w'=w/\∃h l:Nat,e=.returned (.tuple #[uZ h,uZ l]) /\
  h<18446744073709551616/\l<18446744073709551616/\l+18446744073709551616*h=x*y:=by
 obtain⟨h,l,b,g,c,f⟩:=I4 x y hx d;exact(b w).mono λe w' k=>⟨k.2,h,l,k.1,g,c,f⟩
theorem S8(x y o c:Nat)(hx:x<18446744073709551616)(i:y<18446744073709551616)(ho:o<18446744073709551616)(r:c<18446744073709551616):
 ∃h l s1 k s2 b g d:Nat,(∀w,UG prog 174 #[uZ x,uZ y] w λe w'=>e=.returned (.tuple #[uZ h,uZ l])/\w'=w) /\
  (∀w,(callFunc 175 #[uZ l,uZ c,uZ 0]).run prog w=.ok (.value (.tuple #[uZ s1,uZ k])) w) /\
  (∀w,(callFunc 175 #[uZ o,uZ s1,uZ 0]).run prog w=.ok (.value (.tuple #[uZ s2,uZ b])) w) /\
  Vn.wrap ((h:Int)+(k:Int))=(g:Int)/\Vn.wrap ((g:Int)+(b:Int))=(d:Int) /\
  s2<18446744073709551616/\d<18446744073709551616/\s2+18446744073709551616*d=x*y+o+c:=by
 have j:x*y<=18446744073709551615*18446744073709551615:=WP oM oM;obtain⟨h,l,q,hh,n,u⟩:=I4 x y hx i;obtain⟨s1,k,s,d,m,t⟩:=yT l c n r;obtain⟨s2,b,a2,f,p,e3⟩:=yT o s1 ho d;refine⟨h,l,s1,k,s2,b,h+k,h+k+b,q,s,a2,?_,?_,f,oM,oM⟩
 ·rw[addN];exact wrapN _ oM
 ·rw[addN];exact wrapN _ oM
theorem rK(x y o c:Nat)(hx:x<18446744073709551616)(f:y<18446744073709551616)(ho:o<18446744073709551616)(q:c<18446744073709551616)(w:Uq):
 UG prog 243 #[uZ x,uZ y,uZ o,uZ c] w λe w'=>w'=w/\∃l h:Nat,e=.returned (.tuple #[uZ l,uZ h]) /\
  h<18446744073709551616/\l<18446744073709551616/\l+18446744073709551616*h=x*y+o+c:=by
 have i:x*y<=18446744073709551615*18446744073709551615:=WP oM oM;go_enter func243,ntmps243;go_wp2_with fail
 refine(Rq x y hx f _).mono ?_;rintro e g ⟨rfl,h,l,rfl,hh,n,t⟩;obtain⟨s1,k,u,d,j,r⟩:=yT l o n ho;obtain⟨s2,b,a2,m,p,e3⟩:=yT s1 c d q;have g:Vn.wrap ((h:Int)+(k:Int))=((h+k:Nat):Int):=by rw[addN];exact wrapN _ oM
 have s:Vn.wrap (((h+k:Nat):Int)+(b:Int))=((h+k+b:Nat):Int):=by rw[addN];exact wrapN _ oM
 go_wp2
 go_ret2
 refine⟨rfl,s2,h+k+b,?_,oM,oM,oM⟩;rfl
def Ret(Q:Us->Uq->Prop)(e:Ending)(w:Uq):Prop:=∃v,e=.returned v/\Q v w
abbrev rZ(w:Uq)(Q:Us->Uq->Prop):Go.Ending->Uq->Prop:=Ret λe w'=>yAr w.heap.size w w'/\Q e w'
abbrev kZ(w W:Uq):Prop:=yAr w.heap.size w W
theorem aC(w:Uq)(k:Obj):kZ w (w.alloc k):=(Below.refl _ _).alloc (Uv _) k
theorem below2(w:Uq)(k b:Obj):kZ w ((w.alloc k).alloc b):=(aC w k).alloc (by simp) b
theorem below3(w:Uq)(k c b:Obj):kZ w (((w.alloc k).alloc c).alloc b):=(below2 w k c).alloc (by simp;omega) b
theorem Ec(w:Uq)(k d c b:Obj):kZ w ((((w.alloc k).alloc d).alloc c).alloc b):=(below3 w k d c).alloc (by simp;omega) b
theorem qV(x y:Us)(m n:Nat)(hx:Four x m)(B:Four y n)(w:Uq):
 UG prog 126 #[x,y] w (rZ w λe w'=>∃(v:Us) (s k:Nat),e=.tuple #[v,uZ k]/\Four v s/\k<=1/\s+top*k=m+n):=by
 obtain⟨a,b,c,d,rfl,J,C,K,hd,E⟩:=hx;obtain⟨p,q,r,s,rfl,H,D,hr,F,M⟩:=B;obtain⟨s0,N,a0,t,l,O⟩:=yT a p J H;obtain⟨s1,G,L,j,i,Q⟩:=FY b q N C D l;obtain⟨s2,I,a2,o,u,P⟩:=FY c r G K hr i;obtain⟨s3,z,A,f,g,e3⟩:=FY d s I hd F u;have hv:val s0 s1 s2 s3+top*z=m+n:=by rw[E,M];unfold val top;omega
 go_enter func126,ntmps126;go_wp2_with (first|simp only[a0]|simp only[L]|simp only[a2]|simp only[A])
 refine UD (v:=?v) ?hr rfl ?hR
 case hr=>simp[results,Tryz.results126,go_sem];rfl
 exact⟨_,rfl,below3 _ _ _ _,_,_,z,rfl,Four.mk t j o f rfl,g,hv⟩
theorem sL(x y:Us)(m n:Nat)(hx:Four x m)(B:Four y n)(w:Uq):
 UG prog 239 #[x,y] w (rZ w λe w'=>∃(v:Us) (s k:Nat),e=.tuple #[v,uZ k]/\Four v s/\k<=1/\s+n=m+top*k):=by
 obtain⟨a,b,c,d,rfl,J,C,K,hd,E⟩:=hx;obtain⟨p,q,r,s,rfl,H,D,hr,F,M⟩:=B;obtain⟨s0,N,a0,t,l,O⟩:=OA a p J H;obtain⟨s1,G,L,j,i,Q⟩:=Ew b q N C D l;obtain⟨s2,I,a2,o,u,P⟩:=Ew c r G K hr i;obtain⟨s3,z,A,f,g,e3⟩:=Ew d s I hd F u;have hv:val s0 s1 s2 s3+n=m+top*z:=by rw[E,M];unfold val top;omega
 go_enter func239,ntmps239;go_wp2_with (first|simp only[a0]|simp only[L]|simp only[a2]|simp only[A])
 refine UD (v:=?v) ?hr rfl ?hR
 case hr=>simp[results,Tryz.results239,go_sem];rfl
 exact⟨_,rfl,below3 _ _ _ _,_,_,z,rfl,Four.mk t j o f rfl,g,hv⟩
theorem jN(x:Us)(m:Nat)(hx:Four x m)(w:Uq):
 UG prog 127 #[x] w (rZ w λe w'=>e=x):=by
 obtain⟨a,b,c,d,rfl,i,f,k,hd,g⟩:=hx;go_enter func127,ntmps127;go_wp2;refine UD (v:=?v) ?hr rfl ?hR
 case hr=>simp[results,Tryz.results127,go_sem];rfl
 exact⟨_,rfl,below2 _ _ _,rfl⟩
theorem jI(x:Us)(m:Nat)(hx:Four x m)(w:Uq):
 UG prog 214 #[x] w (rZ w λe w'=>e=x):=by
 obtain⟨a,b,c,d,rfl,i,f,k,hd,g⟩:=hx;go_enter func214,ntmps214;go_wp2;refine UD (v:=?v) ?hr rfl ?hR
 case hr=>simp[results,Tryz.results214,go_sem];rfl
 exact⟨_,rfl,below2 _ _ _,rfl⟩
theorem ET(x a b c d:Nat):x*val a b c d=val (x*a) (x*b) (x*c) (x*d):=by
 unfold val;rw[Yz,Yz,Yz,ZC x _ b,ZC x _ c,ZC x _ d]
theorem LO{x a b c d p q r s e i f k g o j l m n:Nat}(t:m=val a b c d)(u:n=val p q r s)
 (v:e+18446744073709551616*g=x*a+p+0) (y:i+18446744073709551616*o=x*b+q+g)
 (w:f+18446744073709551616*j=x*c+r+o) (e3:k+18446744073709551616*l=x*d+s+j) :
 e+18446744073709551616*val i f k l=x*m+n:=by
 rw[t,u,ET x a b c d];unfold val;omega
theorem jX(x:Nat)(y z:Us)(m n:Nat)(hx:x<18446744073709551616)(B:Four y m)(N:Four z n)(w:Uq):
 UG prog 234 #[uZ x,y,z] w (rZ w λe w'=>∃(l:Nat) (v:Us) (s:Nat),e=.tuple #[uZ l,v]/\l<18446744073709551616/\Four v s/\l+18446744073709551616*s=x*m+n):=by
 obtain⟨a,b,c,d,rfl,M,C,P,hd,F⟩:=B;obtain⟨p,q,r,s,rfl,I,E,hr,G,Q⟩:=N;go_enter func234,ntmps234;go_wp2_with fail
 refine(rK x a p 0 hx M I dC _).mono ?_;rintro e i ⟨rfl,D,H,rfl,k,f,J⟩;go_wp2_with fail
 refine(rK x b q H hx C E k _).mono ?_;rintro e i ⟨rfl,U,R,rfl,u,t,O⟩;go_wp2_with fail
 refine(rK x c r R hx P hr u _).mono ?_;rintro e i ⟨rfl,T,L,rfl,g,j,K⟩;go_wp2_with fail
 refine(rK x d s L hx hd G g _).mono ?_;rintro e i ⟨rfl,S,V,rfl,o,A,e3⟩;go_wp2;refine UD (v:=?v) ?hr rfl ?hR
 case hr=>simp[results,Tryz.results234,go_sem];rfl
 exact⟨_,rfl,below3 _ _ _ _,D,_,_,rfl,f,Four.mk t j A o rfl,LO F Q J O K e3⟩
end
namespace RG
inductive SV where
 | v (x:Us)
 | p (b o:Nat)
 | s (b n c:Nat)
 | t (b n c:Nat) (y:Us)
def SV.at(μ:Nat->Nat):SV->Us
 | .v x=>x
 | .p b o=>.pointer (some ⟨μ b,o,none⟩)
 | .s b n c=>.slice (some ⟨μ b,0,none⟩) n c
 | .t b n c y=>.tuple #[.slice (some ⟨μ b,0,none⟩) n c,y]
def SV.blk:SV->Option Nat
 | .v _=>none
 | .p b _=>some b
 | .s b _ _=>some b
 | .t b _ _ _=>some b
theorem SV.at_congr{μ ν:Nat->Nat}{s:SV}(h:∀b,s.blk=some b->μ b=ν b):s.at μ=s.at ν:=by
 cases s with
 | v x=>rfl
 | p b o=>show yBt (some ⟨μ b,o,none⟩)=.pointer (some ⟨ν b,o,none⟩);rw[h b rfl]
 | s b n c=>show Vv (some ⟨μ b,0,none⟩) n c=.slice (some ⟨ν b,0,none⟩) n c;rw[h b rfl]
 | t b n c y=>show Value.tuple #[.slice (some ⟨μ b,0,none⟩) n c,y]=.tuple #[.slice (some ⟨ν b,0,none⟩) n c,y];rw[h b rfl]
inductive Kind where
 | stay
 | pass
 | call
 | make (b:Nat)
 | put (b:Nat)
structure It where
 dst:Option WB
 need:List (WB × Nat)
 out:SV
 kind:Kind
structure Bl where
 before:List Us
 after:List Us
 al:Option Nat
 st:Option Nat
def on(L:Array Bool)(i:Nat):Bool:=L.getD i false
def Bl.live(e:Bl)(L:Array Bool):Bool:=(e.al.map (on L)).getD true
def Bl.put(e:Bl)(L:Array Bool):Bool:=(e.st.map (on L)).getD false
def Bl.now(e:Bl)(L:Array Bool):List Us:=if e.put L=true then e.after else e.before
theorem eC{L:Array Bool}{i j:Nat}(h:i<L.size):on (L.setIfInBounds i true) j=(on L j || i == j):=by
 unfold on;simp only[UH,WA];by_cases k:i=j
 ·subst k;simp[h]
 ·simp[k]
theorem iC{e:Bl}{L:Array Bool}{i:Nat}(h:i<L.size):e.live (L.setIfInBounds i true)=(e.live L || e.al == some i):=by
 unfold Bl.live;cases d:e.al with
 | none=>rfl
 | some j =>
  show on _ j=(on L j || _);rw[eC h];by_cases k:i=j
  ·subst k;simp
  ·have c:(i == j)=false:=by simpa using k
   have b:(some j == some i)=false:=by simpa using λh=>k h.symm
   rw[c,b]
theorem kB{e:Bl}{L:Array Bool}{i:Nat}(h:i<L.size):e.put (L.setIfInBounds i true)=(e.put L || e.st == some i):=by
 unfold Bl.put;cases d:e.st with
 | none=>rfl
 | some j =>
  show on _ j=(on L j || _);rw[eC h];by_cases k:i=j
  ·subst k;simp
  ·have c:(i == j)=false:=by simpa using k
   have b:(some j == some i)=false:=by simpa using λh=>k h.symm
   rw[c,b]
theorem range_below{B k o:Nat}{w w':Uq}{cs:List Us}(h:w.rangeAt k o cs)(c:Below B w w')(b:k<B):w'.rangeAt k o cs:=λj v hv=>by
 rw[c.cell (p:=⟨k,o+j,none⟩) b];exact h j v hv
theorem dJ{B k o n:Nat}{w w':Uq}(h:w.there k o n)(c:Below B w w')(b:k<B):w'.there k o n:=λj d=>by
 rw[c.cell (p:=⟨k,o+j,none⟩) b,c.frozen (p:=⟨k,o+j,none⟩) b];exact h j d
theorem below_setCells{B k:Nat}{c:Uq}(b:B<=k):∀(vs:List Us) (o:Nat) (w:Uq),Below B c w->Below B c (w.setCells k o vs)
 | [],_,_,h=>h
 | v :: r,o,w,h=>below_setCells b r (o+1) _ (h.setCell (p:=⟨k,o,none⟩) b v)
theorem setCells_size(k:Nat):∀(vs:List Us) (o:Nat) (w:Uq),(w.setCells k o vs).heap.size=w.heap.size
 | [],_,_=>rfl
 | v :: r,o,w=>by
  rw[YJ,setCells_size k r (o+1)];simp[World.setCell]
theorem there_setCells{k b o n:Nat}:∀(vs:List Us) (i:Nat) (w:Uq),w.there b o n->(w.setCells k i vs).there b o n
 | [],_,_,h=>h
 | v :: r,i,w,h=>there_setCells r (i+1) _ λj c=>⟨World.isSome_setCells k [v] i w _ (h j c).1,by rw[VK];exact(h j c).2⟩
structure BelX(k0:Nat)(X:List Nat)(w w':Uq):Prop where
 os:w'.os=w.os
 tape:w'.tape=w.tape
 output:w'.output=w.output
 size:w.heap.size<=w'.heap.size
 block:∀j,j<k0->j ∉ X->w'.heap[j]? = w.heap[j]?
theorem BelX.below{k:Nat}{w w':Uq}(h:BelX k [] w w'):Below k w w':=⟨h.os,h.tape,h.output,h.size,λj b=>h.block j b UX⟩
theorem BelX.drew{k:Nat}{X:List Nat}{w w':Uq}(h:BelX k X w w'):BelX k X w w'.drew:=⟨h.os,h.tape,h.output,h.size,h.block⟩
theorem BelX.refl(k:Nat)(X:List Nat)(w:Uq):BelX k X w w:=⟨rfl,rfl,rfl,Uv _,λ_ _ _=>rfl⟩
theorem BelX.trans{d:Nat}{X:List Nat}{a b c:Uq}(h:BelX d X a b)(k:BelX d X b c):BelX d X a c:=
 ⟨k.os.trans h.os,k.tape.trans h.tape,k.output.trans h.output,UB h.size k.size,λi e hx=>(k.block i e hx).trans (h.block i e hx)⟩
structure Wd(w0:Uq)(k0:Nat)(X:List Nat)(bl:List Bl)(L:Array Bool)(μ:Nat->Nat)(w:Uq):Prop where
 bel:BelX k0 X w0 w
 le:k0<=w.heap.size
 has:∀(b:Nat) (e:Bl),bl[b]? = some e->e.live L=true->w.rangeAt (μ b) 0 (e.now L)/\w.there (μ b) 0 e.before.length/\μ b<w.heap.size/\(k0<=μ b\/μ b∈X)
 inj:∀(b c:Nat) (e f:Bl),bl[b]? = some e->bl[c]? = some f->e.live L=true->f.live L=true->b≠c->μ b≠μ c
variable {w0 w w':Uq}{k0:Nat}{X:List Nat}{bl:List Bl}{L:Array Bool}{μ:Nat->Nat}
theorem Wd.same{g:Array Bool}(h:Wd w0 k0 X bl L μ w)(d:∀(b:Nat) (e:Bl),bl[b]? = some e->e.live g=e.live L/\e.put g=e.put L):Wd w0 k0 X bl g μ w:=by
 refine⟨h.bel,h.le,λb e k hv=>?_,λb c e f k i j hf=>h.inj b c e f k i ((d b e k).1 ▸ j) ((d c f i).1 ▸ hf)⟩;have:=h.has b e k ((d b e k).1 ▸ hv);unfold Bl.now at this⊢;rw[(d b e k).2];exact this
theorem Wd.call(h:Wd w0 k0 X bl L μ w)(c:kZ w w'):Wd w0 k0 X bl L μ w':=by
 refine⟨h.bel.trans ⟨c.os,c.tape,c.output,c.size,λk g _=>c.block k (Uw g h.le)⟩,UB h.le c.size,λb e f hv=>?_,h.inj⟩;obtain⟨l,i,d,j⟩:=h.has b e f hv;exact⟨range_below l c d,dJ i c d,Uw d c.size,j⟩
def upd(μ:Nat->Nat)(b k:Nat):Nat->Nat:=λc=>if c=b then k else μ c
structure Made(w:Uq)(k:Nat)(c:List Us)(w':Uq):Prop where
 bel:kZ w w'
 le:w.heap.size<=k
 lt:k<w'.heap.size
 range:w'.rangeAt k 0 c
 there:w'.there k 0 c.length
theorem Made.alloc(w:Uq)(c:List Us)(t:U7):Made w w.heap.size c (w.alloc (.cells c.toArray t)):=by
 refine⟨aC w _,Uv _,by rw[UA];omega,λj v k=>?_,λj k=>⟨?_,Wu _ _ _ _⟩⟩
 ·rw[UC,Vb];simpa using k
 ·rw[UC,Vb];simp[k]
theorem Wd.make{i b k:Nat}{e:Bl}(h:Wd w0 k0 X bl L μ w)(z:i<L.size)(x:bl[b]? = some e)(D:e.al=some i)(v:∀(c:Nat) (f:Bl),bl[c]? = some f->c≠b->f.al≠some i)
 (j:∀(c:Nat) (f:Bl),bl[c]? = some f->f.st≠some i) (u:e.put L=false) (t:Made w k e.before w') :
 Wd w0 k0 X bl (L.setIfInBounds i true) (upd μ b k) w':=by
 have o:∀(c:Nat) (f:Bl),bl[c]? = some f->f.put (L.setIfInBounds i true)=f.put L:=λc f m=>by
  rw[kB z,show(f.st == some i)=false by simpa using j c f m,WS]
 have n:∀(c:Nat) (f:Bl),bl[c]? = some f->c≠b->f.live (L.setIfInBounds i true)=f.live L:=λc f m j=>by
  rw[iC z,show(f.al == some i)=false by simpa using v c f m j,WS]
 have p:∀(c:Nat) (f:Bl),bl[c]? = some f->c≠b->f.live (L.setIfInBounds i true)=true->μ c<w.heap.size:=λc f m j hv=>(h.has c f m (n c f m j ▸ hv)).2.2.1
 have l:=t.bel;have s:=t.le;refine⟨h.bel.trans ⟨l.os,l.tape,l.output,l.size,λk a _=>l.block k (Uw a h.le)⟩,UB h.le l.size,λc f m hv=>?_,λc d f g m hd hf y r=>?_⟩
 ·by_cases j:c=b
  ·subst j;rw[x]at m;obtain rfl:e=f:=UN.inj m;have q:e.now (L.setIfInBounds i true)=e.before:=by unfold Bl.now;rw[o c e x,u];rfl
   rw[q];unfold upd;rw[yCj rfl];exact⟨t.range,t.there,t.lt,U3 (UB h.le s)⟩
  ·obtain⟨C,A,u,B⟩:=h.has c f m (n c f m j ▸ hv);unfold upd;rw[yCk j];have q:f.now (L.setIfInBounds i true)=f.now L:=by unfold Bl.now;rw[o c f m]
   rw[q];exact⟨range_below C l u,dJ A l u,Uw u l.size,B⟩
 ·unfold upd;by_cases j:c=b
  ·subst j;rw[yCj rfl,yCk (λh=>r h.symm)];exact Nat.ne_of_gt (Uw (p d g hd (λh=>r h.symm) y) s)
  ·by_cases q:d=b
   ·subst q;rw[yCj rfl,yCk j];exact Nat.ne_of_lt (Uw (p c f m j hf) s)
   ·rw[yCk j,yCk q];exact h.inj c d f g m hd (n c f m j ▸ hf) (n d g hd q ▸ y) r
structure PutTo(k n:Nat)(cs:List Us)(w w':Uq):Prop where
 os:w'.os=w.os
 tape:w'.tape=w.tape
 output:w'.output=w.output
 size:w.heap.size<=w'.heap.size
 block:∀j,j<w.heap.size->j≠k->w'.heap[j]? = w.heap[j]?
 range:w'.rangeAt k 0 cs
 there:w'.there k 0 n
theorem aH(k:Nat):∀(vs:List Us) (o:Nat) (w:Uq) (j:Nat),j≠k->(w.setCells k o vs).heap[j]? = w.heap[j]?
 | [],_,_,_,_=>rfl
 | v :: r,o,w,j,h=>by
  rw[YJ,aH k r (o+1) _ j h,Below.heap_setCell _ _ _ _ h]
theorem mX(k:Nat):∀(vs:List Us) (o:Nat) (w:Uq),(w.setCells k o vs).os=w.os/\(w.setCells k o vs).tape=w.tape/\(w.setCells k o vs).output=w.output
 | [],_,_=>⟨rfl,rfl,rfl⟩
 | v :: r,o,w=>by rw[YJ];exact mX k r (o+1) _
theorem PutTo.store{k n o:Nat}{b c vs:List Us}(g:w.there k 0 n)(l:w.rangeAt k 0 b)(x:o+vs.length<=n)(q:∀j,c[j]? = if o<=j/\j<o+vs.length then vs[j-o]? else b[j]?):PutTo k n c w (w.setCells k o vs):=by
 obtain⟨t,p,r⟩:=mX k vs o w;refine⟨t,p,r,by rw[setCells_size];exact Uv _,λj _ d=>aH k vs o w j d,λj v hv=>?_,there_setCells _ _ _ g⟩;have e:w.there k o vs.length:=λj d=>by have:=g (o+j) oM;rwa[UC]at this
 rw[q j]at hv;rw[UC];by_cases d:o<=j/\j<o+vs.length
 ·rw[yCj d]at hv;have:=World.rangeAt_setCells_same w k o vs e (j-o) v hv;rwa[show o+(j-o)=j by omega]at this
 ·rw[yCk d]at hv;have s:w.rangeAt k j [v]:=λi u f=>by
   cases i with
   | zero =>
    obtain rfl:v=u:=by simpa using f
    have:=l j v hv;rwa[UC]at this
   | succ i=>simp at f
  have m:=World.rangeAt_setCells_apart s k o vs (UW (by simp only[Vh,WF];omega));have:=m 0 v rfl;exact this
theorem PutTo.whole{k:Nat}{b c:List Us}(f:w.there k 0 b.length)(e:w.rangeAt k 0 b)(g:c.length=b.length):PutTo k b.length c w (w.setCells k 0 c):=
 PutTo.store f e oM (λj=>by
  by_cases d:0<=j/\j<0+c.length
  ·rw[yCj d];rfl
  ·rw[yCk d,Ww oM,Ww oM])
theorem Wd.put{i b:Nat}{e:Bl}(h:Wd w0 k0 X bl L μ w)(x:i<L.size)(r:bl[b]? = some e)(z:e.st=some i)(hv:e.live L=true)(l:PutTo (μ b) e.before.length e.after w w')
 (u:∀(c:Nat) (f:Bl),bl[c]? = some f->c≠b->f.st≠some i) (k:∀(c:Nat) (f:Bl),bl[c]? = some f->f.al≠some i) :
 Wd w0 k0 X bl (L.setIfInBounds i true) μ w':=by
 have m:∀(c:Nat) (f:Bl),bl[c]? = some f->f.live (L.setIfInBounds i true)=f.live L:=λc f n=>by
  rw[iC x,show(f.al == some i)=false by simpa using k c f n,WS]
 obtain⟨F,G,H,A⟩:=h.has b e r hv;have D:=h.le;refine⟨h.bel.trans ⟨l.os,l.tape,l.output,l.size,λj q hx=>l.block j oM (λe=>A.elim (λh=>oM) (λh=>hx (e ▸ h)))⟩,UB h.le l.size,λc f n o=>?_,λc d f g n hd hf B=>h.inj c d f g n hd (m c f n ▸ hf) (m d g hd ▸ B)⟩;rw[m c f n]at o;obtain⟨E,C,t,y⟩:=h.has c f n o;by_cases p:c=b
 ·subst p;rw[r]at n;obtain rfl:e=f:=UN.inj n;have s:e.now (L.setIfInBounds i true)=e.after:=by
   unfold Bl.now;rw[kB x,z];simp
  rw[s];exact⟨l.range,l.there,Uw t l.size,y⟩
 ·have s:f.now (L.setIfInBounds i true)=f.now L:=by
   unfold Bl.now;rw[kB x,show(f.st == some i)=false by simpa using u c f n p,WS]
  rw[s];have k:=l.block (μ c) t (h.inj c b f e n r o hv p);refine⟨λj v q=>?_,λj q=>?_,Uw t l.size,y⟩
  ·rw[UV (w:=w) (a:=⟨μ c,0+j,none⟩) k];exact E j v q
  ·rw[UV (w:=w) (a:=⟨μ c,0+j,none⟩) k,World.frozen?_of_block (w:=w) (a:=⟨μ c,0+j,none⟩) k];exact C j q
end RG
namespace RG
variable {P:VC}{ops:Array Vj}{Q:Yo->Act->Uq->Prop}{w0 w:Uq}{k0:Nat}{X:List Nat}{its:List It}{bl:List Bl}{olds:List (WB × SV)}{a0:Act}{L:Array Bool}{μ μ' μ0:Nat->Nat}
structure Ac(its:List It)(bl:List Bl)(a0:Act)(L:Array Bool)(μ:Nat->Nat)(a:Act):Prop where
 defers:a.defers=a0.defers
 size:a.tmps.size=a0.tmps.size
 got:∀(i:Nat) (it:It) (d:WB),its[i]? = some it->on L i=true->it.dst=some d->a.tmps[d]? = some (it.out.at μ)/\∀b,it.out.blk=some b->∃e:Bl,bl[b]? = some e/\e.live L=true
 rest:∀t:WB,(∀(i:Nat) (it:It),its[i]? = some it->on L i=true->it.dst≠some t)->a.tmps[t]? = a0.tmps[t]?
def dB(o:Vj)(j:Nat):Bool:=o.after.any (λe=>VO .any e && e.on == j)
def Fo(k:Array Vj)(b:List It)(i:Nat)(t:WB):Bool:=b.zipIdx.all (λx=>x.1.dst != some t || (match k[x.2]? with|some o=>dB o i|none=>false))
def Known(c:Array Vj)(i:Nat)(b:List It)(olds:List (WB × SV))(k:List (WB × Nat))(μ:Nat->Nat)(a:Act):Prop:=
 (∀(t:WB) (j:Nat) (it:It),(t,j)∈k->b[j]? = some it->a.eval (.tmp t)=it.out.at μ)/\(∀(t:WB) (s:SV),(t,s)∈olds->Fo c b i t=true->a.eval (.tmp t)=s.at μ)
def readB(k:Array Vj)(i:Nat)(e:Bl):Bool:=match e.st with|none=>true|some s=>match k[s]? with|some o=>dB o i|none=>false
def Reads(k:Array Vj)(i:Nat)(c:List Bl)(μ:Nat->Nat)(w:Uq):Prop:=∀(b:Nat) (e:Bl),c[b]? = some e->(e.al=none\/∃(o:Vj) (j:Nat),k[i]? = some o/\e.al=some j/\dB o j=true)->readB k i e=true->w.rangeAt (μ b) 0 e.before
def Does(P:VC)(Q:Yo->Act->Uq->Prop)(c:List Bl)(o:Vj)(it:It)(μ:Nat->Nat)(a:Act)(w:Uq)(K:Act->Uq->Prop):Kind->Prop
 | .stay=>K (a.put o.dst (it.out.at μ)) w->o.wp P a w K Q
 | .pass=>it.out=.v WO
 | .call=>(∀w',kZ w w'->K (a.put o.dst (it.out.at μ)) w')->o.wp P a w K Q
 | .make b=>∀e:Bl,c[b]? = some e->(∀(k:Nat) (w':Uq),Made w k e.before w'->K (a.put o.dst (it.out.at (upd μ b k))) w')->o.wp P a w K Q
 | .put b=>∀e:Bl,c[b]? = some e->w.there (μ b) 0 e.before.length->w.rangeAt (μ b) 0 e.before->(∀w',PutTo (μ b) e.before.length e.after w w'->K (a.put o.dst (it.out.at μ)) w')->o.wp P a w K Q
def Cert(P:VC)(Q:Yo->Act->Uq->Prop)(e:Uq)(d:Nat)(X:List Nat)(k:Array Vj)(i:Nat)(b:List It)(c:List Bl)(olds:List (WB × SV))(o:Vj)(it:It):Prop:=
 ∀(μ:Nat->Nat) (a:Act) (w:Uq) (K:Act->Uq->Prop),Known k i b olds it.need μ a->Reads k i c μ w->BelX d X e w->Does P Q c o it μ a w K it.kind
def Ja(k:List It)(c:List Bl)(o:Vj)(it:It)(b:Nat):Bool:=
 (match c[b]? with|some e=>(match e.al with|none=>true|some j=>dB o j)|none=>false) || it.need.any (λx=>dB o x.2 && (match k[x.2]? with|some jt=>jt.dst.isSome && jt.out.blk == some b|none=>false))
def Ad(d:List It)(k:List Bl)(i:Nat)(o:Vj)(it:It):Kind->Bool
 | .stay | .pass | .call=>k.all (λe=>e.al != some i && e.st != some i) && (match it.out.blk with|none=>true|some b=>Ja d k o it b)
 | .make b=>(match it.out.blk with|some c=>c == b|none=>false) && k.zipIdx.all (λx=>x.1.st != some i && (x.1.al == some i) == (x.2 == b)) && (k[b]?).isSome
 | .put b=>(match it.out with | .v _=>true|_=>false) && k.zipIdx.all (λx=>x.1.al != some i && (x.1.st == some i) == (x.2 == b)) && (match k[b]? with|some e=>(match e.al with|none=>true|some j=>dB o j)|none=>false)
def Kind.isPass:Kind->Bool
 | .pass=>true
 | _=>false
def Jo(k:List It)(o:Vj)(it:It):Bool:=
 match o.guard with
 | none=>!it.kind.isPass
 | some (j,want)=>dB o j && (match k[j]? with|some jt=>jt.dst.isSome && (match jt.out with | .v (.bool b)=>(b == want) == !it.kind.isPass|_=>false)|none=>false)
def okB(k:List It)(c:List Bl)(i:Nat)(o:Vj)(it:It):Bool:=
 (o.dst == it.dst) && Jo k o it && o.after.all (λe=>!VO .any e || e.on<i) && it.need.all (λb=>dB o b.2 && ((k[b.2]?).bind (·.dst)) == some b.1) && Ad k c i o it it.kind
def yY:List It->Bool
 | []=>true
 | it :: r=>(match it.dst with|none=>true|some d=>r.all (λk=>k.dst != some d)) && yY r
def TI(k:List Bl)(olds:List (WB × SV)):Bool:=
 olds.all (λx=>(match x.2.blk with|none=>true|some b=>match k[b]? with|some e=>e.al.isNone|none=>false))
def allB(b:Array Vj)(k:List It)(c:List Bl)(olds:List (WB × SV))(n:Nat):Bool:=
 b.size == k.length && yY k && TI c olds && k.all (λit=>match it.dst with|none=>true|some d=>d<n) &&
 (VF k.length).all (λi=>match b[i]?,k[i]? with|some o,some it=>okB k c i o it|_,_=>false)
theorem JG:∀ {k:List It},yY k=true->∀(i j:Nat) (it b:It) (d:WB),k[i]? = some it->k[j]? = some b->it.dst=some d->b.dst=some d->i=j
 | [],_,i,_,_,_,_,h,_,_,_=>by simp at h
 | x :: r,h,i,j,it,b,d,hi,hj,di,dj=>by
  simp only[yY,UK]at h;match i,j with
  | 0,0=>rfl
  | 0,j+1 =>
   simp only[Ve,UN.injEq]at hi;simp only[U8]at hj;subst hi;rw[di]at h;have:=U9.1 h.1 b (VI hj);rw[dj]at this;simp at this
  | i+1,0 =>
   simp only[Ve,UN.injEq]at hj;simp only[U8]at hi;subst hj;rw[dj]at h;have:=U9.1 h.1 it (VI hi);rw[di]at this;simp at this
  | i+1,j+1 =>
   simp only[U8]at hi hj;rw[JG h.2 i j it b d hi hj di dj]
theorem oC{e:Bl}{i:Nat}(k:i<L.size)(h:e.live L=true):e.live (L.setIfInBounds i true)=true:=by rw[iC k,h,X9]
theorem Ac.put{a:Act}{i:Nat}{it:It}(h:Ac its bl a0 L μ a)(hd:yY its=true)(p:i<L.size)(n:its[i]? = some it)(hμ:∀(b:Nat) (e:Bl),bl[b]? = some e->e.live L=true->μ' b=μ b)
 (r:∀d,it.dst=some d->d<a0.tmps.size) (o:∀d,it.dst=some d->∀b,it.out.blk=some b->∃e:Bl,bl[b]? = some e/\e.live (L.setIfInBounds i true)=true)
 (v:Us) (hv:∀d,it.dst=some d->v=it.out.at μ'):Ac its bl a0 (L.setIfInBounds i true) μ' (a.put it.dst v):=by
 have m:∀(j:Nat) (f:It) (d:WB),its[j]? = some f->on L j=true->f.dst=some d->a.tmps[d]? = some (f.out.at μ')/\∀b,f.out.blk=some b->∃e:Bl,bl[b]? = some e/\e.live (L.setIfInBounds i true)=true:=λj f d g ho c=>by
  obtain⟨u,q⟩:=h.got j f d g ho c;refine⟨?_,λb k=>?_⟩
  ·rw[u]
   congr 1
   refine SV.at_congr λb s=>?_
   obtain⟨e,l,o⟩:=q b s;rw[hμ b e l o]
  ·obtain⟨e,l,o⟩:=q b k;exact⟨e,l,oC p o⟩
 cases k:it.dst with
 | none =>
  show Ac its bl a0 _ μ' a;refine⟨h.defers,h.size,λj f d g ho c=>?_,λt q=>h.rest t λj f g ho=>q j f g (by rw[eC p,ho,X9])⟩;rw[eC p]at ho;by_cases l:i=j
  ·subst l;rw[n]at g;obtain rfl:it=f:=UN.inj g;rw[k]at c;cases c
  ·exact m j f d g (by simpa[l]using ho) c
 | some d0 =>
  have s:=r d0 k;refine⟨h.defers,?_,λj f d g ho c=>?_,λt q=>?_⟩
  ·show(a.tmps.setIfInBounds d0 v).size=_;rw[VE];exact h.size
  ·show(a.tmps.setIfInBounds d0 v)[d]? = _/\_;rw[WA];rw[eC p]at ho;by_cases l:i=j
   ·subst l;rw[n]at g;obtain rfl:it=f:=UN.inj g;rw[k]at c;obtain rfl:d0=d:=UN.inj c;rw[yCj rfl,yCj (by rw[h.size];exact s),hv d0 k];exact⟨rfl,o d0 k⟩
   ·have o:d0≠d:=λu=>l (JG hd i j it f d0 n g k (u ▸ c))
    rw[yCk o];exact m j f d g (by simpa[l]using ho) c
  ·show(a.tmps.setIfInBounds d0 v)[t]? = _;have o:d0≠t:=λl=>q i it n (by rw[eC p];simp) (by rw[k,l])
   rw[WA,yCk o];exact h.rest t λj f g ho=>q j f g (by rw[eC p,ho,X9])
structure Inv(ops:Array Vj)(its:List It)(bl:List Bl)(a0:Act)(w0:Uq)(k0:Nat)(X:List Nat)(μ0:Nat->Nat)(L:Array Bool)(a:Act)(w:Uq):Prop where
 size:L.size=its.length
 cl:∀(i:Nat) (o:Vj),ops[i]? = some o->on L i=true->∀e∈o.after,VO .any e=true->on L e.on=true
 all:∃μ,(∀(b:Nat) (e:Bl),bl[b]? = some e->e.al=none->μ b=μ0 b)/\Ac its bl a0 L μ a/\Wd w0 k0 X bl L μ w/\∀(b:Nat) (e:Bl),bl[b]? = some e->e.put L=true->e.live L=true
theorem BA{o:Vj}(h:o.guard=none)(y:Nat->Option Bool):V1 o y=true:=by unfold V1;rw[h]
theorem jR{p:Bl × Nat->Bool}(h:bl.zipIdx.all p=true)(b:Nat)(e:Bl)(k:bl[b]? = some e):p (e,b)=true:=
 U9.1 h (e,b) (by rw[YA];exact k)
theorem two{s t:Option Nat}{i c b:Nat}(h:(s != some i && (t == some i) == (c == b))=true):s≠some i/\(t=some i↔c=b):=by
 rw[UK]at h;refine⟨by simpa using h.1,?_⟩;have k:(t == some i)=(c == b):=by simpa using h.2
 constructor
 ·intro d;rw[d]at k;simpa using k.symm
 ·intro d;rw[d]at k;simpa using k
theorem step{i:Nat}{o:Vj}{it:It}{a:Act}(hd:yY its=true)(ho:ops[i]? = some o)(T:its[i]? = some it)(hr:okB its bl i o it=true)(Y:∀d,it.dst=some d->d<a0.tmps.size)
 (holds:∀(t:WB) (s:SV),(t,s)∈olds->a0.tmps[t]? = some (s.at μ0)/\∀b,s.blk=some b->∃e:Bl,bl[b]? = some e/\e.al=none)
 (l:∀(j:Nat) (W:Vj) (H:It),ops[j]? = some W->its[j]? = some H->W.dst=H.dst) (F:ops.size=its.length) (B:Cert P Q w0 k0 X ops i its bl olds o it) (h7:on L i=false) (M:∀e∈o.after,VO .any e=true->on L e.on=true) (h:Inv ops its bl a0 w0 k0 X μ0 L a w) :
 wpOp P ops Q i (Inv ops its bl a0 w0 k0 X μ0 (L.setIfInBounds i true)) a w:=by
 obtain⟨hu,h9,μ,hμ,hA,hW,hO⟩:=h;have D:i<L.size:=by rw[hu];exact(UE.1 T).1
 simp only[okB,UK]at hr;obtain⟨⟨⟨⟨ht,Z⟩,k2⟩,hq⟩,g⟩:=hr;have C:o.dst=it.dst:=by simpa using ht
 have r:∀j,dB o j=true->on L j=true:=λj J=>by
  obtain⟨e,R,m⟩:=XN.1 J;simp only[UK,beq_iff_eq]at m;rw[<-m.2];exact M e R m.1
 have h8:V1 o (yielded ops a.tmps) = !it.kind.isPass:=by
  unfold V1;unfold Jo at Z;cases K:o.guard with
  | none=>rw[K]at Z;dsimp only at Z⊢;rw[Z]
  | some jw =>
   obtain⟨j,q⟩:=jw;rw[K]at Z;dsimp only at Z⊢;rw[UK]at Z;cases J:its[j]? with
   | none=>rw[J]at Z;cases Z.2
   | some H =>
    rw[J]at Z;obtain⟨h1,A⟩:=Z;dsimp only at A;rw[UK]at A;obtain⟨d,I⟩:=Vq.1 A.1;have N:j<its.length:=(UE.1 J).1;have E:ops[j]? = some (ops[j]'(by rw[F];exact N)):=UZ _;have G:=(hA.got j H d J (r j h1) I).1;have O:yielded ops a.tmps j=match H.out.at μ with | .bool b=>some b|_=>none:=by
     unfold yielded;rw[E];show(match (ops[j]'(by rw[F];exact N)).dst.bind (a.tmps[·]?) with|some (.bool b)=>some b|_=>none)=_;rw[l j _ H E J,I];show(match a.tmps[d]? with|some (.bool b)=>some b|_=>none)=_;rw[G];cases H.out.at μ<;>rfl
    rw[O];have l:=A.2;cases n:H.out with
    | p b x=>rw[n]at l;cases l
    | s b x y=>rw[n]at l;cases l
    | t b x y z=>rw[n]at l;cases l
    | v x =>
     rw[n]at l;cases x with
     | bool b =>
      show(some b == some q)=_;dsimp only at l;have:(b == q) = !it.kind.isPass:=by simpa using l
      rw[<-this];cases b<;>cases q<;>rfl
     | _=>cases l
 have hK:Known ops i its olds it.need μ a:=by
  refine⟨λt j H hm J=>?_,λt s hm K=>?_⟩
  ·have h1:=U9.1 hq (t,j) hm;simp only[UK,J]at h1;have A:H.dst=some t:=by simpa using h1.2
   have G:=(hA.got j H t J (r j h1.1) A).1;show a.tmps.getD t WO=_;rw[UH,G];rfl
  ·obtain⟨A,G⟩:=holds t s hm;have O:=hA.rest t (λj H J U I=>by
    have l:=U9.1 K (H,j) (by rw[YA];exact J);dsimp only at l;rw[I]at l;cases E:ops[j]? with
    | none=>rw[E]at l;simp at l
    | some W =>
     rw[E]at l;have q:dB W i=true:=by simpa using l
     obtain⟨e',N,F⟩:=XN.1 q;simp only[UK,beq_iff_eq]at F;have:=h9 j W E U e' N F.1;rw[F.2,h7]at this;cases this)
   show a.tmps.getD t WO=_;rw[UH,O,A];show s.at μ0=s.at μ;refine SV.at_congr λb m=>?_
   obtain⟨e,R,q⟩:=G b m;rw[hμ b e R q]
 have hR:Reads ops i bl μ w:=λb e m q K=>by
  have:=(hW.has b e m (by
   unfold Bl.live;rcases q with q|⟨I,j,l,q,hd⟩
   ·rw[q];rfl
   ·rw[q];show on L j=true;rw[ho]at l;obtain rfl:=UN.inj l;exact r j hd)).1
  unfold Bl.now Bl.put at this;unfold readB at K;cases hs:e.st with
  | none=>rw[hs]at this;exact this
  | some s =>
   rw[hs]at this K;dsimp only at K;cases l:ops[s]? with
   | none=>rw[l]at K;cases K
   | some os =>
    rw[l]at K;have I:on L s=false:=by
     cases U:on L s with
     | false=>rfl
     | true =>
      obtain⟨e',N,F⟩:=XN.1 K;simp only[UK,beq_iff_eq]at F;have:=h9 s os l U e' N F.1;rw[F.2,h7]at this;cases this
    rw[show(Option.map (on L) (some s)).getD false=on L s from rfl,I]at this;exact this
 have V:∀b,Ja its bl o it b=true->∃e:Bl,bl[b]? = some e/\e.live L=true:=λb m=>by
  unfold Ja at m;rw[Bool.or_eq_true]at m;rcases m with A|A
  ·cases R:bl[b]? with
   | none=>rw[R]at A;cases A
   | some e =>
    rw[R]at A;dsimp only at A;refine⟨e,rfl,?_⟩;unfold Bl.live;cases q:e.al with
    | none=>rfl
    | some j=>rw[q]at A;exact r j A
  ·obtain⟨x,hx,G⟩:=List.any_eq_true.1 A;rw[UK]at G;cases J:its[x.2]? with
   | none=>rw[J]at G;cases G.2
   | some H =>
    rw[J]at G;dsimp only at G;rw[UK]at G;obtain⟨d,l⟩:=Vq.1 G.2.1;exact(hA.got x.2 H d J (r x.2 G.1) l).2 b (by simpa using G.2.2)
 have H:∀(j:Nat) (W:Vj),ops[j]? = some W->on (L.setIfInBounds i true) j=true->∀e∈W.after,VO .any e=true->on (L.setIfInBounds i true) e.on=true:=λj W E U e R m=>by
  rw[eC D]at U⊢;by_cases l:i=j
  ·subst l;rw[ho]at E;obtain rfl:o=W:=UN.inj E;rw[M e R m,X9]
  ·rw[h9 j W E (by simpa[l]using U) e R m,X9]
 have G:(L.setIfInBounds i true).size=its.length:=by rw[VE];exact hu
 have hC:=B μ a w (Inv ops its bl a0 w0 k0 X μ0 (L.setIfInBounds i true)) hK hR hW.bel;unfold wpOp;rw[ho];dsimp only;rw[h8];cases hk:it.kind with
 | pass =>
  rw[hk]at hC g;simp only[Ad,UK]at g;have I:∀(b:Nat) (e:Bl),bl[b]? = some e->e.al≠some i/\e.st≠some i:=λb e m=>by simpa using U9.1 g.1 e (VI m)
  have l:∀(b:Nat) (e:Bl),bl[b]? = some e->e.live (L.setIfInBounds i true)=e.live L/\e.put (L.setIfInBounds i true)=e.put L:=λb e m =>
   ⟨by rw[iC D,show(e.al == some i)=false by simpa using(I b e m).1,WS],by rw[kB D,show(e.st == some i)=false by simpa using(I b e m).2,WS]⟩
  show Inv ops its bl a0 w0 k0 X μ0 (L.setIfInBounds i true) (a.put o.dst WO) w;refine⟨G,H,μ,hμ,?_,hW.same l,λb e m=>by rw[(l b e m).1,(l b e m).2];exact hO b e m⟩;rw[C];have n:it.out=.v WO:=hC;refine hA.put hd D T (λ_ _ _ _=>rfl) Y (λ_ _ b M=>?_) _ (λ_ _=>by rw[n];rfl);rw[n]at M;cases M
 | stay =>
  rw[hk]at hC g;simp only[Ad,UK]at g;show o.wp P a w _ Q\/_;left;refine hC ?_;have I:∀(b:Nat) (e:Bl),bl[b]? = some e->e.al≠some i/\e.st≠some i:=λb e m=>by simpa using U9.1 g.1 e (VI m)
  have l:∀(b:Nat) (e:Bl),bl[b]? = some e->e.live (L.setIfInBounds i true)=e.live L/\e.put (L.setIfInBounds i true)=e.put L:=λb e m =>
   ⟨by rw[iC D,show(e.al == some i)=false by simpa using(I b e m).1,WS],by rw[kB D,show(e.st == some i)=false by simpa using(I b e m).2,WS]⟩
  refine⟨G,H,μ,hμ,?_,hW.same l,λb e m=>by rw[(l b e m).1,(l b e m).2];exact hO b e m⟩;rw[C];refine hA.put hd D T (λ_ _ _ _=>rfl) Y (λ_ _ b M=>?_) _ (λ_ _=>rfl);have A:=g.2;rw[M]at A;obtain⟨e,R,hl⟩:=V b A;exact⟨e,R,oC D hl⟩
 | call =>
  rw[hk]at hC g;simp only[Ad,UK]at g;show o.wp P a w _ Q\/_;left;refine hC λw' F=>?_
  have I:∀(b:Nat) (e:Bl),bl[b]? = some e->e.al≠some i/\e.st≠some i:=λb e m=>by simpa using U9.1 g.1 e (VI m)
  have l:∀(b:Nat) (e:Bl),bl[b]? = some e->e.live (L.setIfInBounds i true)=e.live L/\e.put (L.setIfInBounds i true)=e.put L:=λb e m =>
   ⟨by rw[iC D,show(e.al == some i)=false by simpa using(I b e m).1,WS],by rw[kB D,show(e.st == some i)=false by simpa using(I b e m).2,WS]⟩
  refine⟨G,H,μ,hμ,?_,(hW.call F).same l,λb e m=>by rw[(l b e m).1,(l b e m).2];exact hO b e m⟩;rw[C];refine hA.put hd D T (λ_ _ _ _=>rfl) Y (λ_ _ b M=>?_) _ (λ_ _=>rfl);have A:=g.2;rw[M]at A;obtain⟨e,R,hl⟩:=V b A;exact⟨e,R,oC D hl⟩
 | make b =>
  rw[hk]at hC g;simp only[Ad,UK]at g;obtain⟨⟨n,hz⟩,N⟩:=g;obtain⟨e,l⟩:=Vq.1 N;have ha:e.al=some i:=(two (jR hz b e l)).2.2 rfl;have F:∀(c:Nat) (f:Bl),bl[c]? = some f->f.st≠some i:=λc f B=>(two (jR hz c f B)).1
  have O:∀(c:Nat) (f:Bl),bl[c]? = some f->c≠b->f.al≠some i:=λc f B S h=>S ((two (jR hz c f B)).2.1 h)
  have M:e.live L=false:=by unfold Bl.live;rw[ha];exact h7
  have hpt:e.put L=false:=by
   cases hp:e.put L with
   | false=>rfl
   | true=>have:=hO b e l hp;rw[M]at this;cases this
  have hn:it.out.blk=some b:=by
   cases I:it.out.blk with
   | none=>rw[I]at n;cases n
   | some c =>
    rw[I]at n;rw[show c=b by simpa using n]
  show o.wp P a w _ Q\/_;left;refine hC e l λk w' hm=>?_
  have hμb:∀(c:Nat) (f:Bl),bl[c]? = some f->f.live L=true->upd μ b k c=μ c:=λc f B hl=>by
   unfold upd;rw[yCk];rintro rfl;rw[l]at B;obtain rfl:e=f:=UN.inj B;rw[M]at hl;cases hl
  refine⟨G,H,upd μ b k,λc f B q=>?_,?_,hW.make D l ha O F hpt hm,λc f B=>?_⟩
  ·rw[hμb c f B (by unfold Bl.live;rw[q];rfl)];exact hμ c f B q
  ·rw[C];refine hA.put hd D T hμb Y (λ_ _ c h0=>?_) _ (λ_ _=>rfl);rw[hn]at h0;have h1:b=c:=UN.inj h0;subst h1;exact⟨e,l,by rw[iC D,ha];simp⟩
  ·rw[kB D,show(f.st == some i)=false by simpa using F c f B,WS];exact λhp=>oC D (hO c f B hp)
 | put b =>
  rw[hk]at hC g;simp only[Ad,UK]at g;obtain⟨⟨n,hz⟩,N⟩:=g;cases l:bl[b]? with
  | none=>rw[l]at N;cases N
  | some e =>
   rw[l]at N;dsimp only at N;have hs:e.st=some i:=(two (jR hz b e l)).2.2 rfl;have O:∀(c:Nat) (f:Bl),bl[c]? = some f->f.al≠some i:=λc f B=>(two (jR hz c f B)).1
   have F:∀(c:Nat) (f:Bl),bl[c]? = some f->c≠b->f.st≠some i:=λc f B S h=>S ((two (jR hz c f B)).2.1 h)
   have M:e.live L=true:=by
    unfold Bl.live;cases q:e.al with
    | none=>rfl
    | some j =>
     have A:=N;rw[q]at A;exact r j A
   show o.wp P a w _ Q\/_;left;have hw:e.put L=false:=by unfold Bl.put;rw[hs];exact h7
   have A:e.now L=e.before:=by unfold Bl.now;rw[hw];rfl
   refine hC e l (hW.has b e l M).2.1 (A ▸ (hW.has b e l M).1) λw' hy=>?_
   refine⟨G,H,μ,hμ,?_,hW.put D l hs M hy F O,λc f B hp=>?_⟩
   ·rw[C];refine hA.put hd D T (λ_ _ _ _=>rfl) Y (λd k1 c h0=>?_) _ (λd k1=>rfl);cases I:it.out with
    | v x=>rw[I]at h0;cases h0
    | p x y=>rw[I]at n;cases n
    | s x y z=>rw[I]at n;cases n
    | t x y z u=>rw[I]at n;cases n
   ·rw[iC D,show(f.al == some i)=false by simpa using O c f B,WS];rw[kB D]at hp;by_cases S:c=b
    ·subst S;rw[l]at B;obtain rfl:e=f:=UN.inj B;exact M
    ·rw[show(f.st == some i)=false by simpa using F c f B S,WS]at hp;exact hO c f B hp
end RG
namespace RG
variable {P:VC}{ops:Array Vj}{Q:Yo->Act->Uq->Prop}{w0 w:Uq}{k0:Nat}{X:List Nat}{its:List It}{bl:List Bl}{olds:List (WB × SV)}{a0:Act}{L:Array Bool}{μ μ0:Nat->Nat}
def puts(μ:Nat->Nat):List It->Act->Act
 | [],a=>a
 | it :: r,a=>puts μ r (a.put it.dst (it.out.at μ))
theorem nE(μ:Nat->Nat):∀(k:List It) (a:Act),(puts μ k a).defers=a.defers
 | [],_=>rfl
 | it :: r,a=>by
  rw[puts,nE μ r];cases it.dst<;>rfl
theorem qS(a:Act)(d:Option WB)(v:Us):(a.put d v).tmps.size=a.tmps.size:=by
 cases d with
 | none=>rfl
 | some d=>exact VE ..
theorem zN(μ:Nat->Nat):∀(k:List It) (a:Act),(puts μ k a).tmps.size=a.tmps.size
 | [],_=>rfl
 | it :: r,a=>by rw[puts,zN μ r,qS]
theorem nW(a:Act){d:Option WB}(v:Us){t:WB}(h:d≠some t):(a.put d v).tmps[t]? = a.tmps[t]?:=by
 cases d with
 | none=>rfl
 | some d =>
  show(a.tmps.setIfInBounds d v)[t]? = _;rw[WA,yCk (λe=>h (by rw[e]))]
theorem lW(μ:Nat->Nat):∀(k:List It) (a:Act) (t:WB),(∀it∈k,it.dst≠some t)->(puts μ k a).tmps[t]? = a.tmps[t]?
 | [],_,_,_=>rfl
 | it :: r,a,t,h=>by
  rw[puts,lW μ r _ t (λx hx=>h x (Va _ hx)),nW a _ (h it Vt)]
theorem rW(μ:Nat->Nat):∀(k:List It) (a:Act) (i:Nat) (it:It) (d:WB),yY k=true->k[i]? = some it->it.dst=some d->d<a.tmps.size->(puts μ k a).tmps[d]? = some (it.out.at μ)
 | [],_,i,_,_,_,h,_,_=>by simp at h
 | x :: r,a,0,it,d,hB,h,hd,hs=>by
  obtain rfl:x=it:=by simpa using h
  simp only[yY,UK,hd]at hB;rw[puts,lW μ r _ d (λy b=>by simpa using U9.1 hB.1 y b),hd];show(a.tmps.setIfInBounds d _)[d]? = _;rw[WA,yCj rfl,yCj hs]
 | x :: r,a,i+1,it,d,hB,h,hd,hs=>by
  simp only[yY,UK]at hB;rw[puts];exact rW μ r _ i it d hB.2 (by simpa using h) hd (by rw[qS];exact hs)
theorem Act.ext'{a b:Act}(c:a.tmps=b.tmps)(k:a.defers=b.defers):a=b:=by
 cases a;cases b;subst c;subst k;rfl
theorem Ac.done{a:Act}(h:Ac its bl a0 L μ a)(g:yY its=true)(e:∀it∈its,∀d,it.dst=some d->d<a0.tmps.size)(b:∀i,i<its.length->on L i=true):a=puts μ its a0:=by
 refine Act.ext' ?_ (by rw[nE];exact h.defers);apply Array.ext_getElem?;intro t;by_cases c:∃(i:Nat) (it:It),its[i]? = some it/\it.dst=some t
 ·obtain⟨i,it,k,hd⟩:=c;rw[(h.got i it t k (b i (UE.1 k).1) hd).1,rW μ its a0 i it t g k hd (e it (VI k) t hd)]
 ·rw[h.rest t (λi it k _ hd=>c ⟨i,it,k,hd⟩),lW μ its a0 t (λit f hd=>?_)];obtain⟨i,k⟩:=WI f;exact c ⟨i,it,k,hd⟩
def unl(L:Array Bool):Nat:=L.toList.countP (λb=>!b)
theorem count_set:∀(l:List Bool) (i:Nat),l[i]? = some false->(l.set i true).countP (λb=>!b)+1=l.countP (λb=>!b)
 | [],i,h=>by simp at h
 | x :: r,0,h=>by
  obtain rfl:x=false:=by simpa using h
  simp
 | x :: r,i+1,h=>by
  have:=count_set r i (by simpa using h);rw[List.set_cons_succ,yA3,yA3];omega
theorem lN{i:Nat}(h:L.getD i true=false):unl (L.setIfInBounds i true)+1=unl L:=by
 unfold unl;rw[Array.toList_setIfInBounds];refine count_set _ _ ?_;rw[Vo];rw[UH]at h;cases hh:L[i]? with
 | none=>rw[hh]at h;cases h
 | some b=>rw[hh]at h;rw[show b=false from h]
theorem kN(h:unl L=0)(i:Nat)(b:i<L.size):on L i=true:=by
 have c:=List.countP_eq_zero.1 h;have k:=c L[i] (by simp);unfold on;rw[UH,UZ b];simpa using k
structure Reg(P:VC)(ops:Array Vj)(Q:Yo->Act->Uq->Prop)(w0:Uq)(k0:Nat)(X:List Nat)(its:List It)(bl:List Bl)(olds:List (WB × SV))(a0:Act)(μ0:Nat->Nat):Prop where
 chk:allB ops its bl olds a0.tmps.size=true
 old:∀(t:WB) (s:SV),(t,s)∈olds->a0.tmps[t]? = some (s.at μ0)
 cert:∀(i:Nat) (o:Vj) (it:It),ops[i]? = some o->its[i]? = some it->Cert P Q w0 k0 X ops i its bl olds o it
theorem Reg.step{i:Nat}{o:Vj}{a:Act}(R:Reg P ops Q w0 k0 X its bl olds a0 μ0)(ho:ops[i]? = some o)(u:on L i=false)(l:∀e∈o.after,VO .any e=true->on L e.on=true)(h:Inv ops its bl a0 w0 k0 X μ0 L a w):
 wpOp P ops Q i (Inv ops its bl a0 w0 k0 X μ0 (L.setIfInBounds i true)) a w:=by
 have y:=R.chk;simp only[allB,UK,beq_iff_eq]at y;obtain⟨⟨⟨⟨g,hd⟩,n⟩,q⟩,f⟩:=y;have A:i<its.length:=by rw[<-g];exact(UY.1 ho).1
 obtain⟨it,k⟩:∃it,its[i]? = some it:=⟨its[i],UF A⟩
 have B:=U9.1 f i (VZ.2 A);rw[ho,k]at B;refine RG.step (olds:=olds) hd ho k B (λd v=>?_) (λt s z=>?_) (λj E D r m=>?_) g (R.cert i o it ho k) u l h
 ·have:=U9.1 q it (VI k);rw[v]at this;simpa using this
 ·have C:=U9.1 n (t,s) z;refine⟨R.old t s z,λb p=>?_⟩;have c:=C;dsimp only at c;rw[p]at c;dsimp only at c;cases x:bl[b]? with
  | none=>rw[x]at c;cases c
  | some e=>rw[x]at c;exact⟨e,rfl,by simpa using c⟩
 ·have c:=U9.1 f j (VZ.2 (UE.1 m).1);rw[r,m]at c;simp only[okB,UK]at c;simpa using c.1.1.1.1
theorem Reg.back{i:Nat}{o:Vj}(R:Reg P ops Q w0 k0 X its bl olds a0 μ0)(ho:ops[i]? = some o):i<its.length/\∀e∈o.after,VO .any e=true->e.on<i:=by
 have f:=R.chk;simp only[allB,UK,beq_iff_eq]at f;obtain⟨⟨⟨⟨d,hd⟩,g⟩,l⟩,k⟩:=f;have b:i<its.length:=by rw[<-d];exact(UY.1 ho).1
 have c:=U9.1 k i (VZ.2 b);rw[ho,UF b]at c;simp only[okB,UK]at c;refine⟨b,λe m j=>?_⟩;have:=WW.1 c.1.1.2 e m;simpa[j]using this
theorem Reg.size(R:Reg P ops Q w0 k0 X its bl olds a0 μ0):ops.size=its.length:=by
 have k:=R.chk;simp only[allB,UK,beq_iff_eq]at k;exact k.1.1.1.1
theorem Reg.full{a:Act}(R:Reg P ops Q w0 k0 X its bl olds a0 μ0)(h:Inv ops its bl a0 w0 k0 X μ0 L a w)(d:U6 .any ops L=[]):∀i,i<its.length->on L i=true:=by
 intro i;induction i using yBj with
 | ind i ih =>
  intro c;have ho:ops[i]? = some (ops[i]'(by rw[R.size];exact c)):=UZ _;cases k:on L i with
  | true=>rfl
  | false =>
   have:i∈U6 .any ops L:=mem_ready.2 ⟨?_,_,ho,λe g f=>?_⟩
   ·rw[d]at this;cases this
   ·unfold on at k;rw[UH,UZ (by rw[h.size];exact c)]at k⊢;exact k
   ·have b:=(R.back ho).2 e g f;exact ih e.on b (Nat.lt_trans b c)
def ad(ks:List Nat)(b:Nat):Nat:=ks.getD b 0
structure St(w0:Uq)(k0:Nat)(X:List Nat)(cs:List (List Us))(ks:List Nat)(w:Uq):Prop where
 bel:BelX k0 X w0 w
 le:k0<=w.heap.size
 len:ks.length=cs.length
 has:∀(b:Nat) (c:List Us),cs[b]? = some c->w.rangeAt (ad ks b) 0 c/\w.there (ad ks b) 0 c.length/\ad ks b<w.heap.size/\(k0<=ad ks b\/ad ks b∈X)
 inj:∀(b c:Nat),b<cs.length->c<cs.length->b≠c->ad ks b≠ad ks c
theorem St.drew{cs:List (List Us)}{ks:List Nat}(h:St w0 k0 X cs ks w):St w0 k0 X cs ks w.drew:=⟨h.bel.drew,h.le,h.len,h.has,h.inj⟩
def Bl.fin(e:Bl):List Us:=if e.st.isSome=true then e.after else e.before
def mT(k:List Bl)(n:Nat):Bool:=k.zipIdx.all (λx=>x.1.al.isNone == decide (x.2<n)) && decide (n<=k.length)
theorem zJ{r:Array Vj}{cs:List (List Us)}{ks:List Nat}(q:St w0 k0 X cs ks w)(x:mT bl cs.length=true)(s:(bl.map (·.before)).take cs.length=cs):
 Inv r its bl a0 w0 k0 X (ad ks) (UI its.length false) a0 w:=by
 simp only[mT,UK]at x;have g:∀i,on (UI its.length false) i=false:=λi=>by
  unfold on;rw[UH,Yg];by_cases h:i<its.length
  ·rw[yCj h];rfl
  ·rw[yCk h];rfl
 have k:∀(b:Nat) (e:Bl),bl[b]? = some e->e.live (UI its.length false)=true->b<cs.length:=λb e l n=>by
  have p:=jR x.1 b e l;unfold Bl.live at n;cases m:e.al with
  | none=>simpa[m]using p
  | some j=>rw[m]at n;have:on (UI its.length false) j=true:=n;rw[g]at this;cases this
 have m:∀e:Bl,e.put (UI its.length false)=false:=λe=>by
  unfold Bl.put;cases e.st with
  | none=>rfl
  | some j=>exact g j
 have p:∀(b:Nat) (e:Bl),bl[b]? = some e->b<cs.length->cs[b]? = some e.before:=λb e l u=>by
  rw[<-s,Wz,yCj u,Vy,l];rfl
 refine⟨Array.size_replicate,(λi o _ h=>by rw[g]at h;cases h),ad ks,λ_ _ _ _=>rfl,⟨rfl,rfl,λi it d a ho=>?_,λ_ _=>rfl⟩,⟨q.bel,q.le,λb e l n=>?_,λb c e f l z y hf t=>q.inj b c (k b e l y) (k c f z hf) t⟩,λb e l v=>?_⟩
 ·rw[g]at ho;cases ho
 ·unfold Bl.now;rw[m e];exact q.has b e.before (p b e l (k b e l n))
 ·rw[m e]at v;cases v
theorem Inv.done{a:Act}{cs:List (List Us)}{ks:List Nat}(R:Reg P ops Q w0 k0 X its bl olds a0 (ad ks))(h:Inv ops its bl a0 w0 k0 X (ad ks) L a w)(n:ks.length=cs.length)(E:mT bl cs.length=true)(k:∀i,i<its.length->on L i=true)
 (p:∀e∈bl,∀j,e.al=some j\/e.st=some j->j<its.length) (s:∀e∈bl,e.fin.length=e.before.length)
 (J:∀(new:List Nat) (w':Uq),new.length=bl.length-cs.length->St w0 k0 X (bl.map Bl.fin) (ks++new) w'->Q .normal (puts (ad (ks++new)) its a0) w'):Q .normal a w:=by
 obtain⟨C,-,μ,hμ,D,A,N⟩:=h;have I:=R.chk;simp only[allB,UK,beq_iff_eq]at I;obtain⟨⟨⟨⟨y,hd⟩,z⟩,v⟩,B⟩:=I;have K:=E;simp only[mT,UK,decide_eq_true_eq]at E;have f:∀(b:Nat) (e:Bl),bl[b]? = some e->e.live L=true:=λb e l=>by
  unfold Bl.live;cases g:e.al with
  | none=>rfl
  | some j=>exact k j (p e (VI l) j (U3 g))
 have u:∀(b:Nat) (e:Bl),bl[b]? = some e->e.now L=e.fin:=λb e l=>by
  unfold Bl.now Bl.put Bl.fin;cases g:e.st with
  | none=>rfl
  | some j =>
   have:=k j (p e (VI l) j (UW g));simp[this]
 have g:∀b,b<bl.length->ad (ks++(VF (bl.length-cs.length)).map (λj=>μ (cs.length+j))) b=μ b:=λb l=>by
  unfold ad;rw[VP];by_cases o:b<cs.length
  ·rw[US (by rw[n];exact o)];obtain⟨e,m⟩:∃e,bl[b]? = some e:=⟨bl[b],UF l⟩
   have t:=jR E.1 b e m;have q:e.al=none:=by simpa[o]using t
   rw[hμ b e m q];unfold ad;rw[VP]
  ·rw[U0 (by rw[n];omega),Vy,n,List.getElem?_range oM];show μ (cs.length+(b-cs.length))=μ b
   congr 1
   omega
 have q:=D.done hd (λit G d o=>by
  have:=U9.1 v it G;rw[o]at this;simpa using this) k
 have F:puts μ its a0=puts (ad (ks++(VF (bl.length-cs.length)).map (λj=>μ (cs.length+j)))) its a0:=by
  have key:∀it∈its,∀d,it.dst=some d->it.out.at μ=it.out.at (ad (ks++(VF (bl.length-cs.length)).map (λj=>μ (cs.length+j)))):=λit G d o=>by
   obtain⟨i,H⟩:=WI G;have M:=(D.got i it d H (k i (UE.1 H).1) o).2;refine SV.at_congr λb l=>?_
   obtain⟨e,m,-⟩:=M b l;rw[g b (UE.1 m).1]
  clear D q z B v hd y C R k p J;generalize a0=H;induction its generalizing H with
  | nil=>rfl
  | cons it r ih =>
   rw[puts,puts];have t:H.put it.dst (it.out.at μ)=H.put it.dst (it.out.at (ad (ks++(VF (bl.length-cs.length)).map (λj=>μ (cs.length+j))))):=by
    cases o:it.dst with
    | none=>rfl
    | some d=>rw[key it Vt d o]
   rw[t];exact ih (λx hx=>key x (Va _ hx)) _
 rw[q,F];refine J _ w (by simp) ⟨A.bel,A.le,?_,λb c p=>?_,λb c l p H=>?_⟩
 ·simp only[Uz,UP,List.length_range];omega
 ·rw[Vy]at p;cases m:bl[b]? with
  | none=>rw[m]at p;cases p
  | some e =>
   rw[m]at p;obtain rfl:e.fin=c:=UN.inj p;have t:=A.has b e m (f b e m);rw[u b e m]at t;rw[g b (UE.1 m).1,s e (VI m)];exact t
 ·rw[UP]at l p;rw[g b l,g c p];exact A.inj b c _ _ (UF l) (UF p) (f b _ (UF l)) (f c _ (UF p)) H
theorem region_draws'{id:Nat}{cs:List (List Us)}{ks:List Nat}(y:P.follows .mixedOrders=true)(q:St w0 k0 X cs ks w)(R:Reg P ops Q w0 k0 X its bl olds a0 (ad ks))(p:mT bl cs.length=true)(r:(bl.map (·.before)).take cs.length=cs)(hE:(∀e∈bl,∀j,e.al=some j\/e.st=some j->j<its.length)/\∀e∈bl,e.fin.length=e.before.length)
 (t:∀(new:List Nat) (w':Uq),new.length=bl.length-cs.length->St w0 k0 X (bl.map Bl.fin) (ks++new) w'->Q .normal (puts (ad (ks++new)) its a0) w'):(V3 id ops true).wp P Q a0 w:=by
 obtain⟨l,c⟩:=hE;have key:∀(k:Nat) (L:Array Bool) (a:Act) (w:Uq),unl L=k->Inv ops its bl a0 w0 k0 X (ad ks) L a w->wpAny P .any ops Q k L a w:=by
  intro k;induction k with
  | zero =>
   intro L a w u g;have f:∀i,i<its.length->on L i=true:=λi n=>kN u i (by rw[g.size];exact n)
   refine⟨?_,g.done R q.len p f l c t⟩;apply List.eq_nil_iff_forall_not_mem.2;intro i n;obtain⟨d,o,ho,-⟩:=mem_ready.1 n;have m:=f i (R.back ho).1;unfold on at m;rw[UH]at d m;cases hh:L[i]? with
   | none=>rw[hh]at d;cases d
   | some b=>rw[hh]at d m;rw[show b=false from d]at m;cases m
  | succ k ih =>
   intro L a w u g;refine⟨λv=>g.done R q.len p (R.full g v) l c t,λi n=>?_⟩;obtain⟨d,o,ho,m⟩:=mem_ready.1 n;have f:on L i=false:=by
    unfold on;rw[UH]at d⊢;cases hh:L[i]? with
    | none=>rfl
    | some b=>rw[hh]at d;exact d
   exact wpOp_mono (λx w' s=>ih _ x w' (by have:=lN d;omega) s) (R.step ho f m g)
 refine wp_region_any y (key _ _ a0 _ ?_ ?_)
 ·unfold unl;rw[Array.toList_replicate,List.countP_replicate];simp
 ·rw[R.size];exact zJ q.drew p r
theorem region_text'{id:Nat}{cs:List (List Us)}{ks:List Nat}(p:St w0 k0 X cs ks w)(R:Reg P ops Q w0 k0 X its bl olds a0 (ad ks))(o:mT bl cs.length=true)(g:(bl.map (·.before)).take cs.length=cs)(hE:(∀e∈bl,∀j,e.al=some j\/e.st=some j->j<its.length)/\∀e∈bl,e.fin.length=e.before.length)
 (l:∀(new:List Nat) (w':Uq),new.length=bl.length-cs.length->St w0 k0 X (bl.map Bl.fin) (ks++new) w'->Q .normal (puts (ad (ks++new)) its a0) w'):(V3 id ops false).wp P Q a0 w:=by
 obtain⟨f,k⟩:=hE;have key:∀(m i:Nat) (L:Array Bool) (a:Act) (w:Uq),i+m=its.length->(∀j,j<its.length->on L j=decide (j<i))->Inv ops its bl a0 w0 k0 X (ad ks) L a w->wpOps P ops Q (List.range' i m) a w:=by
  intro m;induction m with
  | zero =>
   intro i L a w u b d;exact d.done R p.len o (λj c=>by rw[b j c];simp;omega) f k l
  | succ m ih =>
   intro i L a w u b d;rw[List.range'_succ,wpOps_cons];have ho:ops[i]? = some (ops[i]'(by rw[R.size];omega)):=UZ _;refine wpOp_mono (λt w' l=>ih (i+1) _ t w' oM (λj c=>?_) l) (R.step ho (by rw[b i oM];simp) (λe s r=>?_) d)
   ·rw[eC (by rw[d.size];omega),b j c];by_cases q:j<i
    ·simp[q];omega
    ·by_cases n:i=j
     ·subst n;simp
     ·have:¬j<i+1:=oM;simp[q,n,this]
   ·have n:=(R.back ho).2 e s r;rw[b e.on oM];simpa using n
 refine wp_region ?_;rw[List.range_eq_range',R.size];refine key its.length 0 (UI its.length false) a0 w oM (λj c=>?_) (zJ p o g);unfold on;rw[UH,Yg,yCj c];simp
end RG
namespace RG
variable {P:VC}{Q:Yo->Act->Uq->Prop}{its:List It}{bl:List Bl}{olds:List (WB × SV)}{ops:Array Vj}{i:Nat}{o:Vj}{it:It}{w0:Uq}{k0:Nat}{X:List Nat}
theorem dY(d:it.kind=.stay)(b:∀(μ:Nat->Nat) (a:Act) (w:Uq),Known ops i its olds it.need μ a->BelX k0 X w0 w->(U4 a.eval o).run P w=.ok (.value (it.out.at μ)) w):Cert P Q w0 k0 X ops i its bl olds o it:=by
 intro μ a w K c _ k;rw[d];intro h;unfold VS;rw[b μ a w c k];exact h
theorem oI(s:it.kind=.stay)(b off:Nat)(e:Bl)(r:bl[b]? = some e)(l:e.al=none)(g:readB ops i e=true)(T:U7)(t:WB)(ho:o.op=.load T (.tmp t))(cs:List Us)(c:it.out=.v (.agg cs.toArray))
 (hx:∀(μ:Nat->Nat) (a:Act),Known ops i its olds it.need μ a->a.eval (.tmp t)=(SV.p b off).at μ) (k:(e.before.drop off).take cs.length=cs)
 (m:(P.underlying T).map (·.isRow)=some true) (x:(P.info? T).map (·.size)=some cs.length):Cert P Q w0 k0 X ops i its bl olds o it:=by
 intro μ a w K u hR _;rw[s];intro h;rw[c]at h;obtain⟨d,m,hd⟩:=Ux.1 m;refine wp_load_mid T (.tmp t) ho (μ b) off (hx μ a u) cs d (λj v f=>?_) m hd x h;have q:=hR b e r (U3 l) g (off+j) v ?_
 ·rw[UC]at q;exact q
 ·rw[<-k]at f;have n:j<cs.length:=by
   have p:=(UE.1 f).1;rw[k]at p;exact p
  rw[Wz,yCj n,Zp]at f;exact f
theorem tC(g:it.kind=.call)(f:Xp)(args:Array Us)(v:Us)(c:it.out=.v v)(b:∀(μ:Nat->Nat) (a:Act) (w:Uq),Known ops i its olds it.need μ a->BelX k0 X w0 w->(U4 a.eval o).run P w=.ok (.enter f args) w)
 (l:∀w,BelX k0 X w0 w->UG P f args w (rZ w λe w'=>e=v)):Cert P Q w0 k0 X ops i its bl olds o it:=by
 intro μ a w K j _ k;rw[g];intro h;rw[c]at h;unfold VS;rw[b μ a w j k,WX];refine(l w k).mono ?_;rintro e w' ⟨m,rfl,d,rfl⟩;exact h w' d
theorem Ah(b:Nat)(g:it.kind=.make b)(e:Bl)(j:bl[b]? = some e)(t:U7)(c:∀(μ:Nat->Nat) (a:Act) (w:Uq),Known ops i its olds it.need μ a->BelX k0 X w0 w->(U4 a.eval o).run P w=.ok (.value (it.out.at (upd μ b w.heap.size))) (w.alloc (.cells e.before.toArray t))):Cert P Q w0 k0 X ops i its bl olds o it:=by
 intro μ a w K f _ k;rw[g];intro e' d h;rw[j]at d;obtain rfl:e=e':=UN.inj d;unfold VS;rw[c μ a w f k];exact h _ _ (Made.alloc w e.before t)
theorem JU(b:Nat)(n:it.kind=.put b)(e:Bl)(m:bl[b]? = some e)(T:U7)(x y:XF)(ho:o.op=.store T x y)(d:o.dst=none)(k:e.after.length=e.before.length)
 (hx:∀(μ:Nat->Nat) (a:Act),Known ops i its olds it.need μ a->a.eval x=(SV.p b 0).at μ) (l:∀(μ:Nat->Nat) (a:Act),Known ops i its olds it.need μ a->a.eval y=.agg e.after.toArray)
 (q:(P.info? T).map (·.size)=some e.after.length) (r:e.after.all (·.oneCell')=true):Cert P Q w0 k0 X ops i its bl olds o it:=by
 intro μ a w K g _ _;rw[n];intro e' c j p h;rw[m]at c;obtain rfl:e=e':=UN.inj c;have f:=PutTo.whole j p k;refine wp_store_mid T x y ho (μ b) 0 e.after.toArray (hx μ a g) (l μ a g) ?_ ?_ ?_ ?_
 ·rw[VB,k];exact j
 ·rw[VB];exact q
 ·exact all_oneCell_toArray (λv hv=>U9.1 r v hv)
 ·have:=h _ f;rw[d]at this⊢;exact this
theorem Known.op{k:List (WB × Nat)}{μ:Nat->Nat}{a:Act}(h:Known ops i its olds k μ a)(t:WB)(j:Nat)(d:(t,j)∈k){b:It}(c:its[j]? = some b):a.eval (.tmp t)=b.out.at μ:=h.1 t j b d c
theorem Known.old{k:List (WB × Nat)}{μ:Nat->Nat}{a:Act}(h:Known ops i its olds k μ a)(t:WB)(s:SV)(b:(t,s)∈olds)(hf:Fo ops its i t=true):a.eval (.tmp t)=s.at μ:=h.2 t s b hf
theorem len1{l:List Nat}(h:l.length=1):∃k,l=[k]:=List.length_eq_one_iff.1 h
theorem len2{l:List Nat}(h:l.length=2):∃k j,l=[k,j]:=by
 match l,h with
 | [k,j],_=>exact⟨k,j,rfl⟩
end RG
namespace RG
variable {P:VC}{ops:Array Vj}{Q:Yo->Act->Uq->Prop}{w0 w:Uq}{k0:Nat}{X:List Nat}{its:List It}{bl:List Bl}{olds:List (WB × SV)}{a0:Act}{L:Array Bool}{μ μ0:Nat->Nat}{i:Nat}{o:Vj}{it:It}
def Certs(P:VC)(Q:Yo->Act->Uq->Prop)(e:Uq)(d:Nat)(X:List Nat)(k:Array Vj)(b:List It)(c:List Bl)(olds:List (WB × SV)):Nat->List Vj->List It->Prop
 | _,[],_=>True
 | _,_ :: _,[]=>False
 | i,o :: os,it :: is=>Cert P Q e d X k i b c olds o it/\Certs P Q e d X k b c olds (i+1) os is
theorem Certs.get:∀ {b:List Vj}{k:List It}{n:Nat},Certs P Q w0 k0 X ops its bl olds n b k->∀(i:Nat) (o:Vj) (it:It),b[i]? = some o->k[i]? = some it->Cert P Q w0 k0 X ops (n+i) its bl olds o it
 | [],_,_,_,i,_,_,h,_=>by simp at h
 | _ :: _,[],_,h,_,_,_,_,_=>h.elim
 | o :: b,it :: k,_,h,0,o',it',ho,hi=>by
  obtain rfl:o=o':=by simpa using ho
  obtain rfl:it=it':=by simpa using hi
  exact h.1
 | o :: b,it :: k,n,h,i+1,o',it',ho,hi=>by
  have:=Certs.get h.2 i o' it' (by simpa using ho) (by simpa using hi);rw[show n+(i+1)=n+1+i by omega];exact this
def Olds(a0:Act)(k:Nat->Nat):List (WB × SV)->Prop
 | []=>True
 | x :: r=>a0.tmps[x.1]? = some (x.2.at k)/\Olds a0 k r
theorem Olds.get:∀ {l:List (WB × SV)},Olds a0 μ0 l->∀(t:WB) (s:SV),(t,s)∈l->a0.tmps[t]? = some (s.at μ0)
 | [],_,_,_,h=>by cases h
 | x :: r,h,t,s,hm=>by
  rcases VW.1 hm with e|e
  ·subst e;exact h.1
  ·exact Olds.get h.2 t s e
theorem Reg.mk'(chk:allB ops its bl olds a0.tmps.size=true)(old:Olds a0 μ0 olds)(k:Certs P Q w0 k0 X ops its bl olds 0 ops.toList its):Reg P ops Q w0 k0 X its bl olds a0 μ0:=
 ⟨chk,λt s b=>old.get t s b,λi o it ho c=>by have:=k.get i o it (by rw[Vo];exact ho) c;rwa[UC]at this⟩
theorem yL(d:it.kind=.call)(f:Xp)(t1:WB)(v1 v:Us)(k:it.out=.v v)(b:∀(a:Act) (w:Uq),(U4 a.eval o).run P w=.ok (.enter f #[a.eval (.tmp t1)]) w)
 (j:∀(μ:Nat->Nat) (a:Act),Known ops i its olds it.need μ a->a.eval (.tmp t1)=v1) (g:∀w,UG P f #[v1] w (rZ w λe w'=>e=v)):Cert P Q w0 k0 X ops i its bl olds o it:=
 tC d f #[v1] v k (λμ a w c _=>by rw[b,j μ a c]) (λw _=>g w)
theorem Ng{b k:Nat}(c:it.out=.p b 0):it.out.at (upd μ b k)=jZ k:=by
 rw[c];show yBt (some ⟨upd μ b k b,0,none⟩)=_;unfold upd;rw[yCj rfl]
theorem qH(b:Nat)(c:it.kind=.make b)(k:it.out=.p b 0)(e:Bl)(f:bl[b]? = some e)(T:U7)(ho:o.op=.alloc T)(d:∀w:Uq,(yBG T true (.tuple #[])).run P w=.ok (jZ w.heap.size) (w.alloc (.cells e.before.toArray T))):Cert P Q w0 k0 X ops i its bl olds o it:=by
 refine Ah b c e f T λμ a w g _=>?_
 unfold U4;rw[ho];rw[Ng k];show((yBG T true (.tuple #[])) >>= λv=>pure (Xo v)).run P w=_;rw[UU,d];rfl
theorem aI{e:Func}{a:Act}{cs:List (List Us)}{ks:List Nat}(n:St w0 k0 X cs ks w)(t:WB)(T:U7)(g:e.results=#[.cell t T])(b:Nat)(c:List Us)(f:cs[b]? = some c)(l:a.tmps[t]? = some (.pointer (some ⟨ad ks b,0,none⟩)))
 (k:(P.underlying T).map (·.isRow)=some true) (i:(P.info? T).map (·.size)=some c.length):(results e a.tmps).run P w=.ok (.agg c.toArray) w:=by
 obtain⟨d,k,hd⟩:=Ux.1 k;have j:=Ye (P:=P) w (ad ks b) 0 T c d (n.has b c f).1 k hd i;have m:a.tmps.getD t WO=.pointer (some ⟨ad ks b,0,none⟩):=by rw[UH,l];rfl
 unfold results;rw[g];simp only[Xz,YP,YZ,m,asAddr];simp[UU,j]
theorem St.begin(w:Uq):St w w.heap.size [] [] [] w:=⟨BelX.refl _ _ _,Uv _,rfl,λb c h=>by simp at h,λb c h=>by simp at h⟩
end RG
namespace RG
variable {P:VC}{ops:Array Vj}{Q:Yo->Act->Uq->Prop}{w0 w:Uq}{k0:Nat}{X:List Nat}{its:List It}{bl:List Bl}{olds:List (WB × SV)}{a0:Act}{i:Nat}{o:Vj}{it:It}
theorem dD(k:it.kind=.pass)(h:it.out=.v WO):Cert P Q w0 k0 X ops i its bl olds o it:=by
 intro μ a w K _ _ _;rw[k];exact h
theorem aQ(e:it.kind=.stay)(op:BinOp)(T d:U7)(t1 t2:WB)(v1 v2 v:Us)(ho:o.op=.binOp op T (.tmp t1) (.tmp t2) d)(k:it.out=.v v)
 (j:∀(μ:Nat->Nat) (a:Act),Known ops i its olds it.need μ a->a.eval (.tmp t1)=v1) (g:∀(μ:Nat->Nat) (a:Act),Known ops i its olds it.need μ a->a.eval (.tmp t2)=v2)
 (f:∀w,(eqGuard op T (.tmp t1) (.tmp t2) v1 v2).run P w=.ok () w) (c:∀w,(binOp op T v1 v2).run P w=.ok v w):Cert P Q w0 k0 X ops i its bl olds o it:=by
 refine dY e λμ a w b _=>?_
 unfold U4;rw[ho,k];dsimp only;rw[j μ a b,g μ a b,UU,UU,f];dsimp only[ZT];rw[c];rfl
theorem jA{k:Func}{a:Act}(t:WB)(c:k.results=#[.tmp t])(v:Us)(d:a.tmps[t]? = some v):(results k a.tmps).run P w=.ok v w:=by
 have b:a.tmps.getD t WO=v:=by rw[UH,d];rfl
 unfold results;rw[c];simp only[Xz,YP,YZ,b];simp[UU]
theorem cQ{f:Func}{a:Act}{cs:List (List Us)}{ks:List Nat}(l:St w0 k0 X cs ks w)(t u:WB)(T:U7)(g:f.results=#[.cell t T,.tmp u])(b:Nat)(c:List Us)(m:cs[b]? = some c)(o:a.tmps[t]? = some (.pointer (some ⟨ad ks b,0,none⟩)))(v:Us)(e:a.tmps[u]? = some v)
 (k:(P.underlying T).map (·.isRow)=some true) (n:(P.info? T).map (·.size)=some c.length):(results f a.tmps).run P w=.ok (.tuple #[.agg c.toArray,v]) w:=by
 obtain⟨d,k,hd⟩:=Ux.1 k;have p:=Ye (P:=P) w (ad ks b) 0 T c d (l.has b c m).1 k hd n;have i:a.tmps.getD t WO=.pointer (some ⟨ad ks b,0,none⟩):=by rw[UH,o];rfl
 have j:a.tmps.getD u WO=v:=by rw[UH,e];rfl
 unfold results;rw[g];simp only[Xz,YP,YZ,i,j,asAddr];simp[UU,p]
end RG
namespace RG
variable {P:VC}{ops:Array Vj}{Q:Yo->Act->Uq->Prop}{w0 w:Uq}{k0:Nat}{X:List Nat}{its:List It}{bl:List Bl}{olds:List (WB × SV)}{a0 a:Act}{i:Nat}{o:Vj}{it:It}{μ:Nat->Nat}
structure Sl(a:Act)(n:Nat):Prop where
 size:a.tmps.size=n
 defers:a.defers=[]
theorem Sl.puts{n:Nat}(h:Sl a n):Sl (puts μ its a) n:=⟨by rw[zN];exact h.size,by rw[nE];exact h.defers⟩
theorem A7{t:WB}{v:Us}(h:a.tmps[t]? = some v):a.eval (.tmp t)=v:=by
 show a.tmps.getD t WO=v;rw[UH,h];rfl
theorem results_none{k:Func}{tmps:Array Us}(b:k.results=#[]):(results k tmps).run P w=.ok (.tuple #[]) w:=by
 unfold results;rw[b];simp
theorem Hx{c:Code}{v0:Us}{n:Nat}(k:a.tmps[0]? = some v0)(b:a.tmps.size=n)(hd:a.defers=[])(h:∀a,Sl a n->a.tmps[0]? = some v0->c.wp P Q a w):c.wp P Q a w:=h a ⟨b,hd⟩ k
theorem Ot{c:Code}{v0 v1:Us}{n:Nat}(d:a.tmps[0]? = some v0)(b:a.tmps[1]? = some v1)(k:a.tmps.size=n)(hd:a.defers=[])(h:∀a,Sl a n->a.tmps[0]? = some v0->a.tmps[1]? = some v1->c.wp P Q a w):c.wp P Q a w:=h a ⟨k,hd⟩ d b
theorem Ta{c:Code}{v0 v1 v2:Us}{n:Nat}(e:a.tmps[0]? = some v0)(d:a.tmps[1]? = some v1)(b:a.tmps[2]? = some v2)(k:a.tmps.size=n)(hd:a.defers=[])(h:∀a,Sl a n->a.tmps[0]? = some v0->a.tmps[1]? = some v1->a.tmps[2]? = some v2->c.wp P Q a w):c.wp P Q a w:=h a ⟨k,hd⟩ e d b
theorem mJ(b:Nat)(f:it.kind=.make b)(e:Bl)(d:bl[b]? = some e)(T E:U7)(t1 t2:WB)(n:Nat)(k:it.out=.s b n n)(ho:o.op=.makeSlice T (.tmp t1) (.tmp t2))
 (m:∀(μ:Nat->Nat) (a:Act),Known ops i its olds it.need μ a->a.eval (.tmp t1)=iZ n) (g:∀(μ:Nat->Nat) (a:Act),Known ops i its olds it.need μ a->a.eval (.tmp t2)=iZ n)
 (j:∀w:Uq,(Instr.makeSlice T (iZ n) (iZ n)).run P w=.ok (sZ w.heap.size n n) (w.alloc (.cells e.before.toArray E))):Cert P Q w0 k0 X ops i its bl olds o it:=by
 refine Ah b f e d E λμ a w c _=>?_
 have l:it.out.at (upd μ b w.heap.size)=sZ w.heap.size n n:=by
  rw[k];show Vv (some ⟨upd μ b w.heap.size b,0,none⟩) n n=_;unfold upd;rw[yCj rfl]
 unfold U4;rw[ho];dsimp only;rw[m μ a c,g μ a c,l,UU,j];rfl
theorem fQ(c:it.kind=.stay)(t:WB)(s:SV)(v:Us)(k:it.out=.v v)(hx:∀(μ:Nat->Nat) (a:Act),Known ops i its olds it.need μ a->a.eval (.tmp t)=s.at μ)
 (hE:∀(a:Act) (w:Uq),(U4 a.eval o).run P w=(U4 (λ_=>a.eval (.tmp t)) o).run P w) (d:∀(μ:Nat->Nat) (w:Uq),(U4 (λ_=>s.at μ) o).run P w=.ok (.value v) w):Cert P Q w0 k0 X ops i its bl olds o it:=by
 refine dY c λμ a w b _=>?_
 rw[hE,hx μ a b,d,k];rfl
theorem D5(s:it.kind=.call)(b:Nat)(e:Bl)(n:bl[b]? = some e)(j:e.al=none)(g:readB ops i e=true)(q:e.before≠[])(f:Xp)(args:(Nat->Nat)->Array Us)(v:Us)(d:it.out=.v v)(k:∀(μ:Nat->Nat) (a:Act) (w:Uq),Known ops i its olds it.need μ a->(U4 a.eval o).run P w=.ok (.enter f (args μ)) w)
 (y:∀(μ:Nat->Nat) (w:Uq),μ b<w.heap.size->w.rangeAt (μ b) 0 e.before->UG P f (args μ) w (rZ w λr w'=>r=v)):Cert P Q w0 k0 X ops i its bl olds o it:=by
 intro μ a w K t hR _;rw[s];intro h;rw[d]at h;have m:=hR b e n (U3 j) g;have l:μ b<w.heap.size:=by
  cases c:e.before with
  | nil=>exact absurd c q
  | cons x r =>
   have p:=m 0 x (by rw[c];rfl);exact Ws λz=>by
    have u:w.heap[μ b]? = none:=WM oM;simp[VX,u]at p
 unfold VS;rw[k μ a w t,WX];refine(y μ w l m).mono ?_;rintro r w' ⟨p,rfl,c,rfl⟩;exact h w' c
theorem rV{k o:Nat}{C cs:List Us}(h:w.rangeAt k 0 C)(c:∀j,j<cs.length->C[o+j]? = cs[j]?):w.rangeAt k o cs:=λj v hv=>by
 have b:=(UE.1 hv).1;have:=h (o+j) v (by rw[c j b];exact hv);rwa[UC]at this
theorem bD(b:it.kind=.stay)(T:U7)(t u:WB)(ho:o.op=.indexAddr T (.tmp t) (.tmp u))(s:SV)(iv:Us)(hx:∀(μ:Nat->Nat) (a:Act),Known ops i its olds it.need μ a->a.eval (.tmp t)=s.at μ)(c:∀(μ:Nat->Nat) (a:Act),Known ops i its olds it.need μ a->a.eval (.tmp u)=iv)
 (hf:∀(μ:Nat->Nat) (w:Uq),(Vk T (s.at μ) iv).run P w=.ok (it.out.at μ) w):Cert P Q w0 k0 X ops i its bl olds o it:=by
 refine dY b λμ a w k _=>?_
 unfold U4;rw[ho];dsimp only;rw[hx μ a k,c μ a k,UU,hf];rfl
theorem eM(b:it.kind=.stay)(T:U7)(t:WB)(iv:Us)(ho:o.op=.indexAddr T (.tmp t) (.const iv))(s:SV)(hx:∀(μ:Nat->Nat) (a:Act),Known ops i its olds it.need μ a->a.eval (.tmp t)=s.at μ)
 (hf:∀(μ:Nat->Nat) (w:Uq),(Vk T (s.at μ) iv).run P w=.ok (it.out.at μ) w):Cert P Q w0 k0 X ops i its bl olds o it:=by
 refine dY b λμ a w k _=>?_
 unfold U4;rw[ho];dsimp only;rw[hx μ a k];show((Vk T (s.at μ) iv) >>= λv=>pure (Xo v)).run P w=_;rw[UU,hf];rfl
theorem aP(c:it.kind=.stay)(op:BinOp)(T g:U7)(t1:WB)(v1 v2 v:Us)(ho:o.op=.binOp op T (.tmp t1) (.const v2) g)(k:it.out=.v v)
 (d:∀(μ:Nat->Nat) (a:Act),Known ops i its olds it.need μ a->a.eval (.tmp t1)=v1)
 (e:∀w,(eqGuard op T (.tmp t1) (.const v2) v1 v2).run P w=.ok () w) (f:∀w,(binOp op T v1 v2).run P w=.ok v w):Cert P Q w0 k0 X ops i its bl olds o it:=by
 refine dY c λμ a w b _=>?_
 unfold U4;rw[ho,k];dsimp only;rw[d μ a b];show(((eqGuard op T (.tmp t1) (.const v2) v1 v2) >>= λ_=>binOp op T v1 v2) >>= λv=>pure (Xo v)).run P w=_;rw[UU,UU,e];dsimp only[ZT];rw[f];rfl
theorem GV(d:it.kind=.stay)(S T:U7)(t:WB)(v b:Us)(ho:o.op=.convert S T (.tmp t))(k:it.out=.v b)(hx:∀(μ:Nat->Nat) (a:Act),Known ops i its olds it.need μ a->a.eval (.tmp t)=v)(e:∀w,(convert S T v).run P w=.ok b w):Cert P Q w0 k0 X ops i its bl olds o it:=by
 refine dY d λμ a w c _=>?_
 unfold U4;rw[ho,k];dsimp only;rw[hx μ a c,UU,e];rfl
theorem MY(d:it.kind=.stay)(op:UnOp)(T:U7)(t:WB)(v b:Us)(ho:o.op=.unOp op T (.tmp t))(k:it.out=.v b)(hx:∀(μ:Nat->Nat) (a:Act),Known ops i its olds it.need μ a->a.eval (.tmp t)=v)(e:∀w,(Op.unary op v).run P w=.ok b w):Cert P Q w0 k0 X ops i its bl olds o it:=by
 refine dY d λμ a w c _=>?_
 unfold U4;rw[ho,k];dsimp only;rw[hx μ a c,UU,e];rfl
theorem eH(g:it.kind=.stay)(k off:Nat)(c:k<k0)(l:k ∉ X)(T:U7)(t:WB)(ho:o.op=.load T (.tmp t))(cs:List Us)(b:it.out=.v (.agg cs.toArray))
 (hx:∀(μ:Nat->Nat) (a:Act),Known ops i its olds it.need μ a->a.eval (.tmp t)=oZ k off) (m:w0.rangeAt k off cs)
 (e:(P.underlying T).map (·.isRow)=some true) (q:(P.info? T).map (·.size)=some cs.length):Cert P Q w0 k0 X ops i its bl olds o it:=by
 intro μ a w K p _ f;rw[g];intro h;rw[b]at h;obtain⟨d,e,hd⟩:=Ux.1 e;refine wp_load_mid T (.tmp t) ho k off (hx μ a p) cs d (λj v n=>?_) e hd q h;rw[UV (w:=w0) (a:=⟨k,off+j,none⟩) (f.block k c l)];exact m j v n
theorem fD{T:U7}{k off:Nat}{v:Us}(e:w.cell? ⟨k,off,none⟩=some v)(c:(P.underlying T).map (·.isRow)=some false):(ZB T (oZ k off)).run P w=.ok v w:=by
 obtain⟨d,c,hd⟩:=Ux.1 c;have b:(isAgg T).run P w=.ok false w:=by
  unfold isAgg;rw[UU,run_underlying c w];cases d<;>simp_all
 simp[ZB,X4,loadVar,UU,b,e]
theorem yK(l:it.kind=.stay)(b off:Nat)(e:Bl)(j:bl[b]? = some e)(f:e.al=none)(d:readB ops i e=true)(T:U7)(t:WB)(ho:o.op=.load T (.tmp t))(v:Us)(c:it.out=.v v)
 (hx:∀(μ:Nat->Nat) (a:Act),Known ops i its olds it.need μ a->a.eval (.tmp t)=(SV.p b off).at μ) (k:e.before[off]? = some v)
 (n:(P.underlying T).map (·.isRow)=some false):Cert P Q w0 k0 X ops i its bl olds o it:=by
 intro μ a w K m hR _;rw[l];intro h;rw[c]at h;have g:=hR b e j (U3 f) d off v k;rw[UC]at g;unfold VS U4;rw[ho];dsimp only;rw[hx μ a m];show o.upon P a K Q (((ZB T (.pointer (some ⟨μ b,off,none⟩))) >>= λv=>pure (Xo v)).run P w);rw[UU,fD g n];exact h
theorem wL{T:U7}{k off:Nat}{v u:Us}(e:w.cell? ⟨k,off,none⟩=some u)(hf:w.frozen? ⟨k,off,none⟩=false)(f:v.oneCell'=true)(hv:v.cells=#[v])(d:(P.info? T).map (·.size)=some 1):(Yw T (oZ k off) v).run P w=.ok () (w.setCells k off [v]):=by
 have:=run_storeCells_cells (P:=P) k off [v] 0 w (λj b=>by
  obtain rfl:j=0:=by simpa using b
  simp[e]) (λj b=>by
  obtain rfl:j=0:=by simpa using b
  simpa using hf) (λx hx=>by
  obtain rfl:x=v:=by simpa using hx
  exact f)
 cases c:P.info? T with
 | none=>simp[c]at d
 | some inf =>
  have g:inf.size=1:=by simp[c]at d;omega
  simp only[XA]at this;simp[Yw,X4,storeVar,sizeOf,typeInfo,c,hv,g,this]
theorem GU(b off:Nat)(r:it.kind=.put b)(e:Bl)(q:bl[b]? = some e)(T:U7)(x y:XF)(v:Us)(ho:o.op=.store T x y)(d:o.dst=none)
 (hx:∀(μ:Nat->Nat) (a:Act),Known ops i its olds it.need μ a->a.eval x=(SV.p b off).at μ) (p:∀(μ:Nat->Nat) (a:Act),Known ops i its olds it.need μ a->a.eval y=v) (k:off<e.before.length) (c:e.after=e.before.set off v)
 (t:(P.info? T).map (·.size)=some 1) (z:v.oneCell'=true) (hv:v.cells=#[v]):Cert P Q w0 k0 X ops i its bl olds o it:=by
 intro μ a w K m _ _;rw[r];intro e' f n s h;rw[q]at f;obtain rfl:e=e':=UN.inj f;have g:PutTo (μ b) e.before.length e.after w (w.setCells (μ b) off [v]):=PutTo.store n s (by simp only[Vh,WF];omega) (λj=>by
  rw[c,List.getElem?_set];by_cases l:off=j
  ·subst l;rw[yCj rfl,yCj k,yCj (by simp)];simp
  ·rw[yCk l,yCk (by simp only[Vh,WF];omega)])
 have c:=n off k;rw[UC]at c;obtain⟨u,l⟩:=Vq.1 c.1;unfold VS U4;rw[ho];dsimp only;rw[hx μ a m,p μ a m];show o.upon P a K Q (((Yw T (.pointer (some ⟨μ b,off,none⟩)) v) >>= λ_=>pure Next.skip).run P w);rw[UU,wL l c.2 z hv t];have:=h _ g;rw[d]at this;show K (a.put o.dst WO) _;rw[d];exact this
theorem eZ(b off:Nat)(q:it.kind=.put b)(e:Bl)(p:bl[b]? = some e)(T:U7)(x y:XF)(vs:List Us)(ho:o.op=.store T x y)(f:o.dst=none)
 (hx:∀(μ:Nat->Nat) (a:Act),Known ops i its olds it.need μ a->a.eval x=(SV.p b off).at μ) (n:∀(μ:Nat->Nat) (a:Act),Known ops i its olds it.need μ a->a.eval y=.agg vs.toArray) (d:off+vs.length<=e.before.length)
 (k:∀j,e.after[j]? = if off<=j/\j<off+vs.length then vs[j-off]? else e.before[j]?)
 (t:(P.info? T).map (·.size)=some vs.length) (u:vs.all (·.oneCell')=true):Cert P Q w0 k0 X ops i its bl olds o it:=by
 intro μ a w K l _ _;rw[q];intro e' c m r h;rw[p]at c;obtain rfl:e=e':=UN.inj c;have g:=PutTo.store m r d k;refine wp_store_mid T x y ho (μ b) off vs.toArray (hx μ a l) (n μ a l) ?_ ?_ ?_ ?_
 ·intro j s;have:=m (off+j) (by rw[VB]at s;omega);rwa[UC]at this
 ·rw[VB];exact t
 ·exact all_oneCell_toArray (λv hv=>U9.1 u v hv)
 ·have:=h _ g;rw[f]at this⊢;exact this
theorem Bh(b:Nat)(l:it.kind=.put b)(e:Bl)(j:bl[b]? = some e)(f:Xp)(args:(Nat->Nat)->Array Us)(v:Us)(d:it.out=.v v)(c:∀(μ:Nat->Nat) (a:Act) (w:Uq),Known ops i its olds it.need μ a->BelX k0 X w0 w->(U4 a.eval o).run P w=.ok (.enter f (args μ)) w)
 (q:∀(μ:Nat->Nat) (w:Uq),BelX k0 X w0 w->w.there (μ b) 0 e.before.length->w.rangeAt (μ b) 0 e.before->UG P f (args μ) w (Ret λr w'=>PutTo (μ b) e.before.length e.after w w'/\r=v)):Cert P Q w0 k0 X ops i its bl olds o it:=by
 intro μ a w K p _ k;rw[l];intro e' g s m h;rw[j]at g;obtain rfl:e=e':=UN.inj g;rw[d]at h;unfold VS;rw[c μ a w p k,WX];refine(q μ w k s m).mono ?_;rintro r w' ⟨t,rfl,n,rfl⟩;exact h w' n
theorem St.lent{k:Nat}{C:List Us}(e:k<w.heap.size)(g:w.rangeAt k 0 C)(j:w.there k 0 C.length):St w w.heap.size [k] [C] [k] w:=by
 refine⟨BelX.refl _ _ _,Uv _,rfl,λb c h=>?_,λb c i f d=>?_⟩
 ·cases b with
  | zero =>
   obtain rfl:C=c:=by simpa using h
   exact⟨g,j,e,UW Vt⟩
  | succ b=>simp at h
 ·simp only[Vh,WF]at i f;omega
theorem St.putTo{k:Nat}{C:List Us}{cs:List (List Us)}{ks:List Nat}{n:Nat}(h:St w0 w0.heap.size [k] (C :: cs) (k :: ks) w)(c:C.length=n):PutTo k n C w0 w:=by
 obtain⟨f,d,-,-⟩:=h.has 0 C rfl;refine⟨h.bel.os,h.bel.tape,h.bel.output,h.bel.size,λj e b=>h.bel.block j e (by simpa using b),f,?_⟩;rw[<-c];exact d
def rep(C:List Us)(o:Nat)(vs:List Us):List Us:=C.take o++(vs++C.drop (o+vs.length))
theorem cU{C vs:List Us}{o:Nat}(h:o+vs.length<=C.length):(rep C o vs).length=C.length:=by
 unfold rep;rw[Uz,Uz,WE,ZI];omega
theorem rep_at{C vs:List Us}{o:Nat}(h:o+vs.length<=C.length)(j:Nat):(rep C o vs)[j]? = if o<=j/\j<o+vs.length then vs[j-o]? else C[j]?:=by
 unfold rep;have k:(C.take o).length=o:=by rw[WE];omega
 by_cases b:j<o
 ·rw[US (by rw[k];exact b),Wz,yCj b,yCk oM]
 ·rw[U0 (by rw[k];omega),k];by_cases c:j<o+vs.length
  ·rw[US oM,yCj ⟨oM,c⟩]
  ·rw[U0 oM,yCk oM,Zp]
   congr 1
   omega
theorem Oz{C cs:List Us}{o:Nat}(h:∀j,j<cs.length->C[o+j]? = cs[j]?)(b:o+cs.length<=C.length):(C.drop o).take cs.length=cs:=by
 apply List.ext_getElem?;intro j;by_cases k:j<cs.length
 ·rw[Wz,yCj k,Zp,h j k]
 ·rw[Ww (by rw[WE,ZI];omega),Ww oM]
theorem yZ(b:Nat)(m:it.kind=.put b)(e:Bl)(l:bl[b]? = some e)(f:Xp)(t1 t2 j:WB)(s1:SV)(v2 d v:Us)(c:it.out=.v v)(k:∀(a:Act) (w:Uq),(U4 a.eval o).run P w=.ok (.enter f #[a.eval (.tmp t1),a.eval (.tmp t2),a.eval (.tmp j)]) w)
 (u:∀(μ:Nat->Nat) (a:Act),Known ops i its olds it.need μ a->a.eval (.tmp t1)=s1.at μ) (p:∀(μ:Nat->Nat) (a:Act),Known ops i its olds it.need μ a->a.eval (.tmp t2)=v2) (q:∀(μ:Nat->Nat) (a:Act),Known ops i its olds it.need μ a->a.eval (.tmp j)=d)
 (s:∀(μ:Nat->Nat) (w:Uq),w.there (μ b) 0 e.before.length->w.rangeAt (μ b) 0 e.before->UG P f #[s1.at μ,v2,d] w (Ret λr w'=>PutTo (μ b) e.before.length e.after w w'/\r=v)):Cert P Q w0 k0 X ops i its bl olds o it:=
 Bh b m e l f (λμ=>#[s1.at μ,v2,d]) v c (λμ a w g _=>by rw[k,u μ a g,p μ a g,q μ a g]) (λμ w _ t n=>s μ w t n)
theorem CE(n:it.kind=.call)(b:Nat)(e:Bl)(l:bl[b]? = some e)(g:e.al=none)(d:readB ops i e=true)(m:e.before≠[])(f:Xp)(t1 t2:WB)(s1:SV)(v2 v:Us)(c:it.out=.v v)(k:∀(a:Act) (w:Uq),(U4 a.eval o).run P w=.ok (.enter f #[a.eval (.tmp t1),a.eval (.tmp t2)]) w)
 (s:∀(μ:Nat->Nat) (a:Act),Known ops i its olds it.need μ a->a.eval (.tmp t1)=s1.at μ) (p:∀(μ:Nat->Nat) (a:Act),Known ops i its olds it.need μ a->a.eval (.tmp t2)=v2)
 (q:∀(μ:Nat->Nat) (w:Uq),μ b<w.heap.size->w.rangeAt (μ b) 0 e.before->UG P f #[s1.at μ,v2] w (rZ w λr w'=>r=v)):Cert P Q w0 k0 X ops i its bl olds o it:=
 D5 n b e l g d m f (λμ=>#[s1.at μ,v2]) v c (λμ a w j=>by rw[k,s μ a j,p μ a j]) q
end RG
namespace RG
variable {P:VC}{ops:Array Vj}{Q:Yo->Act->Uq->Prop}{w0 w:Uq}{k0:Nat}{X:List Nat}{its:List It}{bl:List Bl}{olds:List (WB × SV)}{a:Act}{i:Nat}{o:Vj}{it:It}
theorem uF(d:it.kind=.stay)(T:U7)(t:WB)(b v c:Us)(ho:o.op=.slice T (.tmp t) (some (.const b)) none none)(k:it.out=.v c)(hx:∀(μ:Nat->Nat) (a:Act),Known ops i its olds it.need μ a->a.eval (.tmp t)=v)
 (hf:∀w:Uq,(Xm T v (some b) none none).run P w=.ok c w):Cert P Q w0 k0 X ops i its bl olds o it:=by
 refine dY d λμ a w e _=>?_
 unfold U4;rw[ho,k];dsimp only;rw[hx μ a e];show((Xm T v (some b) none none) >>= λv=>pure (Xo v)).run P w=_;rw[UU,hf];rfl
theorem CC(d:it.kind=.stay)(T:U7)(t:WB)(v b:Us)(ho:o.op=.sliceToArrayPointer T (.tmp t))(k:it.out=.v b)(hx:∀(μ:Nat->Nat) (a:Act),Known ops i its olds it.need μ a->a.eval (.tmp t)=v)
 (hf:∀w:Uq,(Instr.arrayAt T v).run P w=.ok b w):Cert P Q w0 k0 X ops i its bl olds o it:=by
 refine dY d λμ a w c _=>?_
 unfold U4;rw[ho,k];dsimp only;rw[hx μ a c,UU,hf];rfl
theorem bM(e:it.kind=.stay)(k off:Nat)(c:k<k0)(f:k ∉ X)(T:U7)(t:WB)(ho:o.op=.load T (.tmp t))(v:Us)(b:it.out=.v v)
 (hx:∀(μ:Nat->Nat) (a:Act),Known ops i its olds it.need μ a->a.eval (.tmp t)=oZ k off) (g:w0.cell? ⟨k,off,none⟩=some v)
 (l:(P.underlying T).map (·.isRow)=some false):Cert P Q w0 k0 X ops i its bl olds o it:=by
 refine dY e λμ a w j d=>?_
 have m:w.cell? ⟨k,off,none⟩=some v:=by
  rw[UV (w:=w0) (a:=⟨k,off,none⟩) (d.block k c f)];exact g
 unfold U4;rw[ho,b];dsimp only;rw[hx μ a j,UU,fD m l];rfl
theorem kH(d:it.kind=.call)(f:Xp)(t1 t2:WB)(v1 v2 v:Us)(b:it.out=.v v)(k:∀(a:Act) (w:Uq),(U4 a.eval o).run P w=.ok (.enter f #[a.eval (.tmp t1),a.eval (.tmp t2)]) w)
 (l:∀(μ:Nat->Nat) (a:Act),Known ops i its olds it.need μ a->a.eval (.tmp t1)=v1) (g:∀(μ:Nat->Nat) (a:Act),Known ops i its olds it.need μ a->a.eval (.tmp t2)=v2)
 (j:∀w,BelX k0 X w0 w->UG P f #[v1,v2] w (rZ w λe w'=>e=v)):Cert P Q w0 k0 X ops i its bl olds o it:=
 tC d f #[v1,v2] v b (λμ a w c _=>by rw[k,l μ a c,g μ a c]) j
theorem uG(d:it.kind=.call)(f:Xp)(t1:WB)(v1 v:Us)(k:it.out=.v v)(b:∀(a:Act) (w:Uq),(U4 a.eval o).run P w=.ok (.enter f #[a.eval (.tmp t1)]) w)
 (j:∀(μ:Nat->Nat) (a:Act),Known ops i its olds it.need μ a->a.eval (.tmp t1)=v1)
 (g:∀w,BelX k0 X w0 w->UG P f #[v1] w (rZ w λe w'=>e=v)):Cert P Q w0 k0 X ops i its bl olds o it:=
 tC d f #[v1] v k (λμ a w c _=>by rw[b,j μ a c]) g
theorem St.init{cs:List (List Us)}{c:List Us}{ks:List Nat}{k:Nat}(h:St w0 k0 X (cs++[c]) (ks++[k]) w):St w0 k0 X cs ks w:=by
 have j:ks.length=cs.length:=by have:=h.len;simp only[Uz,Vh,WF]at this;omega
 have d:∀b,b<cs.length->ad (ks++[k]) b=ad ks b:=λb e=>by
  unfold ad;rw[VP,VP,US oM]
 refine⟨h.bel,h.le,j,λb g e=>?_,λb g e l i=>?_⟩
 ·have f:=(UE.1 e).1;have:=h.has b g (by rw[US f];exact e);rwa[d b f]at this
 ·have:=h.inj b g (by rw[Uz];omega) (by rw[Uz];omega) i;rwa[d b e,d g l]at this
theorem fX{b:Func}{a:Act}(t u:WB)(e:b.results=#[.tmp t,.tmp u])(v k:Us)(f:a.tmps[t]? = some v)(c:a.tmps[u]? = some k):(results b a.tmps).run P w=.ok (.tuple #[v,k]) w:=by
 have d:a.tmps.getD t WO=v:=by rw[UH,f];rfl
 have g:a.tmps.getD u WO=k:=by rw[UH,c];rfl
 unfold results;rw[e];simp only[Xz,YP,YZ,d,g];simp[UU]
end RG
namespace RG
variable {P:VC}{ops:Array Vj}{Q:Yo->Act->Uq->Prop}{w0 w:Uq}{k0 n:Nat}{X:List Nat}{its:List It}{bl:List Bl}{os:List (WB × SV)}{a:Act}{i:Nat}{o:Vj}{it:It}{μ:Nat->Nat}{need:List (WB × Nat)}
def src(c:Array Vj)(b:List It)(d:List (WB × SV))(k:List (WB × Nat))(i:Nat)(t:WB):Option SV:=
 match k.find? (λx=>x.1 == t) with
 | some x=>(b[x.2]?).map (·.out)
 | none=>match d.find? (λx=>x.1 == t) with
  | some x=>bif Fo c b i t then some x.2 else none
  | none=>none
theorem mU{t:WB}{s:SV}(h:src ops its os need i t=some s)(K:Known ops i its os need μ a):a.eval (.tmp t)=s.at μ:=by
 unfold src at h;cases k:need.find? (λx=>x.1 == t) with
 | some x =>
  rw[k]at h;dsimp only at h;have c:=WN k;have b:x.1=t:=by simpa using Yd k
  obtain⟨e,d,rfl⟩:=Ux.1 h;exact K.op t x.2 (by rw[<-b];exact c) d
 | none =>
  rw[k]at h;dsimp only at h;cases ho:os.find? (λx=>x.1 == t) with
  | none=>rw[ho]at h;cases h
  | some x =>
   rw[ho]at h;dsimp only at h;have c:=WN ho;have b:x.1=t:=by simpa using Yd ho
   cases hf:Fo ops its i t with
   | false=>rw[hf]at h;cases h
   | true =>
    rw[hf]at h;obtain rfl:x.2=s:=UN.inj h;exact K.old t x.2 (by rw[<-b];exact c) hf
theorem sx{t:WB}{f:(Nat->Nat)->Us}(h:∀μ:Nat->Nat,(src ops its os need i t).map (λs=>s.at μ)=some (f μ):=by intro _;kernel_rfl):∀(μ:Nat->Nat) (a:Act),Known ops i its os need μ a->a.eval (.tmp t)=f μ:=λμ _ K=>by
 obtain⟨s,b,k⟩:=Ux.1 (h μ);rw[mU b K];exact k
def ro(b:Array Vj)(c:List It)(d:List (WB × SV))(k:List (WB × Nat))(i:Nat)(μ:Nat->Nat):XF->Us
 | .tmp t=>match src b c d k i t with|some s=>s.at μ|none=>WO
 | .const v=>v
 | .global g=>jZ g
 | .func f=>.func (.func f) #[] #[]
def seen(b:Array Vj)(c:List It)(d:List (WB × SV))(k:List (WB × Nat))(i:Nat)(o:Vj):Bool:=
 (match o.op with | .select _ _=>false|_=>true) && o.op.operands.all (λx=>match x with | .tmp t=>(src b c d k i t).isSome|_=>true)
theorem oD(h:seen ops its os need i o=true)(K:Known ops i its os need μ a):U4 a.eval o=U4 (ro ops its os need i μ) o:=by
 simp only[seen,UK]at h;refine execOp_congr o (λcs b d=>?_) (λx hx=>?_)
 ·rw[d]at h;exact absurd h.1 (by simp)
 ·have k:=WW.1 h.2 x hx;cases x with
  | tmp t =>
   dsimp only at k;obtain⟨s,c⟩:=Vq.1 k;rw[mU c K];show _=(match src ops its os need i t with|some s=>s.at μ|none=>WO);rw[c]
  | const v=>rfl
  | global g=>rfl
  | func f=>rfl
theorem st(h:∀(μ:Nat->Nat) (w:Uq),((seen ops its os it.need i o,it.kind),(U4 (ro ops its os it.need i μ) o).run P w)=((true,Kind.stay),.ok (.value (it.out.at μ)) w):=by intro _ _;kernel_rfl):Cert P Q w0 k0 X ops i its bl os o it:=by
 intro μ a w K d _ c;have k:=h μ w;simp only[V5.injEq]at k;rw[k.1.2];intro b;unfold VS;rw[oD k.1.1 d,k.2];exact b
theorem se{v d:Us}(e:d=v)(h:∀(μ:Nat->Nat) (w:Uq),((seen ops its os it.need i o,it.kind,it.out),(U4 (ro ops its os it.need i μ) o).run P w)=((true,Kind.stay,SV.v v),.ok (.value d) w):=by intro _ _;kernel_rfl):Cert P Q w0 k0 X ops i its bl os o it:=by
 intro μ a w K f _ c;have k:=h μ w;simp only[V5.injEq]at k;rw[k.1.2.1];intro b;rw[k.1.2.2]at b;unfold VS;rw[oD k.1.1 f,k.2,e];exact b
theorem mk(b:Nat)(T:U7)(h:∀(μ:Nat->Nat) (w:Uq),((seen ops its os it.need i o,it.kind),(U4 (ro ops its os it.need i μ) o).run P w)=((true,Kind.make b),.ok (.value (it.out.at (upd μ b w.heap.size))) (w.alloc (.cells (((bl[b]?).map (·.before)).getD []).toArray T))):=by intro _ _;kernel_rfl):Cert P Q w0 k0 X ops i its bl os o it:=by
 intro μ a w K d _ c;have k:=h μ w;simp only[V5.injEq]at k;rw[k.1.2];intro e f g;unfold VS;rw[oD k.1.1 d,k.2,f];exact g _ _ (Made.alloc w e.before T)
theorem clB{f:Xp}{args:Array Us}{v:Us}(h:∀(μ:Nat->Nat) (w:Uq),((seen ops its os it.need i o,it.kind,it.out),(U4 (ro ops its os it.need i μ) o).run P w)=((true,Kind.call,SV.v v),.ok (.enter f args) w))
 (j:∀w,BelX k0 X w0 w->UG P f args w (rZ w λe w'=>e=v)):Cert P Q w0 k0 X ops i its bl os o it:=by
 intro μ a w K g _ b;have k:=h μ w;simp only[V5.injEq]at k;rw[k.1.2.1];intro c;rw[k.1.2.2]at c;unfold VS;rw[oD k.1.1 g,k.2,WX];refine(j w b).mono ?_;rintro e w' ⟨l,rfl,d,rfl⟩;exact c w' d
theorem cl{f:Xp}{args:Array Us}{v:Us}(k:∀w,UG P f args w (rZ w λe w'=>e=v))(h:∀(μ:Nat->Nat) (w:Uq),((seen ops its os it.need i o,it.kind,it.out),(U4 (ro ops its os it.need i μ) o).run P w)=((true,Kind.call,SV.v v),.ok (.enter f args) w):=by intro _ _;kernel_rfl):Cert P Q w0 k0 X ops i its bl os o it:=
 clB h (λw _=>k w)
theorem cm(b:Nat){f:Xp}{args:Array Us}{c:List Us}(x:∀w,BelX k0 X w0 w->UG P f args w (Ret λe w'=>∃k,Made w k c w'/\e=it.out.at (λ_=>k)))
 (h:∀(μ:Nat->Nat) (w:Uq),((seen ops its os it.need i o,it.kind,(bl[b]?).map (·.before),it.out.blk),(U4 (ro ops its os it.need i μ) o).run P w)=((true,Kind.make b,some c,some b),.ok (.enter f args) w)):Cert P Q w0 k0 X ops i its bl os o it:=by
 intro μ a w K s _ d;have j:=h μ w;simp only[V5.injEq]at j;obtain⟨⟨n,t,l,u⟩,y⟩:=j;rw[t];intro e m q;rw[m]at l;obtain rfl:e.before=c:=UN.inj l;unfold VS;rw[oD n s,y,WX];refine(x w d).mono ?_;rintro r w' ⟨B,rfl,k,v,rfl⟩;have p:it.out.at (upd μ b k)=it.out.at (λ_=>k):=SV.at_congr λz g=>by
  rw[u]at g;obtain rfl:=UN.inj g;unfold upd;rw[yCj rfl]
 have:=q k w' v;rw[p]at this;exact this
def Bj(k:Array Vj)(i:Nat)(o:Vj)(c:List Bl)(b:Nat):Bool:=match c[b]? with
 | some e=>(match e.al with|none=>true|some j=>dB o j) && readB k i e
 | none=>false
def Seen(k:List Bl)(c:List Nat)(μ:Nat->Nat)(w:Uq):Prop:=∀b∈c,∀e:Bl,k[b]? = some e->e.before≠[]->w.rangeAt (μ b) 0 e.before/\μ b<w.heap.size
theorem LJ{l:List Nat}(ho:ops[i]? = some o)(h:l.all (Bj ops i o bl)=true)(hR:Reads ops i bl μ w):Seen bl l μ w:=λb n e g d=>by
 have k:=U9.1 h b n;unfold Bj at k;rw[g]at k;dsimp only at k;rw[UK]at k;have f:=hR b e g (by
  cases c:e.al with
  | none=>exact U3 rfl
  | some j=>rw[c]at k;exact UW ⟨o,j,ho,rfl,k.1⟩) k.2
 refine⟨f,?_⟩;cases c:e.before with
 | nil=>exact absurd c d
 | cons x r =>
  have m:=f 0 x (by rw[c];rfl);exact Ws λq=>by
   have p:w.heap[μ b]? = none:=WM oM;simp[VX,p]at m
theorem cr(d:List Nat){f:Xp}{args:(Nat->Nat)->Array Us}{v:Us}(q:∀(μ:Nat->Nat) (w:Uq),BelX k0 X w0 w->Seen bl d μ w->UG P f (args μ) w (rZ w λe w'=>e=v))
 (h:∀(μ:Nat->Nat) (w:Uq),((seen ops its os it.need i o,it.kind,it.out,d.all (Bj ops i o bl),ops[i]?),(U4 (ro ops its os it.need i μ) o).run P w)=((true,Kind.call,SV.v v,true,some o),.ok (.enter f (args μ)) w)):Cert P Q w0 k0 X ops i its bl os o it:=by
 intro μ a w K l hR k;have b:=h μ w;simp only[V5.injEq]at b;obtain⟨⟨s,m,p,n,j⟩,r⟩:=b;rw[m];intro c;rw[p]at c;unfold VS;rw[oD s l,r,WX];refine(q μ w k (LJ j n hR)).mono ?_;rintro e w' ⟨t,rfl,g,rfl⟩;exact c w' g
def ldv(k:Array Vj)(c:List It)(f:List Bl)(d:List (WB × SV))(i:Nat)(o:Vj)(it:It)(T:U7)(n:Nat):Option SV:=
 match it.kind,o.op with
 | .stay,.load T' (.tmp t)=>match src k c d it.need i t with
  | some (.p b off)=>match f[b]? with
   | some e=>bif T' == T && e.al.isNone && readB k i e && (off+n).ble e.before.length then some (.v (.agg ((e.before.drop off).take n).toArray)) else none
   | none=>none
  | _=>none
 | _,_=>none
theorem ld{T:U7}{n:Nat}(f:(P.underlying T).map (·.isRow)=some true)(g:(P.info? T).map (·.size)=some n)(h:ldv ops its bl os i o it T n=some it.out:=by kernel_rfl):Cert P Q w0 k0 X ops i its bl os o it:=by
 unfold ldv at h;split at h
 ·rename_i T' t hk ho
  split at h
  ·rename_i b off hs
   split at h
   ·rename_i e hb
    cases c:(T' == T && e.al.isNone && readB ops i e && (off+n).ble e.before.length) with
    | false=>rw[c]at h;cases h
    | true =>
     rw[c]at h;have m:=h;simp only[UK,beq_iff_eq,Option.isNone_iff_eq_none,yB5]at c;obtain⟨⟨⟨rfl,d⟩,j⟩,l⟩:=c;have k:((e.before.drop off).take n).length=n:=by rw[WE,ZI];omega
     refine oI hk b off e hb d j T' t ho ((e.before.drop off).take n) (UN.inj m).symm (λ_ _ K=>mU hs K) ?_ f (by rw[k];exact g);rw[k]
   ·cases h
  ·cases h
 ·cases h
def ptv(k:Array Vj)(c:List It)(f:List Bl)(d:List (WB × SV))(i:Nat)(o:Vj)(it:It)(T:U7)(n:Nat):Option (List Us):=
 match it.kind,o.op,o.dst with
 | .put b,.store T' (.tmp x) (.tmp y),none=>match src k c d it.need i x,src k c d it.need i y with
  | some (.p b' off),some (.v (.agg vs))=>match f[b]? with
   | some e=>bif T' == T && b' == b && vs.size == n && (off+n).ble e.before.length && vs.toList.all (·.oneCell') then some (rep e.before off vs.toList) else none
   | none=>none
  | _,_=>none
 | _,_,_=>none
theorem pt{T:U7}{n:Nat}(l:(P.info? T).map (·.size)=some n)(h:((ptv ops its bl os i o it T n).isSome,ptv ops its bl os i o it T n)=(true,match it.kind with | .put b=>(bl[b]?).map (·.after)|_=>none):=by kernel_rfl):Cert P Q w0 k0 X ops i its bl os o it:=by
 simp only[V5.injEq]at h;obtain⟨k,h⟩:=h;rw[h]at k;unfold ptv at h;split at h
 ·rename_i b T' x y hk ho hdn
  rw[hk]at h k;dsimp only at h k;cases g:bl[b]? with
  | none=>rw[g]at k;cases k
  | some e =>
   rw[g]at h;split at h
   ·rename_i b' off vs hx hy
    dsimp only at h;cases f:(T' == T && b' == b && vs.size == n && (off+n).ble e.before.length && vs.toList.all (·.oneCell')) with
    | false=>rw[f]at h;cases h
    | true =>
     rw[f]at h;have p:some (rep e.before off vs.toList)=some e.after:=h;simp only[UK,beq_iff_eq,yB5]at f;obtain⟨⟨⟨⟨rfl,rfl⟩,m⟩,d⟩,q⟩:=f;have c:vs.toList.length=n:=by rw[Array.length_toList];exact m
     refine eZ b' off hk e g T' (.tmp x) (.tmp y) vs.toList ho hdn (λ_ _ K=>mU hx K) (λ_ _ K=>?_) (by rw[c];exact d) (λj=>?_) (by rw[c];exact l) q
     ·rw[Array.toArray_toList];exact mU hy K
     ·rw[<-UN.inj p,rep_at (by rw[c];exact d)]
   ·cases h
 ·rw[<-h]at k;cases k
def aft(pu:List (Nat × Nat × List Us))(b:Nat)(c:List Us):List Us:=match pu.find? (λx=>x.1 == b) with|some x=>x.2.2|none=>c
def sto(pu:List (Nat × Nat × List Us))(b:Nat):Option Nat:=(pu.find? (λx=>x.1 == b)).map (·.2.1)
def olB(pu:List (Nat × Nat × List Us)):Nat->List (List Us)->List Bl
 | _,[]=>[]
 | b,c :: r=>⟨c,aft pu b c,none,sto pu b⟩ :: olB pu (b+1) r
def mkB(pu:List (Nat × Nat × List Us)):Nat->List (Nat × List Us)->List Bl
 | _,[]=>[]
 | b,c :: r=>⟨c.2,aft pu b c.2,some c.1,sto pu b⟩ :: mkB pu (b+1) r
def bls(cs:List (List Us))(mk:List (Nat × List Us))(pu:List (Nat × Nat × List Us)):List Bl:=olB pu 0 cs++mkB pu cs.length mk
theorem qZ(pu:List (Nat × Nat × List Us)):∀(cs:List (List Us)) (b:Nat),(olB pu b cs).length=cs.length
 | [],_=>rfl
 | c :: r,b=>by rw[olB,Vh,qZ pu r,Vh]
theorem EW(pu:List (Nat × Nat × List Us)):∀(cs:List (Nat × List Us)) (b:Nat),(mkB pu b cs).length=cs.length
 | [],_=>rfl
 | c :: r,b=>by rw[mkB,Vh,EW pu r,Vh]
theorem wZ(pu:List (Nat × Nat × List Us)):∀(cs:List (List Us)) (b:Nat),(olB pu b cs).map (·.before)=cs
 | [],_=>rfl
 | c :: r,b=>by rw[olB,XU,wZ pu r]
theorem xG(pu:List (Nat × Nat × List Us)):∀(cs:List (Nat × List Us)) (b:Nat),(mkB pu b cs).map (·.before)=cs.map (·.2)
 | [],_=>rfl
 | c :: r,b=>by rw[mkB,XU,xG pu r,XU]
theorem EO(pu:List (Nat × Nat × List Us)):∀(cs:List (List Us)) (b j:Nat) (e:Bl),(olB pu b cs)[j]? = some e->e.al=none/\e.after=aft pu (b+j) e.before/\e.st=sto pu (b+j)
 | [],_,_,_,h=>by simp[olB]at h
 | c :: r,b,0,e,h=>by
  rw[olB,Ve]at h;obtain rfl:=UN.inj h;exact⟨rfl,rfl,rfl⟩
 | c :: r,b,j+1,e,h=>by
  rw[olB,U8]at h;have:=EO pu r (b+1) j e h;rwa[show b+1+j=b+(j+1) by omega]at this
theorem EX(pu:List (Nat × Nat × List Us)):∀(cs:List (Nat × List Us)) (b j:Nat) (e:Bl),(mkB pu b cs)[j]? = some e->(∃x∈cs,e.al=some x.1)/\e.after=aft pu (b+j) e.before/\e.st=sto pu (b+j)
 | [],_,_,_,h=>by simp[mkB]at h
 | c :: r,b,0,e,h=>by
  rw[mkB,Ve]at h;obtain rfl:=UN.inj h;exact⟨⟨c,Vt,rfl⟩,rfl,rfl⟩
 | c :: r,b,j+1,e,h=>by
  rw[mkB,U8]at h;obtain⟨⟨x,hx,d⟩,k⟩:=EX pu r (b+1) j e h;refine⟨⟨x,Va _ hx,d⟩,?_⟩;rwa[show b+1+j=b+(j+1) by omega]at k
variable {cs cs':List (List Us)}{mk:List (Nat × List Us)}{pu:List (Nat × Nat × List Us)}{ks:List Nat}
theorem Bn:(bls cs mk pu).length=cs.length+mk.length:=by rw[bls,Uz,qZ,EW]
theorem yO:(bls cs mk pu).map (·.before)=cs++mk.map (·.2):=by rw[bls,V9,wZ,xG]
theorem vN{b:Nat}{e:Bl}(h:(bls cs mk pu)[b]? = some e):e.after=aft pu b e.before/\e.st=sto pu b/\((b<cs.length/\e.al=none)\/(cs.length<=b/\∃x∈mk,e.al=some x.1)):=by
 unfold bls at h;by_cases k:b<cs.length
 ·rw[US (by rw[qZ];exact k)]at h;have:=EO pu cs 0 b e h;rw[UC]at this;exact⟨this.2.1,this.2.2,U3 ⟨k,this.1⟩⟩
 ·rw[U0 (by rw[qZ];omega),qZ]at h;have:=EX pu mk cs.length (b-cs.length) e h;rw[show cs.length+(b-cs.length)=b by omega]at this;exact⟨this.2.1,this.2.2,UW ⟨oM,this.1⟩⟩
theorem Ai:mT (bls cs mk pu) cs.length=true:=by
 simp only[mT,UK,decide_eq_true_eq];refine⟨U9.2 λx hx=>?_,by rw[Bn];omega⟩;rw[YA]at hx;rcases(vN hx).2.2 with⟨b,k⟩|⟨b,y,-,k⟩
 ·rw[k];simp[b]
 ·rw[k];simp;omega
def inB(m:Nat)(mk:List (Nat × List Us))(pu:List (Nat × Nat × List Us)):Bool:=mk.all (λx=>x.1.blt m) && pu.all (λx=>x.2.1.blt m)
theorem FM(h:inB its.length mk pu=true)(l:pu.map (λx=>x.2.2.length)=pu.map (λx=>(((cs++mk.map (·.2))[x.1]?).getD []).length)):
 (∀e∈bls cs mk pu,∀j,e.al=some j\/e.st=some j->j<its.length)/\∀e∈bls cs mk pu,e.fin.length=e.before.length:=by
 simp only[inB,UK]at h;refine⟨λe g j k=>?_,λe g=>?_⟩
 ·obtain⟨b,c⟩:=WI g;obtain⟨i,d,m⟩:=vN c;rcases k with k|k
  ·rcases m with⟨-,f⟩|⟨-,x,hx,f⟩
   ·rw[f]at k;cases k
   ·rw[f]at k;obtain rfl:=UN.inj k;have:=U9.1 h.1 x hx;exact Xi (VQ this)
  ·rw[d]at k;unfold sto at k;obtain⟨x,hx,rfl⟩:=Ux.1 k;have:=U9.1 h.2 x (WN hx);exact Xi (VQ this)
 ·obtain⟨b,c⟩:=WI g;obtain⟨i,d,-⟩:=vN c;unfold Bl.fin;rw[d,i];unfold sto aft;cases f:pu.find? (λx=>x.1 == b) with
  | none=>rfl
  | some x =>
   show x.2.2.length=_;have n:=WN f;have hx:x.1=b:=by simpa using Yd f
   have m:=Zx.1 l x n;rw[m,<-yO (pu:=pu),hx,Vy,c];rfl
def lk(k:List It)(b:List (WB × SV))(t:WB):Option SV:=
 match k.find? (λit=>it.dst == some t) with
 | some it=>some it.out
 | none=>(b.find? (λx=>x.1 == t)).map (·.2)
structure M(w0:Uq)(k0:Nat)(X:List Nat)(n:Nat)(cs:List (List Us))(ks:List Nat)(os:List (WB × SV))(a:Act)(w:Uq):Prop where
 st:St w0 k0 X cs ks w
 sl:Sl a n
 os:Olds a (ad ks) os
def All:Nat->(List Nat->Prop)->Prop
 | 0,f=>f []
 | n+1,f=>∀k:Nat,All n λl=>f (k :: l)
theorem All.get:∀ {n:Nat}{f:List Nat->Prop},All n f->∀l:List Nat,l.length=n->f l
 | 0,f,h,l,hl=>by rw[List.length_eq_zero_iff.1 hl];exact h
 | n+1,f,h,[],hl=>by simp at hl
 | n+1,f,h,k :: l,hl=>All.get (h k) l (by simpa using hl)
theorem Nf{s:SV}{new:List Nat}(h:∀b,s.blk=some b->b<ks.length):s.at (ad (ks++new))=s.at (ad ks):=SV.at_congr λb k=>by
 unfold ad;rw[VP,VP,US (h b k)]
theorem Olds.mk'{μ:Nat->Nat}:∀ {l:List (WB × SV)},(∀x∈l,a.tmps[x.1]? = some (x.2.at μ))->Olds a μ l
 | [],_=>trivial
 | x :: r,h=>⟨h x Vt,Olds.mk' λy k=>h y (Va _ k)⟩
theorem M.next{d:List (WB × SV)}{new:List Nat}{w':Uq}(h:M w0 k0 X n cs ks os a w)(k:allB ops its (bls cs mk pu) os n=true)(p:(d.map λx=>lk its os x.1)=d.map λx=>some x.2)
 (D:St w0 k0 X cs' (ks++new) w'):M w0 k0 X n cs' (ks++new) d (puts (ad (ks++new)) its a) w':=by
 refine⟨D,h.sl.puts,Olds.mk' λx hx=>?_⟩;have l:=Zx.1 p x hx;simp only[allB,UK,beq_iff_eq]at k;obtain⟨⟨⟨⟨A,hd⟩,g⟩,q⟩,u⟩:=k;unfold lk at l;cases hf:its.find? (λit=>it.dst == some x.1) with
 | some it =>
  rw[hf]at l;have f:=WN hf;have c:it.dst=some x.1:=by simpa using Yd hf
  obtain⟨j,m⟩:=WI f;have i:=U9.1 q it f;rw[c]at i;have:=rW (ad (ks++new)) its a j it x.1 hd m c (by rw[h.sl.size];simpa using i);rw[this,<-UN.inj l]
 | none =>
  rw[hf]at l;obtain⟨y,t,o⟩:=Ux.1 l;have f:=WN t;have i:y.1=x.1:=by simpa using Yd t
  have B:=h.os.get y.1 y.2 f;rw[lW _ its a x.1 (λit r s=>by
   have:=List.find?_eq_none.1 hf it r;rw[s]at this;simp at this),<-i,B,<-o]
  congr 1
  refine(Nf λb v=>?_).symm;have c:=U9.1 g y f;rw[v]at c;dsimp only at c;cases m:(bls cs mk pu)[b]? with
  | none=>rw[m]at c;cases c
  | some e =>
   rw[m]at c;rcases(vN m).2.2 with⟨C,-⟩|⟨-,z,-,E⟩
   ·rw[h.st.len];exact C
   ·dsimp only at c;rw[E]at c;simp at c
theorem M.reg(h:M w0 k0 X n cs ks os a w)(k:allB ops its (bls cs mk pu) os n=true)(b:Certs P Q w0 k0 X ops its (bls cs mk pu) os 0 ops.toList its):Reg P ops Q w0 k0 X its (bls cs mk pu) os a (ad ks):=
 Reg.mk' (by rw[h.sl.size];exact k) h.os b
theorem CL:((bls cs mk pu).map (·.before)).take cs.length=cs:=by rw[yO,List.take_left'];rfl
theorem M.tx{id:Nat}(h:M w0 k0 X n cs ks os a w)(k:List It)(mk:List (Nat × List Us))(pu:List (Nat × Nat × List Us))(c:List (List Us))(b:List (WB × SV))
 (d:(allB ops k (bls cs mk pu) os n && inB k.length mk pu,(bls cs mk pu).map Bl.fin,b.map λx=>lk k os x.1)=(true,c,b.map λx=>some x.2))
 (i:pu.map (λx=>x.2.2.length)=pu.map (λx=>(((cs++mk.map (·.2))[x.1]?).getD []).length))
 (p:Certs P Q w0 k0 X ops k (bls cs mk pu) os 0 ops.toList k)
 (g:All mk.length λnew=>∀e w',M w0 k0 X n c (ks++new) b e w'->Q .normal e w'):(V3 id ops false).wp P Q a w:=by
 simp only[V5.injEq,UK]at d;obtain⟨⟨f,j⟩,m,l⟩:=d;refine region_text' h.st (h.reg f p) Ai CL (FM j i) λnew w' e o=>?_
 rw[Bn,WJ]at e;exact g.get new e _ _ (h.next f l (m ▸ o))
theorem M.dr{id:Nat}(h:M w0 k0 X n cs ks os a w)(p:P.follows .mixedOrders=true)(k:List It)(mk:List (Nat × List Us))(pu:List (Nat × Nat × List Us))(c:List (List Us))(b:List (WB × SV))
 (d:(allB ops k (bls cs mk pu) os n && inB k.length mk pu,(bls cs mk pu).map Bl.fin,b.map λx=>lk k os x.1)=(true,c,b.map λx=>some x.2))
 (i:pu.map (λx=>x.2.2.length)=pu.map (λx=>(((cs++mk.map (·.2))[x.1]?).getD []).length))
 (q:Certs P Q w0 k0 X ops k (bls cs mk pu) os 0 ops.toList k)
 (g:All mk.length λnew=>∀e w',M w0 k0 X n c (ks++new) b e w'->Q .normal e w'):(V3 id ops true).wp P Q a w:=by
 simp only[V5.injEq,UK]at d;obtain⟨⟨f,j⟩,m,l⟩:=d;refine region_draws' p h.st (h.reg f q) Ai CL (FM j i) λnew w' e o=>?_
 rw[Bn,WJ]at e;exact g.get new e _ _ (h.next f l (m ▸ o))
theorem Nc:(bls cs [] []).map Bl.fin=cs:=by
 have h:∀(cs:List (List Us)) (b:Nat),(olB [] b cs).map Bl.fin=cs:=λcs=>by
  induction cs with
  | nil=>intro _;rfl
  | cons c r ih=>intro b;rw[olB,XU,ih];rfl
 rw[bls,V9,h];exact Xt _
theorem M.tx0{id:Nat}(h:M w0 k0 X n cs ks os a w)(k:List It)(b:List (WB × SV))(d:(allB ops k (bls cs [] []) os n,b.map λx=>lk k os x.1)=(true,b.map λx=>some x.2))
 (f:Certs P Q w0 k0 X ops k (bls cs [] []) os 0 ops.toList k) (g:∀c w',M w0 k0 X n cs ks b c w'->Q .normal c w'):(V3 id ops false).wp P Q a w:=by
 simp only[V5.injEq]at d;refine h.tx k [] [] cs b (by simp only[d.1,d.2,Nc];rfl) rfl f (λc w' e=>g c w' ?_);rwa[Xt]at e
theorem M.t{id:Nat}(h:M w0 k0 X n cs ks os a w)(k:List It)(mk:List (Nat × List Us))(pu:List (Nat × Nat × List Us))(c:List (List Us))(b:List (WB × SV))(f:Certs P Q w0 k0 X ops k (bls cs mk pu) os 0 ops.toList k)(i:All mk.length λnew=>∀d w',M w0 k0 X n c (ks++new) b d w'->Q .normal d w')(g:(allB ops k (bls cs mk pu) os n && inB k.length mk pu,(bls cs mk pu).map Bl.fin,b.map λx=>lk k os x.1)=(true,c,b.map λx=>some x.2):=by kernel_rfl)(e:pu.map (λx=>x.2.2.length)=pu.map (λx=>(((cs++mk.map (·.2))[x.1]?).getD []).length):=by kernel_rfl):(V3 id ops false).wp P Q a w:=h.tx k mk pu c b g e f i
theorem M.d{id:Nat}(h:M w0 k0 X n cs ks os a w)(k:List It)(mk:List (Nat × List Us))(pu:List (Nat × Nat × List Us))(c:List (List Us))(b:List (WB × SV))(g:Certs P Q w0 k0 X ops k (bls cs mk pu) os 0 ops.toList k)(j:All mk.length λnew=>∀d w',M w0 k0 X n c (ks++new) b d w'->Q .normal d w')(i:(allB ops k (bls cs mk pu) os n && inB k.length mk pu,(bls cs mk pu).map Bl.fin,b.map λx=>lk k os x.1)=(true,c,b.map λx=>some x.2):=by kernel_rfl)(e:pu.map (λx=>x.2.2.length)=pu.map (λx=>(((cs++mk.map (·.2))[x.1]?).getD []).length):=by kernel_rfl)(f:P.follows .mixedOrders=true:=by kernel_rfl):(V3 id ops true).wp P Q a w:=h.dr f k mk pu c b i e g j
theorem M.u{id:Nat}(h:M w0 k0 X n cs ks os a w)(k:List It)(b:List (WB × SV))(d:Certs P Q w0 k0 X ops k (bls cs [] []) os 0 ops.toList k)(f:∀c w',M w0 k0 X n cs ks b c w'->Q .normal c w')(e:(allB ops k (bls cs [] []) os n,b.map λx=>lk k os x.1)=(true,b.map λx=>some x.2):=by kernel_rfl):(V3 id ops false).wp P Q a w:=h.tx0 k b e d f
theorem M.at(h:M w0 k0 X n cs ks os a w){t:WB}{s:SV}(c:(os.find? (λx=>x.1 == t)).map (·.2)=some s:=by kernel_rfl):a.tmps[t]? = some (s.at (ad ks)):=by
 obtain⟨y,b,rfl⟩:=Ux.1 c;have k:y.1=t:=by simpa using Yd b
 rw[<-k];exact h.os.get y.1 y.2 (WN b)
theorem St.made{w w':Uq}{cs:List (List Us)}{ks:List Nat}(h:St w w.heap.size [] cs ks w'){b:Nat}{c:List Us}(d:cs[b]? = some c):Made w (ad ks b) c w':=by
 obtain⟨e,k,g,f⟩:=h.has b c d;exact⟨h.bel.below,f.elim id (λh=>absurd h UX),g,e,k⟩
theorem M.av(h:M w0 k0 X n cs ks os a w){t:WB}{v:Us}(k:(os.find? (λx=>x.1 == t)).map (·.2)=some (.v v):=by kernel_rfl):a.tmps[t]? = some v:=h.at k
theorem M.ev(h:M w0 k0 X n cs ks os a w){t:WB}{v:Us}(k:(os.find? (λx=>x.1 == t)).map (·.2)=some (.v v):=by kernel_rfl):a.eval (.tmp t)=v:=A7 (h.at k)
theorem M.enter{c:Code}(k:List (WB × SV))(n:Nat)(h:(k.map λx=>a.tmps[x.1]?,a.tmps.size,a.defers)=(k.map λx=>some (x.2.at (ad [])),n,[]))(b:∀a,M w w.heap.size [] n [] [] k a w->c.wp P Q a w):c.wp P Q a w:=by
 simp only[V5.injEq]at h;exact b a ⟨St.begin w,⟨h.2.1,h.2.2⟩,Olds.mk' λx hx=>Zx.1 h.1 x hx⟩
theorem M.drop{i w:Uq}{j n:Nat}{X:List Nat}{cs cs2:List (List Us)}{ks ks2:List Nat}{g:List (WB × SV)}{a:Act}(h:M i j X n (cs++cs2) (ks++ks2) g a w)(l:ks.length=cs.length)
 (ho:g.all (λx=>match x.2.blk with|none=>true|some b=>b.blt cs.length)=true):M i j X n cs ks g a w:=by
 have k:∀b,b<cs.length->ad (ks++ks2) b=ad ks b:=λb d=>by
  unfold ad;rw[VP,VP,US oM]
 refine⟨⟨h.st.bel,h.st.le,l,λb c d=>?_,λb c d m f=>?_⟩,h.sl,Olds.mk' λx hx=>?_⟩
 ·have e:=(UE.1 d).1;have:=h.st.has b c (by rw[US e];exact d);rwa[k b e]at this
 ·have:=h.st.inj b c (by rw[Uz];omega) (by rw[Uz];omega) f;rwa[k b d,k c m]at this
 ·rw[h.os.get x.1 x.2 hx]
  congr 1
  refine SV.at_congr λb d=>?_
  have e:=U9.1 ho x hx;rw[d]at e;exact k b (Xi (VQ e))
abbrev z(n:Nat):List Us:=List.replicate n (uZ 0)
def It.s(d:WB)(k:List (WB × Nat))(b:SV):It:=⟨some d,k,b,.stay⟩
def It.x(d:WB)(k:List (WB × Nat))(v:Us):It:=⟨some d,k,.v v,.stay⟩
def It.c(d:WB)(k:List (WB × Nat))(v:Us):It:=⟨some d,k,.v v,.call⟩
def It.u(k:List (WB × Nat))(b:Nat):It:=⟨none,k,.v WO,.put b⟩
end RG
namespace RG
variable {P:VC}{ops:Array Vj}{Q:Yo->Act->Uq->Prop}{w0 w:Uq}{k0 n:Nat}{X ks:List Nat}{cs:List (List Us)}{os:List (WB × SV)}{a:Act}
inductive Hh where
 | x (v:Us)
 | c (v:Us)
 | s (v:SV)
 | m (b:Nat)
 | u (b:Nat)
def nd(k:Array Vj)(i:Nat):List (WB × Nat):=
 match k[i]? with
 | none=>[]
 | some o=>o.op.operands.toList.filterMap λx=>match x with
  | .tmp t=>((VF i).find? λj=>match k[j]? with|some p=>p.dst == some t && dB o j|none=>false).map λj=>(t,j)
  | _=>none
def dt(k:Array Vj)(i:Nat):Option WB:=(k[i]?).bind (·.dst)
def Hh.it(k:Array Vj)(i:Nat):Hh->It
 | .x v=>⟨dt k i,nd k i,.v v,.stay⟩
 | .c v=>⟨dt k i,nd k i,.v v,.call⟩
 | .s v=>⟨dt k i,nd k i,v,.stay⟩
 | .m b=>⟨dt k i,nd k i,.p b 0,.make b⟩
 | .u b=>⟨none,nd k i,.v WO,.put b⟩
def mkL(k:Array Vj):Nat->List Hh->List It
 | _,[]=>[]
 | i,h :: r=>h.it k i :: mkL k (i+1) r
def kps(k:List It)(b:List (WB × SV))(l:List WB):List (WB × SV):=l.filterMap λt=>(lk k b t).map λs=>(t,s)
theorem M.U{id:Nat}(h:M w0 k0 X n cs ks os a w)(k:List Hh)(b:List WB)(d:Certs P Q w0 k0 X ops (mkL ops 0 k) (bls cs [] []) os 0 ops.toList (mkL ops 0 k))(f:∀c w',M w0 k0 X n cs ks (kps (mkL ops 0 k) os b) c w'->Q .normal c w')(e:(allB ops (mkL ops 0 k) (bls cs [] []) os n,(kps (mkL ops 0 k) os b).map λx=>lk (mkL ops 0 k) os x.1)=(true,(kps (mkL ops 0 k) os b).map λx=>some x.2):=by kernel_rfl):(V3 id ops false).wp P Q a w:=h.u _ _ d f e
theorem M.T{id:Nat}(h:M w0 k0 X n cs ks os a w)(k:List Hh)(mk:List (Nat × List Us))(pu:List (Nat × Nat × List Us))(b:List (List Us))(c:List WB)(f:Certs P Q w0 k0 X ops (mkL ops 0 k) (bls cs mk pu) os 0 ops.toList (mkL ops 0 k))(i:All mk.length λnew=>∀d w',M w0 k0 X n b (ks++new) (kps (mkL ops 0 k) os c) d w'->Q .normal d w')(g:(allB ops (mkL ops 0 k) (bls cs mk pu) os n && inB (mkL ops 0 k).length mk pu,(bls cs mk pu).map Bl.fin,(kps (mkL ops 0 k) os c).map λx=>lk (mkL ops 0 k) os x.1)=(true,b,(kps (mkL ops 0 k) os c).map λx=>some x.2):=by kernel_rfl)(e:pu.map (λx=>x.2.2.length)=pu.map (λx=>(((cs++mk.map (·.2))[x.1]?).getD []).length):=by kernel_rfl):(V3 id ops false).wp P Q a w:=h.t _ mk pu b _ f i g e
theorem M.D{id:Nat}(h:M w0 k0 X n cs ks os a w)(k:List Hh)(mk:List (Nat × List Us))(pu:List (Nat × Nat × List Us))(b:List (List Us))(c:List WB)(g:Certs P Q w0 k0 X ops (mkL ops 0 k) (bls cs mk pu) os 0 ops.toList (mkL ops 0 k))(j:All mk.length λnew=>∀d w',M w0 k0 X n b (ks++new) (kps (mkL ops 0 k) os c) d w'->Q .normal d w')(i:(allB ops (mkL ops 0 k) (bls cs mk pu) os n && inB (mkL ops 0 k).length mk pu,(bls cs mk pu).map Bl.fin,(kps (mkL ops 0 k) os c).map λx=>lk (mkL ops 0 k) os x.1)=(true,b,(kps (mkL ops 0 k) os c).map λx=>some x.2):=by kernel_rfl)(e:pu.map (λx=>x.2.2.length)=pu.map (λx=>(((cs++mk.map (·.2))[x.1]?).getD []).length):=by kernel_rfl)(f:P.follows .mixedOrders=true:=by kernel_rfl):(V3 id ops true).wp P Q a w:=h.d _ mk pu b _ g j i e f
end RG
namespace NT
def IsP(n:Nat):Prop:=2<=n/\∀m,m ∣ n->m=1\/m=n
theorem IsP.cop{p k:Nat}(h:IsP p)(b:0<k)(c:k<p):ZQ p k:=by
 unfold ZQ;rcases h.2 _ (ZM p k)with e|e
 ·exact e
 ·have:=Yc b (ZD p k);omega
theorem IsP.cop_of{p k:Nat}(h:IsP p)(b:¬p ∣ k):ZQ p k:=by
 unfold ZQ;rcases h.2 _ (ZM p k)with e|e
 ·exact e
 ·exact absurd (e ▸ ZD p k) b
theorem IsP.euclid{p a b:Nat}(h:IsP p)(hd:p ∣ a*b):p ∣ a\/p ∣ b:=by
 by_cases k:p ∣ a
 ·exact U3 k
 ·exact UW ((h.cop_of k).dvd_of_dvd_mul_left hd)
/-! the binomials -/
def ch: Nat -> Nat -> Nat
  | _, 0 => 1
  | 0, _ + 1 => 0
  | n + 1, k + 1 => ch n k + ch n (k + 1)
theorem rI(n:Nat):ch n 0=1:=by cases n<;>rfl
theorem rJ:∀(n k:Nat),n<k->ch n k=0
 | 0,k+1,_=>rfl
 | n+1,k+1,h=>by
  rw[ch,rJ n k oM,rJ n (k+1) oM]
theorem FC:∀(n:Nat),ch n n=1
 | 0=>rfl
 | n+1=>by rw[ch,FC n,rJ n (n+1) oM]
theorem vH:∀(n k:Nat),(k+1)*ch (n+1) (k+1)=(n+1)*ch n k
 | 0,0=>rfl
 | 0,k+1=>by simp[ch]
 | n+1,0=>by
  have h:=vH n 0;have e:ch (n+1+1) (0+1)=ch (n+1) 0+ch (n+1) (0+1):=rfl;rw[rI]at h;rw[e,rI];omega
 | n+1,k+1=>by
  have c:=vH n k;have b:=vH n (k+1);have e:ch (n+1+1) (k+1+1)=ch (n+1) (k+1)+ch (n+1) (k+1+1):=rfl;have e3:ch (n+1) (k+1)=ch n k+ch n (k+1):=rfl;rw[e,Yz,b];have:(k+1+1)*ch (n+1) (k+1)=(n+1)*ch n k+ch (n+1) (k+1):=by
   rw[<-c,XE (k+1) 1,Xh]
  rw[this,e3,XE (n+1) 1,Xh,Yz];omega
def sumTo:Nat->(Nat->Nat)->Nat
 | 0,_=>0
 | n+1,f=>sumTo n f+f n
theorem sumTo_congr(f g:Nat->Nat):∀n,(∀k,k<n->f k=g k)->sumTo n f=sumTo n g
 | 0,_=>rfl
 | n+1,h=>by
  rw[sumTo,sumTo,sumTo_congr f g n (λk b=>h k oM),h n oM]
theorem zF(f g:Nat->Nat):∀n,sumTo n (λk=>f k+g k)=sumTo n f+sumTo n g
 | 0=>rfl
 | n+1=>by simp only[sumTo];rw[zF f g n];omega
theorem zD(a:Nat)(f:Nat->Nat):∀n,sumTo n (λk=>a*f k)=a*sumTo n f
 | 0=>rfl
 | n+1=>by simp only[sumTo];rw[zD a f n,Yz]
theorem jU(f:Nat->Nat):∀n,sumTo (n+1) f=f 0+sumTo n (λk=>f (k+1))
 | 0=>by simp[sumTo]
 | n+1=>by rw[sumTo,jU f n];simp only[sumTo];omega
theorem zE(p:Nat)(f:Nat->Nat):∀n,(∀k,k<n->p ∣ f k)->p ∣ sumTo n f
 | 0,_=>Nat.dvd_zero p
 | n+1,h=>Nat.dvd_add (zE p f n (λk b=>h k oM)) (h n oM)
theorem NW(a:Nat):∀n,(a+1)^n=sumTo (n+1) (λk=>ch n k*a^k)
 | 0=>by simp[sumTo,ch]
 | n+1=>by
  rw[V6,NW a n,Yz,XQ];rw[jU (λk=>ch (n+1) k*a^k) (n+1)];have e:sumTo (n+1) (λk=>ch (n+1) (k+1)*a^(k+1))
   = sumTo (n+1) (λk=>a*(ch n k*a^k))+sumTo (n+1) (λk=>ch n (k+1)*a^(k+1)):=by
   rw[<-zF];refine sumTo_congr _ _ _ ?_;intro k _;show(ch n k+ch n (k+1))*a^(k+1)=_;rw[XE,V6];have:ch n k*(a^k*a)=a*(ch n k*a^k):=by
    rw[Vu a,X0]
   rw[this]
  rw[e,zD];have c:sumTo (n+1) (λk=>ch n k*a^k)
   = ch n 0*a^0+sumTo n (λk=>ch n (k+1)*a^(k+1)):=jU (λk=>ch n k*a^k) n
  have e3:sumTo (n+1) (λk=>ch n (k+1)*a^(k+1))=sumTo n (λk=>ch n (k+1)*a^(k+1)):=by
   rw[sumTo,rJ n (n+1) oM,yBJ,XA]
  have b:ch (n+1) 0*a^0=ch n 0*a^0:=by rw[rI,rI]
  rw[e3,b,Vu _ a];omega
theorem IsP.ch_dvd{p k:Nat}(h:IsP p)(b:k+1<p):p ∣ ch p (k+1):=by
 obtain⟨n,rfl⟩:∃n,p=n+1:=⟨p-1,by have:=h.1;omega⟩
 have e:=vH n k;have hd:(n+1) ∣ (k+1)*ch (n+1) (k+1):=e ▸ Nat.dvd_mul_right _ _;exact(h.cop oM b).dvd_of_dvd_mul_left hd
theorem IsP.frob{p:Nat}(h:IsP p)(a:Nat):(a+1)^p%p=(a^p+1)%p:=by
 obtain⟨n,rfl⟩:∃n,p=n+1:=⟨p-1,by have:=h.1;omega⟩
 rw[NW,sumTo,jU,FC,rI];obtain⟨c,b⟩:(n+1) ∣ sumTo n (λk=>ch (n+1) (k+1)*a^(k+1)):=
  zE _ _ _ (λk d=>Nat.dvd_mul_right_of_dvd (h.ch_dvd oM) _)
 rw[b];have:1*a^0+(n+1)*c+1*a^(n+1)=(a^(n+1)+1)+(n+1)*c:=by
  rw[YN];omega
 rw[this,YQ]
theorem IsP.fermat{p:Nat}(h:IsP p):∀a,a^p%p=a%p
 | 0=>by
  rw[yBI (by have:=h.1;omega)]
 | a+1=>by
  rw[h.frob,Zn,h.fermat a,<-Zn]
theorem IsP.cancel{p a x y:Nat}(h:IsP p)(d:¬p ∣ a)(e:a*x%p=a*y%p):x%p=y%p:=by
 have key:∀x y,y<=x->a*x%p=a*y%p->x%p=y%p:=by
  intro x y k e;have b:=XL (Nat.sub_mod_eq_zero_of_mod_eq e);rw[<-Nat.mul_sub]at b;obtain⟨c,f⟩:=(h.cop_of d).dvd_of_dvd_mul_left b;have:x=y+p*c:=oM;rw[this,YQ]
 rcases yBK y x with k|k
 ·exact key x y k e
 ·exact(key y x k e.symm).symm
theorem IsP.fermat1{p:Nat}(h:IsP p)(a:Nat)(k:¬p ∣ a):a^(p-1)%p=1:=by
 obtain⟨n,rfl⟩:∃n,p=n+1:=⟨p-1,by have:=h.1;omega⟩
 have e:=h.fermat a;rw[V6,Vu]at e;have:=h.cancel k (x:=a^n) (y:=1) (by rw[e,XQ]);rw[Nat.add_sub_cancel,this,UR h.1]
/-! powers that are 1 -/
theorem Me(b r : Nat)(hr : 1<r)(x y : Nat): b^x%r=1 -> b^y%r=1 -> b^(yAX x y)%r=1:=by
  induction x, y using yAX.induction with
  | H0 n => intro _ h; rw[Nat.gcd_zero_left]; exact h
  | H1 m n hm ih =>
    intro h1 h2;rw[Nat.gcd_rec];refine ih ?_ h1;have e : b^n=(b^m)^(n/m) * b^(n%m):=by
      rw[<-ZO, <-Yp, Nat.div_add_mod]
    rw[e, Xy, yAw, h1, Nat.one_pow, UR hr, Xh, yBW]at h2;exact h2
theorem rH:∀n,2<=n->∃r,IsP r/\r ∣ n/\(IsP n\/r*r<=n):=by
 intro n;induction n using yBj with
 | _ n ih =>
  intro o;by_cases l:IsP n
  ·exact⟨n,l,Nat.dvd_refl n,U3 l⟩
  ·have:∃m,m ∣ n/\m≠1/\m≠n:=by
    refine Ws λd=>l ⟨o,λm c=>?_⟩
    refine Ws λb=>d ⟨m,c,λe=>b (U3 e),λe=>b (UW e)⟩
   obtain⟨m,⟨k,d⟩,u,t⟩:=this;have s:m≠0:=by intro e;rw[e,yBJ]at d;omega
   have q:k≠0:=by intro e;rw[e,Nat.mul_zero]at d;omega
   have p:k≠1:=by intro e;rw[e,XQ]at d;omega
   have g:m<n:=by
    have:=Yc oM (⟨k,d⟩:m ∣ n);omega
   have j:k<n:=by
    have:=Nat.mul_le_mul_right k (show 2<=m by omega);omega
   rcases yBK m k with f|f
   ·obtain⟨r,i,b,_⟩:=ih m g oM;have c:=Yc oM b;refine⟨r,i,Zm b ⟨k,d⟩,UW ?_⟩;rw[d];exact WP c (UB c f)
   ·obtain⟨r,i,b,_⟩:=ih k j oM;have c:=Yc oM b;refine⟨r,i,Zm b ⟨m,by rw[d,Vu]⟩,UW ?_⟩;rw[d];exact WP (UB c f) c
/-! what of a prime of n - 1 goes into the primes of n -/
theorem part{n q a r : Nat}(hq : IsP q)(hr : IsP r)(hrn : r ∣ n)(hn : 1<n)
    (h1 : a^(n-1)%n=1) (hd : q ∣ n-1) (h2 : yAX (a^((n-1)/q)%n + (n-1)) n=1) : q ∣ r-1:=by
  have hr2:=hr.1;have toR : ∀x y, x%n=y%n -> x%r=y%r:=by
    intro x y e;rw[<-Zs x hrn, e, Zs y hrn]
  have hm : a^(n-1)%r=1:=by
    have:=toR (a^(n-1)) 1 (by rw[h1, UR hn]);rw[this, UR hr2]
  have hra : ¬r ∣ a:=by
    intro hc;have hz : a^(n-1)%r=0:=Yq (Zm hc (by
      have : a^1 ∣ a^(n-1):=yBk a oM;rwa[YR]at this))
    omega
  have hb : (a^((n-1)/q))^q%r=1:=by
    rw[<-ZO, Nat.div_mul_cancel hd]; exact hm
  have hbr : ¬r ∣ a^((n-1)/q):=by
    intro hc;have : r ∣ (a^((n-1)/q))^q:=Zm hc (by
      have : (a^((n-1)/q))^1 ∣ (a^((n-1)/q))^q:=yBk _ (by have:=hq.1; omega);rwa[YR]at this)
    have:=Yq this;omega
  have hg:=Me _ r hr2 q (r-1) hb (hr.fermat1 _ hbr);rcases hq.2 _ (ZM q (r-1))with e|e
  · rw[e, YR]at hg
    exfalso;have hx : r ∣ a^((n-1)/q)%n + (n-1):=by
      refine XL ?_;have e1 : (a^((n-1)/q)%n)%r=1:=by rw[Zs _ hrn]; exact hg
      have e2 : (n-1 + 1)%r=0:=by
        rw[Nat.sub_add_cancel oM]; exact Yq hrn
      have : (a^((n-1)/q)%n + (n-1))%r=(1 + (n-1))%r:=by
        rw[Zn, e1, Zn 1 (n-1), UR hr2]
      rw[this, Nat.add_comm, e2]
    have:=Nat.dvd_gcd hx hrn;rw[h2]at this;have:=Yc oM this;omega
  · rw[<-e]; exact ZD _ _
theorem B9{n f:Nat}(e:1<n)(hf:n<(f+1)*(f+1))
 (k:∀r,IsP r->r ∣ n->f ∣ r-1):IsP n:=by
 obtain⟨r,c,b,h|h⟩:=rH n e
 ·exact h
 ·have:=Yc (by have:=c.1;omega) (k r c b);have d:f+1<=r:=by have:=c.1;omega
  have:=WP d d;omega
/-! trial -/
def trial(n : Nat): Nat -> Nat -> Bool
  | 0, _ => true
  | k + 1, d => (n%d != 0) && trial n k (d + 1)
theorem BC(n:Nat):∀k d,trial n k d=true->∀m,d<=m->m<d+k->¬m ∣ n
 | 0,_,_,m,_,_=>oM
 | k+1,d,h,m,h1,h2=>by
  simp only[trial,UK,bne_iff_ne,ne_eq]at h;rcases Nat.lt_or_ge d m with b|c
  ·exact BC n k (d+1) h.2 m b oM
  ·have:m=d:=oM;subst this;intro hd;exact h.1 (Yq hd)
theorem small{n k:Nat}(d:2<=n)(g:trial n k 2=true)(i:n<(k+2)*(k+2)):IsP n:=by
 obtain⟨r,e,b,h|h⟩:=rH n d
 ·exact h
 ·have f:=e.1;have c:r<2+k:=by
   refine Ws λj=>?_
   have:=WP (show k+2<=r by omega) (show k+2<=r by omega);omega
  exact absurd b (BC n k 2 g r f c)
/-! powers, reckoned -/
def pm(n : Nat): Nat -> Nat -> Nat -> Nat -> Nat
  | 0, _, _, acc => acc
  | k + 1, a, e, acc => pm n k (a * a%n) (e/2) (if e%2=1 then acc * a%n else acc)
theorem EK(n:Nat):∀k a e b,e<2^k->b<n->pm n k a e b=b*a^e%n
 | 0,a,e,b,h,ha=>by
  have:e=0:=by simpa using h
  subst this;rw[pm,YN,XQ,UR ha]
 | k+1,a,e,b,h,ha=>by
  have f:0<n:=oM;have c:(if e%2=1 then b*a%n else b)<n:=by
   split
   ·exact V4 _ f
   ·exact ha
  rw[pm,EK n k _ _ _ (by rw[V6]at h;omega) c];have d:∀y,y*(a*a%n)^(e/2)%n=y*(a*a)^(e/2)%n:=by
   intro y;rw[Xy,<-yAw,<-Xy]
  rw[d];have g:a^e=a^(e%2)*(a*a)^(e/2):=by
   have:(a*a)=a^2:=by rw[V6,YR]
   rw[this,<-ZO,<-Yp,Nat.mod_add_div]
  rw[g];split
  ·rename_i h1
   rw[h1,YR,Xy,yBW,<-Xy,X0]
  ·rename_i h1
   have:e%2=0:=oM;rw[this,YN,Xh]
theorem part'{n q a r k:Nat}(g:IsP q)(f:IsP r)(b:r ∣ n)(c:1<n)(i:n<2^k)
 (e:pm n k a (n-1) 1=1) (hd:(n-1)%q=0) (d:yAX (pm n k a ((n-1)/q) 1+(n-1)) n=1):q ∣ r-1:=by
 rw[EK n k a (n-1) 1 oM c,Xh]at e;rw[EK n k a _ 1 (Nat.lt_of_le_of_lt (Nat.div_le_self _ _) oM) c,Xh]at d;exact part g f b c e (XL hd) d
/-! the two primes -/
theorem x21: IsP 1627771:=small (k:=1275) dC dK dC
theorem x30:IsP 545358713:=small (k:=23352) dC dK dC
theorem x26:IsP 44706919:=small (k:=6686) dC dK dC
theorem x17:IsP 120233:=small (k:=346) dC dK dC
theorem x27:IsP 107590001:=small (k:=10372) dC dK dC
theorem x23:IsP 7240687:=small (k:=2690) dC dK dC
theorem x16:IsP 96557:=small (k:=310) dC dK dC
theorem x39:IsP 297159362677:=
 B9 (f:=1627771) dC dK (λr b hd=>part' (k:=39) (a:=2) x21 b hd dC dK dK dK dK)
theorem c95:IsP 29047611873442575647497758179:=
 B9 (f:=(545358713*297159362677)) dC dK (λr b hd=>WU dK (part' (k:=95) (a:=2) x30 b hd dC dK dK dK dK) (part' (k:=95) (a:=2) x39 b hd dC dK dK dK dK))
theorem b68:IsP 174723607534414371449:=
 B9 (f:=(44706919*120233)) dC dK (λr b hd=>WU dK (part' (k:=68) (a:=2) x26 b hd dC dK dK dK dK) (part' (k:=68) (a:=2) x17 b hd dC dK dK dK dK))
theorem c109:IsP 341948486974166000522343609283189:=
 B9 (f:=29047611873442575647497758179) dC dK (λr b hd=>part' (k:=109) (a:=2) c95 b hd dC dK dK dK dK)
theorem pN:IsP 115792089237316195423570985008687907852837564279074904382605163141518161494337:=
 B9 (f:=(174723607534414371449*341948486974166000522343609283189)) dC dK (λr b hd=>WU dK (part' (k:=256) (a:=2) b68 b hd dC dK dK dK dK) (part' (k:=256) (a:=2) c109 b hd dC dK dK dK dK))
theorem e128:IsP 255515944373312847190720520512484175977:=
 B9 (f:=(107590001*7240687*96557)) dC dK (λr b hd=>WU dK (WU dK (part' (k:=128) (a:=2) x27 b hd dC dK dK dK dK) (part' (k:=128) (a:=2) x23 b hd dC dK dK dK dK)) (part' (k:=128) (a:=2) x16 b hd dC dK dK dK dK))
theorem TC:IsP 205115282021455665897114700593932402728804164701536103180137503955397371:=
 B9 (f:=255515944373312847190720520512484175977) dC dK (λr b hd=>part' (k:=237) (a:=2) e128 b hd dC dK dK dK dK)
theorem pP:IsP 115792089237316195423570985008687907853269984665640564039457584007908834671663:=
 B9 (f:=205115282021455665897114700593932402728804164701536103180137503955397371) dC dK (λr b hd=>part' (k:=256) (a:=2) TC b hd dC dK dK dK dK)
end NT
namespace EC
structure Line{P:Nat}[NeZero P](x1 y1 x2 y2 l:Fin P):Prop where
 go:y2=y1+l*(x2-x1)
 on:l*(y1+y2)=x1^2+x1*x2+x2^2
variable {P:Nat}[NeZero P]
theorem Ce(k b c f l d g:Fin P)(n:b^2=k^3+7)(m:f^2=c^3+7)(i:Line k b c f l)(hx:d=l^2-k-c)(j:g=l*(k-d)-b):g^2=d^3+7:=by
 obtain⟨e,h⟩:=i;subst j hx e
 grobner
theorem Nj(k g c e i f j l d n b m:Fin P)(r:Line k g c j i)(o:Line c j e l f)
 (p:d=i^2-k-c) (t:n=i*(k-d)-g) (u:b=f^2-c-e) (q:m=f*(c-b)-j) :
 ((n-l)^2-(d+e)*(d-e)^2)*(b-k)^2=((m-g)^2-(k+b)*(b-k)^2)*(d-e)^2:=by
 obtain⟨s,v⟩:=r;obtain⟨e3,w⟩:=o;subst t q p u e3 s
 grobner
theorem Ni(c f g k m j n d b i e l:Fin P)(r:Line c f g n m)(o:Line g n k d j)
 (p:b=m^2-c-g) (t:i=m*(c-b)-f) (u:e=j^2-g-k) (q:l=j*(g-e)-n) :
 ((i-d)^2-(k+b)*(b-k)^2)*((l-f)*(b-k)-(i-d)*(e-c))+(b-k)^2*(((i-d)*k-d*(b-k))*(e-c)-((l-f)*c-f*(e-c))*(b-k))=0:=by
 obtain⟨s,v⟩:=r;obtain⟨e3,w⟩:=o;subst t q p u e3 s
 grobner (ringSteps:=100000000)
theorem J9(k g d b i f j e c l:Fin P)(p:Line k g d j i)(m:Line d j b e f)
 (n:b=i^2-k-d) (r:e=i*(k-b)-g) (s:c=f^2-d-b) (o:l=f*(d-c)-j) :
 (9*b^4-8*b*e^2)*(c-k)^2=((l-g)^2-(k+c)*(c-k)^2)*(4*e^2):=by
 obtain⟨q,t⟩:=p;obtain⟨e3,u⟩:=m;subst o s r n q
 grobner (ringSteps:=100000000)
theorem J8(c f d b i g j k e l:Fin P)(p:Line c f d j i)(m:Line d j b k g)
 (n:b=i^2-c-d) (r:k=i*(c-b)-f) (s:e=g^2-d-b) (o:l=g*(d-e)-j) :
 (3*b^2*(b*(4*k^2)-(9*b^4-8*b*k^2))-2*k^2*(4*k^2))*(e-c)=((l-f)*(c*(4*k^2)-(9*b^4-8*b*k^2))-f*(e-c)*(4*k^2))*(2*k):=by
 obtain⟨q,t⟩:=p;obtain⟨e3,u⟩:=m;subst o s r n q
 grobner (ringSteps:=100000000)
end EC
namespace EC
variable {P:Nat}[NeZero P]
theorem val_zero:(0:Fin P).val=0:=by simp
theorem val_one(h:NT.IsP P):(1:Fin P).val=1:=by
 have k:=h.1;show 1%P=1;exact UR oM
theorem nzd(h:NT.IsP P){a b:Fin P}(e:a*b=0):a=0\/b=0:=by
 have c:a.val*b.val%P=0:=by
  have:=congrArg yA8 e;rw[XI,val_zero]at this;exact this
 rcases h.euclid (XL c)with k|k
 ·exact U3 (X8 (by rw[val_zero];exact YV k a.isLt))
 ·exact UW (X8 (by rw[val_zero];exact YV k b.isLt))
theorem cI(h:NT.IsP P){a b:Fin P}(c:a≠0)(k:b≠0):a*b≠0:=λe=>(nzd h e).elim c k
theorem cancel(h:NT.IsP P){a b c:Fin P}(f:a≠0)(e:b*a=c*a):b=c:=by
 have d:(b-c)*a=0:=by grobner
 rcases nzd h d with k|k
 ·grobner
 ·exact absurd k f
def inv(a:Fin P):Fin P:=Fin.ofNat P (a.val^(P-2))
theorem inv_mul(h:NT.IsP P){a:Fin P}(b:a≠0):inv a*a=1:=by
 apply X8;have c:=h.1;have k:¬P ∣ a.val:=λhd=>b (X8 (by rw[val_zero];exact YV hd a.isLt))
 rw[XI,val_one h];show a.val^(P-2)%P*a.val%P=1;rw[yBm,<-V6,show(P-2).succ=P-1 by omega];exact h.fermat1 _ k
abbrev Pt(P:Nat):=Option (Fin P × Fin P)
def On:Pt P->Prop
 | none=>True
 | some (x,y)=>y^2=x^3+7
def neg:Pt P->Pt P
 | none=>none
 | some (x,y)=>some (x,-y)
def mW(k b c d:Fin P):Fin P:=if k=c then 3*k^2*inv (2*b) else(d-b)*inv (c-k)
def third(k c b l:Fin P):Pt P:=some (l^2-k-b,l*(k-(l^2-k-b))-c)
def add:Pt P->Pt P->Pt P
 | none,b=>b
 | a,none=>a
 | some (x1,y1),some (x2,y2)=>if x1=x2/\y2 = -y1 then none else third x1 y1 x2 (mW x1 y1 x2 y2)
theorem pU(h:NT.IsP P){x b k:Fin P}(d:b^2=x^3+7)(c:k^2=x^3+7)(ho:¬k = -b):k=b:=by
 have e:(k-b)*(k+b)=0:=by grobner
 rcases nzd h e with e|e
 ·grobner
 ·exact absurd (by grobner) ho
theorem v8{x k:Fin P}(h:NT.IsP P)(b:(2:Fin P)≠0)(ho:¬(x=x/\k = -k)):2*k≠0:=λe=>by
 rcases nzd h e with e|e
 ·exact b e
 ·exact ho ⟨rfl,by rw[e];grobner⟩
theorem bR(h:NT.IsP P)(f:(2:Fin P)≠0){k d b c:Fin P}(i:d^2=k^3+7)(l:c^2=b^3+7)(ho:¬(k=b/\c = -d)):Line k d b c (mW k d b c):=by
 unfold mW;by_cases hx:k=b
 ·subst hx;rw[yCj rfl];have j:=pU h i l (λe=>ho ⟨rfl,e⟩);subst j;have g:=inv_mul h (v8 h f ho);exact⟨by grobner,by grobner⟩
 ·rw[yCk hx];have hd:b-k≠0:=λe=>hx (by grobner)
  have g:=inv_mul h hd;refine⟨by grobner,cancel h hd (by grobner)⟩
theorem Cl(h:NT.IsP P)(i:(2:Fin P)≠0){b c k d l m:Fin P}(g:c^2=b^3+7)(j:d^2=k^3+7)(ho:¬(b=k/\d = -c))(L:Line b c k d l)(M:Line b c k d m):l=m:=by
 obtain⟨o,b1⟩:=L;obtain⟨a2,n⟩:=M;by_cases hx:b=k
 ·subst hx;have f:=pU h g j (λe=>ho ⟨rfl,e⟩);subst f;exact cancel h (v8 h i ho) (by grobner)
 ·have hd:k-b≠0:=λe=>hx (by grobner)
  exact cancel h hd (by grobner)
theorem cD(h:NT.IsP P)(e:(2:Fin P)≠0){k b c d l:Fin P}(f:b^2=k^3+7)(g:d^2=c^3+7)(ho:¬(k=c/\d = -b))(L:Line k b c d l):add (some (k,b)) (some (c,d))=third k b c l:=by
 show(if k=c/\d = -b then none else third k b c (mW k b c d))=_;rw[yCk ho,Cl h e f g ho (bR h e f g ho) L]
theorem iW{k b c d:Fin P}(ho:k=c/\d = -b):add (some (k,b)) (some (c,d))=none:=by
 show(if k=c/\d = -b then none else third k b c (mW k b c d))=_;rw[yCj ho]
theorem bK(a:Pt P):add a none=a:=by cases a<;>rfl
theorem Line.swap{c d e k l:Fin P}(L:Line c d e k l):Line e k c d l:=by
 obtain⟨a,b⟩:=L;exact⟨by grobner,by grobner⟩
theorem C7{k e c d l:Fin P}(L:Line k e c d l):third k e c l=third c d k l:=by
 obtain⟨a,b⟩:=L;unfold third;have g:l^2-k-c=l^2-c-k:=by grobner
 have f:l*(k-(l^2-k-c))-e=l*(c-(l^2-c-k))-d:=by grobner
 rw[f,g]
theorem add_comm(h:NT.IsP P)(c:(2:Fin P)≠0)(a b:Pt P)(f:On a)(d:On b):add a b=add b a:=by
 rcases a with _|⟨i,j⟩
 ·rw[bK];rfl
 ·rcases b with _|⟨l,g⟩
  ·rfl
  ·by_cases ho:i=l/\g = -j
   ·rw[iW ho,iW ⟨ho.1.symm,by rw[ho.2];grobner⟩]
   ·have k:¬(l=i/\j = -g):=λe=>ho ⟨e.1.symm,by rw[e.2];grobner⟩
    have L:=bR h c f d ho;rw[cD h c f d ho L,cD h c d f k L.swap,C7 L]
theorem Ej(h:NT.IsP P)(e:(2:Fin P)≠0)(a b:Pt P)(c:On a)(k:On b):On (add a b):=by
 rcases a with _|⟨f,g⟩
 ·exact k
 ·rcases b with _|⟨i,d⟩
  ·exact c
  ·by_cases ho:f=i/\d = -g
   ·rw[iW ho];trivial
   ·have L:=bR h e c k ho;rw[cD h e c k ho L];exact Ce f g i d _ _ _ c k L rfl rfl
theorem cE{a:Pt P}(h:On a):On (neg a):=by
 rcases a with _|⟨x,y⟩
 ·trivial
 ·have k:y^2=x^3+7:=h;show(-y)^2=x^3+7
  grobner
theorem neg_neg'(a:Pt P):neg (neg a)=a:=by
 rcases a with _|⟨x,y⟩
 ·rfl
 ·show some (x,- -y)=some (x,y);have:- -y=y:=by grobner
  rw[this]
theorem add_neg(a:Pt P):add a (neg a)=none:=by
 rcases a with _|⟨x,y⟩
 ·rfl
 ·exact iW ⟨rfl,rfl⟩
theorem Line.neg{c d e k l:Fin P}(L:Line c d e k l):Line c (-d) e (-k) (-l):=by
 obtain⟨a,b⟩:=L;exact⟨by grobner,by grobner⟩
theorem neg_add(h:NT.IsP P)(i:(2:Fin P)≠0){a b:Pt P}(m:On a)(j:On b):neg (add a b)=add (neg a) (neg b):=by
 rcases a with _|⟨k,d⟩
 ·rfl
 ·rcases b with _|⟨c,f⟩
  ·rfl
  ·by_cases ho:k=c/\f = -d
   ·rw[iW ho];exact(iW ⟨ho.1,by rw[ho.2]⟩).symm
   ·have L:=bR h i m j ho;have g:¬(k=c/\-f = - -d):=λe=>ho ⟨e.1,by have:=e.2;grobner⟩
    rw[cD h i m j ho L];refine Eq.trans ?_ (cD h i (cE (a:=some (k,d)) m) (cE (a:=some (c,f)) j) g L.neg).symm;generalize mW k d c f=l;unfold third;show some (l^2-k-c,-(l*(k-(l^2-k-c))-d))=some ((-l)^2-k-c,-l*(k-((-l)^2-k-c)) - -d);have o:(-l)^2=l^2:=by grobner
    rw[o];have n:-(l*(k-(l^2-k-c))-d) = -l*(k-(l^2-k-c)) - -d:=by grobner
    rw[n]
theorem Line.back{k c f j l d e:Fin P}(L:Line k c f j l)(g:d=l^2-k-f)(i:e=l*(k-d)-c):Line k (-c) d e (-l):=by
 obtain⟨a,b⟩:=L;subst i g a;exact⟨by grobner,by grobner (ringSteps:=10000000)⟩
theorem Qd{b k c l:Fin P}(d:c=l^2-b-k):(-l)^2-b-c=k:=by
 subst d
 grobner
theorem Qc{d c k b l:Fin P}(a:b=k+l*(c-d)):-l*(d-c) - -k=b:=by
 subst a
 grobner
theorem O5{x y:Fin P}(z:y=0)(k:y^2=x^3+7):x^3+7=0:=by
 grobner
theorem Cf(h:NT.IsP P)(j:(2:Fin P)≠0)(y:∀x:Fin P,x^3+7≠0){b c:Pt P}(g:On b)(m:On c):add (neg b) (add b c)=c:=by
 rcases b with _|⟨d,f⟩
 ·rfl
 ·rcases c with _|⟨n,o⟩
  ·rw[bK];exact iW ⟨rfl,by grobner⟩
  ·have s:=g;have w:=m;by_cases ho:d=n/\o = -f
   ·rw[iW ho,bK,ho.1,ho.2];rfl
   ·have L:=bR h j g m ho;have k:=Ce d f n o _ _ _ g m L rfl rfl;rw[cD h j g m ho L];generalize mW d f n o=l at L k;obtain⟨i,r⟩:∃i,i=l^2-d-n:=⟨_,rfl⟩
    unfold third;rw[<-r]at k⊢;obtain⟨p,t⟩:∃p,p=l*(d-i)-f:=⟨_,rfl⟩
    rw[<-t]at k⊢;have M:=L.back r t;have a:=L.go;have q:¬(d=i/\p = - -f):=λe=>by
     obtain⟨u,v⟩:=e;have z:2*f=0:=by
      grobner
     rcases nzd h z with z|z
     ·exact j z
     ·exact y d (O5 z s)
    refine(cD h j (cE (a:=some (d,f)) g) k q M).trans ?_;unfold third;rw[Qd r,Qc a]
theorem RZ(h:NT.IsP P){k b c d n f l e i j:Fin P}(g:c-b≠0)(m:d-k≠0)(p:l-f=i*(c-b))(o:e-n=j*(d-k))
 (hx:((l-f)^2-(c+b)*(c-b)^2)*(d-k)^2=((e-n)^2-(k+d)*(d-k)^2)*(c-b)^2):i^2-c-b=j^2-k-d:=by
 rw[p,o]at hx;clear p o;refine cancel h (cI h (cI h g g) (cI h m m)) ?_
 grobner
theorem RY(h:NT.IsP P){d k c j m g l o i p X:Fin P}(n:c-k≠0)(r:j-d≠0)(w:l-g=i*(c-k))(t:o-m=p*(j-d))(s:i^2-c-k=X)
 (f:((l-g)^2-(k+c)*(c-k)^2)*((o-m)*(c-k)-(l-g)*(j-d))+(c-k)^2*(((l-g)*k-g*(c-k))*(j-d)-((o-m)*d-m*(j-d))*(c-k))=0):i*(c-X)-l=p*(d-X)-m:=by
 rw[w,t]at f;have q:l=g+i*(c-k):=by clear f s;grobner
 have u:c+k=i^2-X:=by clear f;grobner
 rw[q];obtain⟨a,y⟩:∃a,c-k=a:=⟨_,rfl⟩
 rw[y]at n f⊢;generalize j-d=b at r f;have v:(p*(d-X)-m-(i*(k-X)-g))*(a*a*a*b)=0:=by
  have x:k+c=i^2-X:=by rw[<-u];clear f;grobner
  rw[x]at f
  grobner
 rcases nzd h v with e|e
 ·have x:c=k+a:=by clear f v e u q s w t;grobner
  rw[x]
  grobner
 ·exact absurd e (cI h (cI h (cI h n n) n) r)
theorem Sw(h:NT.IsP P){b c d m k g f j:Fin P}(i:2*k≠0)(l:d-b≠0)(n:f*(2*k)=3*c^2)(o:g-m=j*(d-b))
 (hx:(9*c^4-8*c*k^2)*(d-b)^2=((g-m)^2-(b+d)*(d-b)^2)*(4*k^2)):f^2-c-c=j^2-b-d:=by
 rw[o]at hx;refine cancel h (cI h (cI h i i) (cI h l l)) ?_;have e:9*c^4=(f*(2*k))*(f*(2*k)):=by rw[n];clear hx n;grobner
 rw[e]at hx
 grobner
theorem Su(h:NT.IsP P){c b g f k m d n X:Fin P}(j:2*k≠0)(p:g-c≠0)(i:d*(2*k)=3*b^2)(q:m-f=n*(g-c))(o:d^2-b-b=X)
 (l:(3*b^2*(b*(4*k^2)-(9*b^4-8*b*k^2))-2*k^2*(4*k^2))*(g-c)=((m-f)*(c*(4*k^2)-(9*b^4-8*b*k^2))-f*(g-c)*(4*k^2))*(2*k)):d*(b-X)-k=n*(c-X)-f:=by
 rw[q]at l;have e:9*b^4-8*b*k^2=X*(4*k^2):=by
  have r:9*b^4=(d*(2*k))*(d*(2*k)):=by rw[i];clear l i;grobner
  rw[r,<-o]
  grobner
 rw[e,<-i]at l;clear e i o;refine cancel h (cI h (cI h (cI h j j) j) p) ?_
 grobner
theorem pJ{a b:Fin P}(h:¬a=b):a-b≠0:=λe=>h (by grobner)
theorem Line.run{b c d k l:Fin P}(L:Line b c d k l):k-c=l*(d-b)/\c-k=l*(b-d):=by
 obtain⟨a,-⟩:=L;exact⟨by grobner,by grobner⟩
theorem Line.at{x y l:Fin P}(L:Line x y x y l):l*(2*y)=3*x^2:=by
 obtain⟨-,b⟩:=L
 grobner
theorem OC{m l d:Fin P}(s:m^2=l^2):(m*d)^2=(l*d)^2:=by grobner
theorem ML{k b:Fin P}(s:(k - -b)^2=(k-b)^2):4*(k*b)=0:=by grobner
theorem TO{m l k c b:Fin P}(r:m^2-c-k=b)(e:b=l^2-k-c):m^2=l^2:=by grobner
theorem QJ{x l a b:Fin P}(e:x=l^2-a-b):x=l^2-b-a:=by grobner
theorem QI{e k d c g b l:Fin P}(L:Line e k d c l)(f:b=l*(e-g)-k):b=l*(d-g)-c:=by
 obtain⟨a,-⟩:=L
 grobner
theorem four_ne(h:NT.IsP P)(k:(2:Fin P)≠0):(4:Fin P)≠0:=λe=>by
 have:(2:Fin P)*2=0:=by grobner
 rcases nzd h this with e|e<;>exact k e
theorem Cc{y z:Fin P}(e:y = -z):z = -y:=by grobner
theorem An(h:NT.IsP P)(q:(2:Fin P)≠0){k d f n j g m l b o c i:Fin P}(D:g^2=j^3+7)(I:d^2=k^3+7)
 (w:Line k d f n m) (s:Line f n j g l) (u:b=m^2-k-f) (z:o=m*(k-b)-d) (a:c=l^2-f-j) (v:i=l*(f-c)-n)
 (F:o^2=b^3+7) (H:i^2=c^3+7) (y:¬(b=j/\g = -o)) (J:¬(k=c/\i = -d)) (hx:¬c=k) :
 add (some (b,o)) (some (j,g))=add (some (k,d)) (some (c,i)):=by
 have p:=bR h q F D y;have r:=bR h q I H J;rw[cD h q F D y p,cD h q I H J r];unfold third;by_cases hd:b=j
 ·have K:=pU h F (hd ▸ D) (λe=>y ⟨hd,e⟩);subst hd K;have t:=v8 (x:=b) h q y;have E:=Sw h t (pJ hx) p.at r.run.1 (J9 k d f b m l n g c i w s u z a v);have G:=Su h t (pJ hx) p.at r.run.1 rfl (J8 k d f b m l n g c i w s u z a v);rw[G,E]
 ·have E:=RZ h (pJ hd) (pJ hx) p.run.2 r.run.1 (Nj k d f j m l n g b o c i w s u z a v);have G:=RY h (pJ hd) (pJ hx) p.run.2 r.run.1 rfl (Ni k d f j m l n g b o c i w s u z a v);rw[G,E]
theorem add_assoc(h:NT.IsP P)(l:(2:Fin P)≠0)(h7:∀x:Fin P,x^3+7≠0)(a b c:Pt P)(g:On a)(k:On b)(n:On c):add (add a b) c=add a (add b c):=by
 have comm:=λ(a b:Pt P) (g:On a) (k:On b)=>add_comm h l a b g k
 have f:=Ej h l a b g k;have i:=Ej h l b c k n;have I:∀ {u v:Pt P},On u->On v->add (neg u) (add u v)=v:=λhu hv=>Cf h l h7 hu hv
 by_cases z1:b=neg a
 ·subst z1;rw[add_neg];have:=I k n;rw[neg_neg']at this;exact this.symm
 by_cases z2:c=neg b
 ·subst z2;rw[add_neg,bK,comm _ _ f n,comm a b g k];exact I k g
 by_cases w:c=neg (add a b)
 ·subst w;rw[add_neg];have e:add b (neg (add a b))=neg a:=by
   rw[comm a b g k,neg_add h l k g];have:=I (cE k) (cE g);rw[neg_neg']at this;exact this
  rw[e,add_neg]
 by_cases r:add b c=neg a
 ·rw[r,add_neg];have e:a=neg (add b c):=by rw[r,neg_neg']
  have j:add a b=neg c:=by
   rw[comm a b g k,e,neg_add h l k n];have:=I (cE k) (cE n);rw[neg_neg']at this;exact this
  rw[j,comm _ _ (cE n) n,add_neg]
 rcases a with _|⟨p,s⟩
 ·rfl
 rcases b with _|⟨j,q⟩
 ·rfl
 rcases c with _|⟨A,F⟩
 ·rw[bK,bK]
 have Q:¬(p=j/\q = -s):=λe=>z1 (by rw[e.1,e.2];rfl)
 have w2:¬(j=A/\F = -q):=λe=>z2 (by rw[e.1,e.2];rfl)
 have D:=bR h l g k Q;have E:=bR h l k n w2;have B:=cD h l g k Q D;have C:=cD h l k n w2 E;rw[B]at f w⊢;rw[C]at i r⊢;generalize mW p s j q=Z at D B f w⊢;generalize mW j q A F=Y at E C i r⊢;unfold third at f i w r B C⊢;obtain⟨J,G⟩:∃J,J=Z^2-p-j:=⟨_,rfl⟩
 obtain⟨H,X⟩:∃H,H=Y^2-j-A:=⟨_,rfl⟩
 rw[<-G]at f w B⊢;rw[<-X]at i r C⊢;obtain⟨O,V⟩:∃O,O=Z*(p-J)-s:=⟨_,rfl⟩
 obtain⟨N,R⟩:∃N,N=Y*(j-H)-q:=⟨_,rfl⟩
 rw[<-V]at f w B⊢;rw[<-R]at i r C⊢;have S:¬(J=A/\F = -O):=λe=>w (by rw[e.2,<-e.1];rfl)
 have T:¬(p=H/\N = -s):=λe=>r (by rw[e.2,<-e.1];rfl)
 by_cases hx:H=p
 ·have hy:N=s:=by
   have t:=i;rw[hx]at t;exact pU h g t (λe=>T ⟨hx.symm,e⟩)
  by_cases hd:J=A
  ·exfalso;have U:F=O:=by
    have t:=f;exact pU h t (hd ▸ n) (λe=>S ⟨hd,e⟩)
   have L:=I k n;rw[C,hx,hy]at L;rw[hd,<-U]at B;have W:¬p=j:=λe=>by
    subst e;have t:=pU h g k (λe=>Q ⟨rfl,e⟩);subst t;rw[comm _ _ (cE k) g,add_neg]at L;cases L
   have u1:¬(j=p/\s = - -q):=λe=>W e.1.symm
   have M:=bR h l (cE (a:=some (j,q)) k) g u1;have r2:=cD h l (cE (a:=some (j,q)) k) g u1 M;have K:third j (-q) p (mW j (-q) p s)=some (A,F):=r2.symm.trans L;generalize mW j (-q) p s=m at M K;unfold third at K;have r4:m^2-j-p=A:=by injection K with K;injection K
   have k1:=M.run.1;have k2:=D.run.2;rw[hd]at G;have s2:=OC (d:=p-j) (TO r4 G);rw[<-k1,<-k2]at s2;have k3:=ML s2;have t:∀ {x y:Fin P},y^2=x^3+7->y≠0:=λo z=>h7 _ (O5 z o)
   rcases nzd h k3 with e|e
   ·exact four_ne h l e
   ·rcases nzd h e with e|e
    ·exact t g e
    ·exact t k e
  ·-- the same,from the other side
   have t:=An h l g n E.swap D.swap (QJ X) (QI E R) (QJ G) (QI D V) i f (λe=>T ⟨e.1.symm,Cc e.2⟩) (λe=>S ⟨e.1.symm,Cc e.2⟩) hd;rw[comm _ _ f n,comm _ _ g i];exact t.symm
 ·exact An h l n g D E G V X R f i S T hx
structure Cur(P:Nat)[NeZero P]:Prop where
 pr:NT.IsP P
 two:(2:Fin P)≠0
 sev:∀x:Fin P,x^3+7≠0
theorem Cur.y_ne(C:Cur P){a b:Fin P}(h:On (some (a,b))):b≠0:=λe=>C.sev a (O5 e h)
theorem Cur.opp_ne(C:Cur P){a b:Fin P}(h:On (some (a,b))):¬(a=a/\b = -b):=λe=>by
 have k:2*b=0:=by
  have:=e.2
  grobner
 exact cI C.pr C.two (C.y_ne h) k
def Jac(x y z:Fin P):Pt P->Prop
 | none=>z=0
 | some (a,b)=>z≠0/\x=a*z^2/\y=b*z^3
def Pair(x y:Fin P):Pt P->Prop
 | none=>x=0/\y=0
 | some (a,b)=>x=a/\y=b
def dbl(n:Fin P):Fin P:=n+n
def twB(x y:Fin P):Fin P:=dbl (dbl (x*(y*y)))
def twS(x:Fin P):Fin P:=dbl (x*x)+x*x
def twX(x y:Fin P):Fin P:=twS x*twS x-dbl (twB x y)
def twY(x y:Fin P):Fin P:=twS x*(twB x y-twX x y)-dbl (dbl (dbl (y*y*(y*y))))
def twZ(y z:Fin P):Fin P:=dbl (y*z)
theorem Tg{a b l x y z:Fin P}(g:l*(2*b)=3*a^2)(c:x=a*z^2)(k:y=b*z^3):twX x y=(l^2-a-a)*twZ y z^2:=by
 subst c k;unfold twX twS twB twZ dbl
 grobner (ringSteps:=100000000)
theorem Tf{a b l x y z X:Fin P}(g:l*(2*b)=3*a^2)(d:x=a*z^2)(k:y=b*z^3)(c:twX x y=X*twZ y z^2):twY x y=(l*(a-X)-b)*twZ y z^3:=by
 subst d k;unfold twY;rw[c];unfold twS twB twZ dbl
 grobner (ringSteps:=100000000)
theorem Te(C:Cur P){b y z:Fin P}(d:b≠0)(k:z≠0)(c:y=b*z^3):twZ y z≠0:=λe=>by
 have f:2*b*(z*z*(z*z))=0:=by
  unfold twZ dbl at e;subst c
  grobner
 exact cI C.pr (cI C.pr C.two d) (cI C.pr (cI C.pr k k) (cI C.pr k k)) f
theorem Jac.twice(C:Cur P){x y z:Fin P}{p:Pt P}(h:Jac x y z p)(k:On p):Jac (twX x y) (twY x y) (twZ y z) (add p p):=by
 match p,h,k with
 | none,h,_ =>
  have c:=h;show twZ y z=0;subst c;unfold twZ dbl
  grobner
 | some (a,b),h,k =>
  obtain⟨e,d,c⟩:=h;have ho:=C.opp_ne k;have L:=bR C.pr C.two k k ho;rw[cD C.pr C.two k k ho L];have hx:=Tg L.at d c;exact⟨Te C (C.y_ne k) e c,hx,Tf L.at d c hx⟩
def cN(b k:Fin P):Fin P:=b*(k*k)
def eK(b k:Fin P):Fin P:=b*(k*k)*k
def plX(k c bx b:Fin P):Fin P:=(b-c)*(b-c)-(bx-k)*(bx-k)*(bx-k)-dbl ((bx-k)*(bx-k)*k)
def plY(k b bx c:Fin P):Fin P:=(c-b)*((bx-k)*(bx-k)*k-plX k b bx c)-(bx-k)*(bx-k)*(bx-k)*b
def plZ(c k b bx:Fin P):Fin P:=c*k*(bx-b)
theorem TF{a b c d l t k f bx e Z:Fin P}(g:d-b=l*(c-a))(o:k=a*t^2)(i:f=b*t^3)(e3:bx=c*t^2)(n:e=d*t^3)(j:Z=t*(bx-k)):plX k f bx e=(l^2-a-c)*Z^2:=by
 have m:d=b+l*(c-a):=by grobner
 subst m o i e3 n j;unfold plX dbl
 grobner (ringSteps:=100000000)
theorem TE{a b c d l t k f bx e Z X:Fin P}(g:d-b=l*(c-a))(o:k=a*t^2)(n:f=b*t^3)(e3:bx=c*t^2)(j:e=d*t^3)(i:Z=t*(bx-k))(m:plX k f bx e=X*Z^2):plY k f bx e=(l*(a-X)-b)*Z^3:=by
 unfold plY;rw[m];have p:d=b+l*(c-a):=by grobner
 subst p o n e3 j i
 grobner (ringSteps:=100000000)
theorem AP(C : Cur P){a c t : Fin P}{k : Nat}(ht : t ≠ 0)(e : a * t ^ k = c * t ^ k): a = c := by
  have hk : ∀k : Nat, t ^ k ≠ 0 := λk => by
    induction k with
    | zero => intro h; exact ht (by have h2 : (1 : Fin P) = 0 := by { rw [← h]; grind }; calc t = t * 1 := by grobner
                                    _ = 0 := by rw [h2]; grobner)
    | succ k ih => intro h; exact cI C.pr ih ht (by rw [<-h]; grind)
  exact cancel C.pr (hk k) e
theorem Jac.plus(C:Cur P){m n f j o e:Fin P}{p q:Pt P}(h:Jac m n f p)(l:On p)(B:Jac j o e q)(i:On q)(F:f≠0)(E:e≠0):
 (cN m e=cN j f/\eK n e=eK o f/\add p q=add p p) \/
 (¬(cN m e=cN j f/\eK n e=eK o f)/\Jac (plX (cN m e) (eK n e) (cN j f) (eK o f)) (plY (cN m e) (eK n e) (cN j f) (eK o f)) (plZ f e (cN m e) (cN j f)) (add p q)):=by
 match p,q,h,l,B,i with
 | none,_,h,_,_,_=>exact absurd h F
 | some (a,b),none,_,_,h,_=>exact absurd h E
 | some (a,b),some (c,d),h,l,B,i =>
  obtain⟨-,A,z⟩:=h;obtain⟨-,w,y⟩:=B;have v:=cI C.pr F E;have s:cN m e=a*(f*e)^2:=by subst A;unfold cN;clear l i;grobner
  have u:eK n e=b*(f*e)^3:=by subst z;unfold eK;clear l i;grobner
  have e3:cN j f=c*(f*e)^2:=by subst w;unfold cN;clear l i;grobner
  have t:eK o f=d*(f*e)^3:=by subst y;unfold eK;clear l i;grobner
  by_cases r:cN m e=cN j f/\eK n e=eK o f
  ·refine U3 ⟨r.1,r.2,?_⟩;have D:a=c:=AP C v (by rw[<-s,<-e3];exact r.1);have g:b=d:=AP C v (by rw[<-u,<-t];exact r.2);rw[D,g]
  ·refine UW ⟨r,?_⟩;by_cases g:a=c
   ·have hd:d = -b:=Ws λD=>r ⟨by rw[s,e3,g],by
     have:=pU C.pr (x:=a) l (by rw[g];exact i) D;rw[u,t,this]⟩
    rw[iW ⟨g,hd⟩];show plZ _ _ _ _=0;rw[s,e3,g];unfold plZ
    grobner
   ·have ho:¬(a=c/\d = -b):=λh=>g h.1
    have L:=bR C.pr C.two l i ho;rw[cD C.pr C.two l i ho L];have D:plZ f e (cN m e) (cN j f)=f*e*(cN j f-cN m e):=rfl;have hx:=TF L.run.1 s u e3 t D;refine⟨?_,hx,TE L.run.1 s u e3 t D hx⟩;rw[D];refine cI C.pr v (λh=>g ?_);exact AP C (k:=2) v (by rw[<-s,<-e3];clear l i L hx;grobner)
theorem Jac.zero(C:Cur P){x y z:Fin P}{p:Pt P}(h:Jac x y z p)(k:z=0):p=none:=by
 match p,h with
 | none,_=>rfl
 | some (a,b),h=>exact absurd k h.1
theorem Jac.neg{x y z:Fin P}{p:Pt P}(h:Jac x y z p):Jac x (0-y) z (neg p):=by
 match p,h with
 | none,h=>exact h
 | some (a,b),h=>exact⟨h.1,h.2.1,by have:=h.2.2;show 0-y = -b*z^3;grobner⟩
theorem inv_zero(C:Cur P):inv (0:Fin P)=0:=by
 apply X8;have k:=C.pr.1;show(0:Fin P).val^(P-2)%P=_;rw[val_zero];by_cases h:P=2
 ·exact absurd (X8 (by rw[val_zero];show 2%P=0;rw[h])) C.two
 ·rw[yBI oM,Nat.zero_mod]
theorem Jac.pair(C:Cur P){x y z:Fin P}{p:Pt P}(h:Jac x y z p):Pair (x*(inv z*inv z)) (y*(inv z*inv z)*inv z) p:=by
 match p,h with
 | none,h =>
  have k:=h;subst k;rw[inv_zero C];exact⟨by grobner,by grobner⟩
 | some (a,b),h =>
  have d:=inv_mul C.pr h.1;obtain⟨-,c,k⟩:=h;subst c k;exact⟨by grobner,by grobner⟩
theorem Pair.jac(C:Cur P){x y:Fin P}{p:Pt P}(h:Pair x y p)(d:¬(x=0/\y=0)):Jac x y 1 p:=by
 match p,h with
 | none,h=>exact absurd h d
 | some (a,b),h =>
  obtain⟨k,c⟩:=h;subst k c;refine⟨λe=>?_,by grobner,by grobner⟩;have:=congrArg yA8 e;rw[val_zero,val_one C.pr]at this;omega
theorem Pair.nothing(C:Cur P){x y:Fin P}{p:Pt P}(h:Pair x y p)(k:On p)(d:x=0/\y=0):p=none:=by
 match p,h,k with
 | none,_,_=>rfl
 | some (a,b),h,k =>
  obtain⟨e,c⟩:=h;exact absurd (by rw[<-c];exact d.2) (C.y_ne k)
def mul:Nat->Pt P->Pt P
 | 0,_=>none
 | n+1,a=>add (mul n a) a
theorem iN:On (none:Pt P):=trivial
theorem jJ(a:Pt P):add none a=a:=rfl
theorem Cur.on(C:Cur P){a b:Pt P}(c:On a)(k:On b):On (add a b):=Ej C.pr C.two a b c k
theorem Cur.comm(C:Cur P){a b:Pt P}(c:On a)(k:On b):add a b=add b a:=add_comm C.pr C.two a b c k
theorem Cur.assoc(C:Cur P){a b c:Pt P}(e:On a)(d:On b)(k:On c):add (add a b) c=add a (add b c):=add_assoc C.pr C.two C.sev a b c e d k
theorem Cur.neg_l(C:Cur P){a:Pt P}(k:On a):add (neg a) a=none:=by
 rw[C.comm (cE k) k,add_neg]
theorem Cur.swap(C:Cur P){a b c d:Pt P}(f:On a)(e:On b)(k:On c)(hd:On d):add (add a b) (add c d)=add (add a c) (add b d):=by
 rw[C.assoc f e (C.on k hd),<-C.assoc e k hd,C.comm e k,C.assoc k e hd,<-C.assoc f k (C.on e hd)]
theorem cG(C:Cur P){a:Pt P}(k:On a):∀n,On (mul n a)
 | 0=>iN
 | n+1=>C.on (cG C k n) k
theorem mul_add(C:Cur P){a:Pt P}(k:On a)(m:Nat):∀n,mul (m+n) a=add (mul m a) (mul n a)
 | 0=>(bK _).symm
 | n+1=>by
  show add (mul (m+n) a) a=add (mul m a) (add (mul n a) a);rw[mul_add C k m n,C.assoc (cG C k m) (cG C k n) k]
def eF:Int->Pt P->Pt P
 | .ofNat n,a=>mul n a
 | .negSucc n,a=>neg (mul (n+1) a)
theorem iM(C:Cur P){a:Pt P}(k:On a):∀n,On (eF n a)
 | .ofNat n=>cG C k n
 | .negSucc n=>cE (cG C k (n+1))
theorem nP(C:Cur P){a:Pt P}(k:On a):∀n,eF (n+1) a=add (eF n a) a
 | .ofNat n=>rfl
 | .negSucc 0=>by
  show(none:Pt P)=add (neg (add none a)) a;rw[jJ,C.neg_l k]
 | .negSucc (n+1)=>by
  show neg (mul (n+1) a)=add (neg (add (mul (n+1) a) a)) a;have b:=cG C k (n+1);rw[neg_add C.pr C.two b k,C.assoc (cE b) (cE k) k,C.neg_l k,bK]
theorem rQ(C:Cur P){a:Pt P}(k:On a)(n:Int):eF (n-1) a=add (eF n a) (neg a):=by
 have h:=nP C k (n-1);rw[Int.sub_add_cancel]at h;rw[h,C.assoc (iM C k _) k (cE k),add_neg,bK]
theorem Bz(C:Cur P){a:Pt P}(k:On a)(m:Int):∀n:Nat,eF (m+n) a=add (eF m a) (eF n a)
 | 0=>by rw[WG,ZR];exact(bK _).symm
 | n+1=>by
  rw[show m+((n+1:Nat):Int)=(m+n)+1 by omega,nP C k,Bz C k m n,show((n+1:Nat):Int)=(n:Int)+1 by omega,nP C k,
   C.assoc (iM C k _) (iM C k _) k]
theorem Bw(C:Cur P){a:Pt P}(k:On a):∀n:Nat,eF (-(n:Int)) a=neg (eF n a)
 | 0=>rfl
 | n+1=>by
  have b:eF (((n+1:Nat):Int)) a=add (eF n a) a:=by rw[show((n+1:Nat):Int)=(n:Int)+1 by omega,nP C k]
  rw[b,neg_add C.pr C.two (iM C k _) k,<-Bw C k n,show -((n+1:Nat):Int) = -(n:Int)-1 by omega,rQ C k]
theorem Bu(C:Cur P){a:Pt P}(k:On a)(m:Int):∀n:Nat,eF (m-n) a=add (eF m a) (eF (-(n:Int)) a)
 | 0=>by rw[WG,Int.sub_zero];exact(bK _).symm
 | n+1=>by
  rw[show m-((n+1:Nat):Int)=(m-n)-1 by omega,rQ C k,Bu C k m n,show -((n+1:Nat):Int) = -(n:Int)-1 by omega,rQ C k,
   C.assoc (iM C k _) (iM C k _) (cE k)]
theorem vU(C:Cur P){a:Pt P}(b:On a)(m n:Int):eF (m+n) a=add (eF m a) (eF n a):=by
 rcases Int.le_total 0 n with h|h
 ·obtain⟨k,rfl⟩:=yAk h;exact Bz C b m k
 ·obtain⟨k,c⟩:=yAk (show 0<=-n by omega);obtain rfl:n = -(k:Int):=oM;rw[<-Bu C b m k,Int.sub_eq_add_neg]
theorem Bv(a:Pt P):eF 1 a=a:=jJ a
theorem Gg(a:Pt P):eF 0 a=none:=rfl
def tot(a:Nat->Pt P):Nat->(Nat->Int)->Pt P
 | 0,_=>none
 | k+1,f=>add (tot a k f) (eF (f k) (a k))
theorem C5(C:Cur P){a:Nat->Pt P}(f:Nat->Int):∀k,(∀i,i<k->On (a i))->On (tot a k f)
 | 0,_=>iN
 | k+1,h=>C.on (C5 C f k λi b=>h i oM) (iM C (h k oM) _)
theorem eJ{a:Nat->Pt P}{f g:Nat->Int}:∀k,(∀i,i<k->f i=g i)->tot a k f=tot a k g
 | 0,_=>rfl
 | k+1,h=>by
  show add (tot a k f) _=add (tot a k g) _;rw[eJ k (λi b=>h i oM),h k oM]
theorem v9(a:Nat->Pt P){f:Nat->Int}:∀k,(∀i,i<k->f i=0)->tot a k f=none
 | 0,_=>rfl
 | k+1,h=>by
  show add (tot a k f) _=none;rw[v9 a k (λi b=>h i oM),h k oM];rfl
theorem AC(C:Cur P){a:Nat->Pt P}(f g:Nat->Int):∀k,(∀i,i<k->On (a i))->tot a k (λj=>f j+g j)=add (tot a k f) (tot a k g)
 | 0,_=>rfl
 | k+1,h=>by
  have c:∀i,i<k->On (a i):=λi d=>h i oM
  have b:=h k oM;show add (tot a k _) (eF (f k+g k) (a k))=add (add (tot a k f) (eF (f k) (a k))) (add (tot a k g) (eF (g k) (a k)));rw[AC C f g k c,vU C b,C.swap (C5 C f k c) (C5 C g k c) (iM C b _) (iM C b _)]
theorem Es(C:Cur P){a:Nat->Pt P}(i:Nat)(d:Int):∀k,i<k->(∀i,i<k->On (a i))->tot a k (λj=>if j=i then d else 0)=eF d (a i)
 | k+1,hi,h=>by
  show add (tot a k _) (eF (if k=i then d else 0) (a k))=_;by_cases b:k=i
  ·subst b;rw[yCj rfl,v9 a k (λj c=>yCk oM)];rfl
  ·rw[yCk b,Es C i d k oM (λj c=>h j oM)];exact bK _
theorem Lh(C:Cur P){a:Nat->Pt P}(f:Nat->Int)(i:Nat)(d:Int)(k:Nat)(c:i<k)(h:∀i,i<k->On (a i)):
 tot a k (λj=>if j=i then f j+d else f j)=add (tot a k f) (eF d (a i)):=by
 rw[<-Es C i d k c h,<-AC C f _ k h];refine eJ k λj _=>?_
 by_cases b:j=i
 ·rw[yCj b,yCj b]
 ·rw[yCk b,yCk b,ZR]
theorem Gl(C:Cur P){a:Nat->Pt P}(f:Nat->Int)(k:Nat)(h:∀i,i<k->On (a i)):tot a k (λj=>2*f j)=add (tot a k f) (tot a k f):=by
 rw[<-AC C f f k h];exact eJ k λj _=>oM
end EC
namespace EC
theorem LI{P c:Nat}(f:NT.IsP P)(l:P=3*c+1)(m:7<P)(g:(P-7)^c%P≠1)(x:Nat):(x*x*x+7)%P≠0:=λe=>by
 have hx:¬P ∣ x:=λhd=>by
  have b:P ∣ x*x*x:=Nat.dvd_mul_left_of_dvd hd _;have k:P ∣ 7:=(Nat.dvd_add_right b).1 (XL e);have:=Yc dC k;omega
 have b:=f.fermat1 x hx;have k:x*x*x%P=P-7:=by
  have j:x*x*x%P<P:=V4 _ oM;have d:(x*x*x%P+7)%P=0:=by rw[yBn];exact e
  by_cases i:x*x*x%P+7<P
  ·rw[UR i]at d;omega
  ·rw[yAL oM,UR oM]at d;omega
 apply g;rw[<-k,<-yAw];rw[<-b]
 congr 1
 rw[show P-1=3*c by omega,ZO]
 congr 1
 rw[V6,V6,YR]
theorem PY{P c:Nat}[NeZero P](b:NT.IsP P)(g:P=3*c+1)(i:7<P)(f:(P-7)^c%P≠1):Cur P:=by
 refine⟨b,λe=>?_,λx e=>?_⟩
 ·have:=congrArg yA8 e;rw[val_zero]at this;have k:(2:Fin P).val=2%P:=rfl;rw[k,UR oM]at this;omega
 ·have d:x*x*x+7=0:=by rw[<-e];grobner
  have:=congrArg yA8 d;rw[val_zero,Fin.val_add,XI,XI]at this;have k:(7:Fin P).val=7%P:=rfl;rw[k,yBm,yBn,Nat.add_mod_mod]at this;exact LI b g i f x.val this
theorem My:NT.pm 115792089237316195423570985008687907853269984665640564039457584007908834671663 256 (115792089237316195423570985008687907853269984665640564039457584007908834671663-7) 38597363079105398474523661669562635951089994888546854679819194669302944890554 1≠1:=dK
theorem Q9{P c k:Nat}(b:c<2^k)(d:1<P)(h:NT.pm P k (P-7) c 1≠1):(P-7)^c%P≠1:=λe=>h (by rw[NT.EK P k _ c 1 b d,Xh];exact e)
theorem cur:∃(P:Nat) (_:NeZero P),P=115792089237316195423570985008687907853269984665640564039457584007908834671663/\Cur P:=by
 have g:=NT.pP;have k:=My;have d:115792089237316195423570985008687907853269984665640564039457584007908834671663=3*38597363079105398474523661669562635951089994888546854679819194669302944890554+1:=dK;have b:38597363079105398474523661669562635951089994888546854679819194669302944890554<2^256:=dK;have e:7<115792089237316195423570985008687907853269984665640564039457584007908834671663:=dK;generalize 38597363079105398474523661669562635951089994888546854679819194669302944890554=c at *;generalize 115792089237316195423570985008687907853269984665640564039457584007908834671663=P at *;have f:NeZero P:=⟨oM⟩
 exact⟨P,f,rfl,PY g d e (Q9 b oM k)⟩
end EC
section
structure At4(w:Uq)(k a b c d:Nat):Prop where
 c0:w.cell? ⟨k,0,none⟩=some (uZ a)
 c1:w.cell? ⟨k,1,none⟩=some (uZ b)
 c2:w.cell? ⟨k,2,none⟩=some (uZ c)
 c3:w.cell? ⟨k,3,none⟩=some (uZ d)
 f:∀o,w.frozen? ⟨k,o,none⟩=false
variable {w w1:Uq}{k a b c d:Nat}
theorem At4.lt(h:At4 w k a b c d):k<w.heap.size:=Xn _ _ h.c0
theorem At4.below{B:Nat}(h:At4 w k a b c d)(f:Below B w w1)(e:k<B):At4 w1 k a b c d:=
 ⟨by rw[f.cell (p:=⟨k,0,none⟩) e];exact h.c0,by rw[f.cell (p:=⟨k,1,none⟩) e];exact h.c1,by rw[f.cell (p:=⟨k,2,none⟩) e];exact h.c2,by rw[f.cell (p:=⟨k,3,none⟩) e];exact h.c3,
  λo=>by rw[f.frozen (p:=⟨k,o,none⟩) e];exact h.f o⟩
theorem At4.call(h:At4 w k a b c d)(e:kZ w w1):At4 w1 k a b c d:=h.below e h.lt
theorem At4.alloc(h:At4 w k a b c d)(o:Obj):At4 (w.alloc o) k a b c d:=h.call (aC w o)
theorem At4.drewN(h:At4 w k a b c d)(q:Nat):At4 (w.drewN q) k a b c d:=⟨h.c0,h.c1,h.c2,h.c3,h.f⟩
theorem At4.new(w:Uq)(t:U7)(a b c d:Nat):At4 (w.alloc (.cells #[uZ a,uZ b,uZ c,uZ d] t)) w.heap.size a b c d:=
 ⟨by rw[Vb];rfl,by rw[Vb];rfl,by rw[Vb];rfl,by rw[Vb];rfl,λo=>Wu _ _ _ _⟩
theorem At4.made(w:Uq)(t:U7)(a b c d:Nat){k:Nat}(e:w.heap.size=k):At4 (w.alloc (.cells #[uZ a,uZ b,uZ c,uZ d] t)) k a b c d:=
 e ▸ At4.new w t a b c d
theorem bH{i j:Nat}{o k:Nat}(h:i≠j\/o≠k):(⟨i,o,none⟩:Addr)≠⟨j,k,none⟩:=by
 intro e;simp only[Addr.mk.injEq,and_true]at e;omega
theorem At4.other{j o : Nat}(h : At4 w k a b c d)(hj : j ≠ k)(v : Us): At4 (w.setCell ⟨j, o, none⟩ v) k a b c d :=
  ⟨by rw [UT _ _ _ _ (bH (U3 hj))]; exact h.c0, by rw [UT _ _ _ _ (bH (U3 hj))]; exact h.c1,
   by rw [UT _ _ _ _ (bH (U3 hj))]; exact h.c2, by rw [UT _ _ _ _ (bH (U3 hj))]; exact h.c3, λo => by rw [VK]; exact h.f o⟩
theorem At4.set0(h : At4 w k a b c d)(x : Nat): At4 (w.setCell (aZ k) (uZ (x : Int))) k x b c d :=
  ⟨VU _ _ _ h.c0, by rw [UT _ _ _ _ (bH (UW dC))]; exact h.c1,
   by rw [UT _ _ _ _ (bH (UW dC))]; exact h.c2, by rw [UT _ _ _ _ (bH (UW dC))]; exact h.c3, λo => by rw [VK]; exact h.f o⟩
theorem At4.set1(h : At4 w k a b c d)(x : Nat): At4 (w.setCell ⟨k, 1, none⟩ (uZ (x : Int))) k a x c d :=
  ⟨by rw [UT _ _ _ _ (bH (UW dC))]; exact h.c0, VU _ _ _ h.c1,
   by rw [UT _ _ _ _ (bH (UW dC))]; exact h.c2, by rw [UT _ _ _ _ (bH (UW dC))]; exact h.c3, λo => by rw [VK]; exact h.f o⟩
theorem At4.set2(h : At4 w k a b c d)(x : Nat): At4 (w.setCell ⟨k, 2, none⟩ (uZ (x : Int))) k a b x d :=
  ⟨by rw [UT _ _ _ _ (bH (UW dC))]; exact h.c0, by rw [UT _ _ _ _ (bH (UW dC))]; exact h.c1,
   VU _ _ _ h.c2, by rw [UT _ _ _ _ (bH (UW dC))]; exact h.c3, λo => by rw [VK]; exact h.f o⟩
theorem At4.set3(h : At4 w k a b c d)(x : Nat): At4 (w.setCell ⟨k, 3, none⟩ (uZ (x : Int))) k a b c x :=
  ⟨by rw [UT _ _ _ _ (bH (UW dC))]; exact h.c0, by rw [UT _ _ _ _ (bH (UW dC))]; exact h.c1,
   by rw [UT _ _ _ _ (bH (UW dC))]; exact h.c2, VU _ _ _ h.c3, λo => by rw [VK]; exact h.f o⟩
theorem At4.drew(h:At4 w k a b c d):At4 w.drew k a b c d:=⟨h.c0,h.c1,h.c2,h.c3,h.f⟩
def set4(w:Uq)(k:Nat)(x y z t:Us):Uq:=(((w.setCell (aZ k) x).setCell ⟨k,1,none⟩ y).setCell ⟨k,2,none⟩ z).setCell ⟨k,3,none⟩ t
theorem At4.self4(h:At4 w k a b c d)(x y z t:Nat):At4 (set4 w k (uZ x) (uZ y) (uZ z) (uZ t)) k x y z t:=(((h.set0 x).set1 y).set2 z).set3 t
theorem At4.other4{j:Nat}(h:At4 w k a b c d)(e:j≠k)(x y z t:Us):At4 (set4 w j x y z t) k a b c d:=(((h.other e x).other e y).other e z).other e t
theorem aL{B j:Nat}{b:Uq}(h:Below B b w)(k:B<=j)(x y z t:Us):Below B b (set4 w j x y z t):=
 (((h.setCell (p:=⟨j,0,none⟩) k x).setCell (p:=⟨j,1,none⟩) k y).setCell (p:=⟨j,2,none⟩) k z).setCell (p:=⟨j,3,none⟩) k t
end
section
variable {P:Nat}[NeZero P]{N:Nat}
structure FoldI(w wr:Uq)(g0 g1 g2 a b c d p q r s:Nat):Prop where
 bl:kZ w wr
 pr:At4 wr w.heap.size g0 g1 g2 0
 lo:At4 wr (w.heap.size+1) a b c d
 hi:At4 wr (w.heap.size+1+1) p q r s
 re:At4 wr (w.heap.size+1+1+1) 0 0 0 0
 ha:a<18446744073709551616
 hb:b<18446744073709551616
 hc:c<18446744073709551616
 hd:d<18446744073709551616
 hp:p<18446744073709551616
 hq:q<18446744073709551616
 hr:r<18446744073709551616
 hs:s<18446744073709551616
theorem Jv{a b c d p q r s i f g t k P gk:Nat}(o:P+val i f g 0=top)(l:top<2*P)(n:val a b c d<top)(m:gk=val a b c d+top*val 0 0 0 0)
 (e:t+top*k=val a b c d+val i f g 0) (u:k<=1) (j:t=val p q r s) (v:t<top):(k=0->val a b c d=gk%P)/\(k=1->val p q r s=gk%P):=by
 have e:gk=val a b c d:=by rw[m];rfl
 rw[e];refine⟨λh=>?_,λh=>?_⟩
 ·subst h;rw[UR oM]
 ·subst h;rw[<-j,yAL oM,UR oM];omega
theorem KY{p q r s:Nat}(h:¬(p=0/\q=0/\r=0/\s=0)):0<val p q r s:=by unfold val;omega
theorem GK{x h g P gk:Nat}(k:0<h)(b:P+g=top)(c:top<2*P)(d:gk=x+top*h):x+g*h<gk/\(x+g*h)%P=gk%P:=by
 have e:gk=x+g*h+P*h:=by rw[d,<-b,XE];omega
 rw[e,YQ];have:0<P*h:=Nat.mul_pos oM k;exact⟨oM,rfl⟩
theorem Cs{l t a b c d g h x:Nat}(f:g*h+x=l+18446744073709551616*t)(k:t=val a b c d):val l a b c+top*val d 0 0 0=x+val g 0 0 0*h:=by
 have e:val g 0 0 0=g:=by unfold val;omega
 rw[e];unfold val at *;unfold top;omega
theorem val_mul(b c k h:Nat):val b c k 0*h=b*h+18446744073709551616*(c*h)+340282366920938463463374607431768211456*(k*h):=by
 unfold val;rw[XE,XE,XE,X0,X0];omega
theorem xT{l p m s o r h x a b c d q i j n k e g f:Nat}(v:l+18446744073709551616*val a b c d=s*h+x)
 (t:p+18446744073709551616*val q i j n=o*h+val a b c d) (u:m+18446744073709551616*val k e g f=r*h+val q i j n) :
 val l p m k+top*val e g f 0=x+val s o r 0*h:=by
 rw[val_mul];unfold val at *;unfold top;omega
theorem xU(g0 g1 g2:Nat)(x y:Us)(m n P:Nat)(hj:g0<18446744073709551616)(k7:g1<18446744073709551616)(k5:g2<18446744073709551616)
 (hor:(g1=0/\g2=0)\/∃o:Nat,bits .or .u64 (g1:Int) (g2:Int)=(o:Int)/\o≠0) (hP:P+val g0 g1 g2 0=top) (k6:top<2*P) (hx:Four x m) (hy:Four y n) (w:Uq) :
 UG prog 235 #[.agg #[uZ g0,uZ g1,uZ g2,uZ 0],x,y] w (rZ w λe w'=>Four e ((m+top*n)%P)):=by
 obtain⟨a,b,c,d,rfl,ha,hb,hc,hd,em⟩:=hx;obtain⟨p,q,r,s,rfl,hp,hq,hr,hs,en⟩:=hy;go_enter func235,ntmps235;go_wp2;go_loopg [] (val a b c d+top*val p q r s) (λg wr=>∃(a b c d p q r s:Nat),FoldI w wr g0 g1 g2 a b c d p q r s/\g=val a b c d+top*val p q r s/\Hid (g%P=(m+top*n)%P))
 case atStart =>
  have f:=Ec w (.cells #[uZ g0,uZ g1,uZ g2,uZ 0] 120) (.cells #[uZ a,uZ b,uZ c,uZ d] 118) (.cells #[uZ p,uZ q,uZ r,uZ s] 118) (.cells #[uZ 0,uZ 0,uZ 0,uZ 0] 118);refine⟨a,b,c,d,p,q,r,s,⟨f,?_,?_,?_,?_,ha,hb,hc,hd,hp,hq,hr,hs⟩,rfl,?_⟩
  ·exact(((At4.new w 120 g0 g1 g2 0).alloc _).alloc _).alloc _
  ·exact((At4.made (w.alloc _) 118 a b c d (UA _ _)).alloc _).alloc _
  ·exact(At4.made ((w.alloc _).alloc _) 118 p q r s (by simp)).alloc _
  ·exact At4.made (((w.alloc _).alloc _).alloc _) 118 0 0 0 0 (by simp)
  ·rw[em,en];rfl
 case round =>
  obtain⟨a,b,c,d,p,q,r,s,hI,hg,HE⟩:=hrel;clear em en ha hb hc hd hp hq hr hs;obtain⟨bl,pr,lo,hi,re,ha,hb,hc,hd,hp,hq,hr,hs⟩:=hI;have HB:Hid (Below w.heap.size w wr):=bl;clear bl;generalize F:w.heap.size+1+1+1=B at re⊢;generalize G:w.heap.size+1+1=k2 at hi⊢;generalize I:w.heap.size+1=k1 at lo⊢;have H:Hid (w.heap.size+1=k1/\w.heap.size+1+1=k2/\w.heap.size+1+1+1=B):=⟨I,G,F⟩
  generalize K:w.heap.size=C at pr HB⊢;have H0:Hid (w.heap.size=C):=K;have ke:Hid (C<=k1):=by unfold Hid;omega
  have Y:C≠k1:=oM;have kh:C≠k2:=oM;have ku:C≠B:=oM;have n12:k1≠k2:=oM;have U:k1≠B:=oM;have ka:k2≠B:=oM;have z0:=pr.lt;have z1:=lo.lt;have z2:=hi.lt;have z3:=re.lt;clear K I G F;by_cases hz:p=0/\q=0/\r=0/\s=0
  ·obtain⟨rfl,rfl,rfl,rfl⟩:=hz;obtain⟨p0,p1,p2,p3,pf⟩:=id pr;obtain⟨l0,l1,l2,l3,lf⟩:=id lo;obtain⟨K,I,G,F,hf⟩:=id hi;obtain⟨r0,r1,r2,D,rf⟩:=id re;go_wp2_with fail
   refine(qV _ _ _ _ (Four.mk ha hb hc hd rfl) (Four.mk hj k7 k5 dC rfl) _).mono ?_;rintro e w1 ⟨v,rfl,f,v4,t,k,rfl,⟨Q,O,V,T,rfl,Z,S,R,W,J⟩,hk,N⟩;have z:=Jv hP k6 (mO ha hb hc hd) hg N hk J (J ▸ mO Z S R W);rw[HE.out]at z;have E:Hid _:=z;clear z;clear p0 p1 p2 p3 pf l0 l1 l2 l3 lf K I G F hf r0 r1 r2 D rf N J hg HE;have j:=lo.call f;have i:=re.call f;have z3:=i.lt;have z1:=j.lt;have L:Hid (Below C w w1):=HB.trans (f.mono oM);obtain⟨l0,l1,l2,l3,lf⟩:=id j;obtain⟨r0,r1,r2,D,rf⟩:=id i;have A:k=0\/k=1:=oM;rcases A with rfl|rfl
   ·go_wp2;have u:=((((i.set0 a).set1 b).set2 c).set3 d).alloc (.cells #[uZ Q,uZ O,uZ V,uZ T] 118);refine UD (v:=?v0) ?hr0 rfl ?hR0
    case hr0=>simp[results,Tryz.results235,go_sem,u.c0,u.c1,u.c2,u.c3];rfl
    refine⟨_,rfl,?_,Four.mk ha hb hc hd (E.1 trivial).symm⟩;rw[H0.out];have X:C<=B:=by have:=H.out;have:=H0.out;omega
    have q1:=(((L.setCell (p:=⟨B,0,none⟩) X (uZ a)).setCell (p:=⟨B,1,none⟩) X (uZ b)).setCell (p:=⟨B,2,none⟩) X (uZ c)).setCell (p:=⟨B,3,none⟩) X (uZ d);exact q1.alloc (by simp;omega) _
   ·go_wp2;have u:=((((i.set0 Q).set1 O).set2 V).set3 T).alloc (.cells #[uZ Q,uZ O,uZ V,uZ T] 118);refine UD (v:=?v1) ?hr1 rfl ?hR1
    case hr1=>simp[results,Tryz.results235,go_sem,u.c0,u.c1,u.c2,u.c3];rfl
    refine⟨_,rfl,?_,Four.mk Z S R W (E.2 trivial).symm⟩;rw[H0.out];have X:C<=B:=by have:=H.out;have:=H0.out;omega
    have q1:=(((L.setCell (p:=⟨B,0,none⟩) X (uZ Q)).setCell (p:=⟨B,1,none⟩) X (uZ O)).setCell (p:=⟨B,2,none⟩) X (uZ V)).setCell (p:=⟨B,3,none⟩) X (uZ T);exact q1.alloc (by simp;omega) _
  ·go_upto_region 1 with fail
   go_cut [12] from 10 to 72 (λc wx=>c=.bool true/\wr=wx)
   case first =>
    obtain⟨K,I,G,F,hf⟩:=id hi;go_wp2_with fail
    all_goals (go_meet;exact⟨rfl,rfl⟩)
   case rest =>
    obtain⟨rfl,rfl⟩:=hcut;have h9:=GK (KY hz) hP k6 hg;clear hz;obtain⟨p0,p1,p2,p3,pf⟩:=id pr;obtain⟨l0,l1,l2,l3,lf⟩:=id lo;obtain⟨K,I,G,F,hf⟩:=id hi;rcases hor with⟨rfl,rfl⟩|⟨o,ho,kv⟩
    ·have hor:bits .or .u64 0 0=0:=dK;go_wp2_with fail
     refine(jX g0 _ _ _ _ hj (Four.mk hp hq hr hs rfl) (Four.mk ha hb hc hd rfl) _).mono ?_;rintro e w1 ⟨v,rfl,f,l,v4,t,rfl,hl,⟨Q,O,V,T,rfl,Z,S,R,W,J⟩,N⟩;have j:=(lo.alloc _).call f;have A:=(hi.alloc _).call f;have z:=(pr.alloc _).call f;have i:=(re.alloc _).call f;have u:=(At4.new wr 118 0 0 0 0).call f;have L:Hid (Below C w w1):=(HB.alloc oM _).trans (f.mono (by simp;omega));clear f p0 p1 p2 p3 pf l0 l1 l2 l3 lf K I G F hf lo hi pr re;generalize ht:wr.heap.size=k4 at u z0 z1 z2 z3⊢;clear ht;have m0:C≠k4:=oM;have m1:k1≠k4:=oM;have m2:k2≠k4:=oM;have m3:B≠k4:=oM;have M:Hid (C<k4):=z0;clear z0 z1 z2 z3;have z0:=z.lt;have z1:=j.lt;have z2:=A.lt;have z3:=i.lt;have z4:=u.lt;have D:Hid (g0*val p q r s+val a b c d=l+18446744073709551616*t/\t=val Q O V T):=⟨N.symm,J⟩
     have HL:Hid (_/\_):=h9;clear N J h9 hg;obtain⟨p0,p1,p2,p3,pf⟩:=id z;obtain⟨l0,l1,l2,l3,lf⟩:=id j;obtain⟨K,I,G,F,hf⟩:=id A;obtain⟨t0,t1,t2,t3,tf⟩:=id u;go_wp2;go_region
     go_wp2;obtain⟨q1,q2,q3⟩:=H.out;have X:=H0.out;subst q1 q2 q3 X;go_roundg (val l Q O V+top*val T 0 0 0)
     case measure=>rw[Cs D.1 D.2];exact HL.1
     case rel =>
      refine⟨l,Q,O,V,T,0,0,0,⟨?_,?_,?_,?_,?_,hl,Z,S,R,W,dC,dC,dC⟩,rfl,?_⟩
      ·have s1:=(L.setCell (p:=⟨w.heap.size+1,0,none⟩) (Zl _) (uZ l))
       exact(aL (aL (aL s1 (XJ M.out) _ _ _ _) (Zl _) _ _ _ _) oM _ _ _ _).drew
      ·exact((((z.other Y.symm _).other4 m0.symm _ _ _ _).other4 Y.symm _ _ _ _).other4 kh.symm _ _ _ _).drew
      ·exact((((j.set0 l).other4 m1.symm _ _ _ _).self4 l Q O V).other4 n12.symm _ _ _ _).drew
      ·exact((((A.other n12 _).other4 m2.symm _ _ _ _).other4 n12 _ _ _ _).self4 T 0 0 0).drew
      ·exact((((i.other U _).other4 m3.symm _ _ _ _).other4 U _ _ _ _).other4 ka _ _ _ _).drew
      ·unfold Hid;rw[Cs D.1 D.2,<-HE.out];exact HL.2
    ·go_wp2_with fail
     refine(jX g0 _ _ _ _ hj (Four.mk hp hq hr hs rfl) (Four.mk ha hb hc hd rfl) _).mono ?_;rintro e w1 ⟨v,rfl,f,l,v4,t,rfl,hl,⟨Q,O,V,T,rfl,Z,S,R,W,J⟩,N⟩;have j:=(lo.alloc _).call f;have A:=(hi.alloc _).call f;have z:=(pr.alloc _).call f;have i:=(re.alloc _).call f;have u:=(At4.new wr 118 0 0 0 0).call f;have L:Hid (Below C w w1):=(HB.alloc oM _).trans (f.mono (by simp;omega));clear f p0 p1 p2 p3 pf l0 l1 l2 l3 lf K I G F hf lo hi pr re;generalize ht:wr.heap.size=k4 at u z0 z1 z2 z3⊢;clear ht;have m0:C≠k4:=oM;have m1:k1≠k4:=oM;have m2:k2≠k4:=oM;have m3:B≠k4:=oM;have M:Hid (C<k4):=z0;clear z0 z1 z2 z3;have kg:Hid (l+18446744073709551616*val Q O V T=g0*val p q r s+val a b c d):=by unfold Hid;rw[<-J];exact N
     have HL:Hid (_/\_):=h9;clear N J h9 hg;have z0:=z.lt;have z1:=j.lt;have z2:=A.lt;have z3:=i.lt;have z4:=u.lt;obtain⟨p0,p1,p2,p3,pf⟩:=id z;obtain⟨l0,l1,l2,l3,lf⟩:=id j;obtain⟨K,I,G,F,hf⟩:=id A;obtain⟨t0,t1,t2,t3,tf⟩:=id u;go_wp2_with fail
     refine(jX g1 _ _ _ _ k7 (Four.mk hp hq hr hs rfl) (Four.mk Z S R W rfl) _).mono ?_;rintro e w2 ⟨v,rfl,D,l',v5,t,rfl,kk,⟨a2,b2,c2,d2,rfl,kl,kd,kr,km,J⟩,N⟩;have h5:=((j.set0 l).other4 m1.symm _ _ _ _).call D;have h6:=((A.other n12 _).other4 m2.symm _ _ _ _).call D;have h7:=((z.other Y.symm _).other4 m0.symm _ _ _ _).call D;have hu:=((i.other U _).other4 m3.symm _ _ _ _).call D;have h8:=((u.other m1 _).self4 Q O V T).call D;have kf:Hid (Below C w w2):=((aL (L.setCell (p:=⟨k1,0,none⟩) ke.out _) (XJ M.out) _ _ _ _).trans (D.mono (by simp;omega)))
     clear D p0 p1 p2 p3 pf l0 l1 l2 l3 lf K I G F hf t0 t1 t2 t3 tf j A z i u L z0 z1 z2 z3 z4;have kc:Hid (l'+18446744073709551616*val a2 b2 c2 d2=g1*val p q r s+val Q O V T):=by unfold Hid;rw[<-J];exact N
     clear N J;have z0:=h7.lt;have z1:=h5.lt;have z2:=h6.lt;have z3:=hu.lt;have z4:=h8.lt;obtain⟨p0,p1,p2,p3,pf⟩:=id h7;obtain⟨l0,l1,l2,l3,lf⟩:=id h5;obtain⟨K,I,G,F,hf⟩:=id h6;obtain⟨t0,t1,t2,t3,tf⟩:=id h8;go_wp2_with fail
     refine(jX g2 _ _ _ _ k5 (Four.mk hp hq hr hs rfl) (Four.mk kl kd kr km rfl) _).mono ?_;rintro e w3 ⟨v,rfl,E,h4,v6,t,rfl,k8,⟨a3,b3,c3,d3,rfl,ko,ki,kn,kp,J⟩,N⟩;have hn:=((h5.set1 l').other4 m1.symm _ _ _ _).call E;have hm:=((h6.other n12 _).other4 m2.symm _ _ _ _).call E;have kj:=((h7.other Y.symm _).other4 m0.symm _ _ _ _).call E;have hw:=((hu.other U _).other4 m3.symm _ _ _ _).call E;have k9:=((h8.other m1 _).self4 a2 b2 c2 d2).call E;have kt:Hid (Below C w w3):=((aL (kf.setCell (p:=⟨k1,1,none⟩) ke.out _) (XJ M.out) _ _ _ _).trans (E.mono (by simp;omega)))
     clear E p0 p1 p2 p3 pf l0 l1 l2 l3 lf K I G F hf t0 t1 t2 t3 tf h5 h6 h7 hu h8 kf z0 z1 z2 z3 z4;have kb:Hid (h4+18446744073709551616*val a3 b3 c3 d3=g2*val p q r s+val a2 b2 c2 d2):=by unfold Hid;rw[<-J];exact N
     clear N J;have z0:=kj.lt;have z1:=hn.lt;have z2:=hm.lt;have z3:=hw.lt;have z4:=k9.lt;obtain⟨l0,l1,l2,l3,lf⟩:=id hn;obtain⟨K,I,G,F,hf⟩:=id hm;obtain⟨t0,t1,t2,t3,tf⟩:=id k9;go_wp2;go_region
     go_wp2;clear l0 l1 l2 l3 lf K I G F hf t0 t1 t2 t3 tf;obtain⟨q1,q2,q3⟩:=H.out;have X:=H0.out;subst q1 q2 q3 X;go_roundg (val l l' h4 a3+top*val b3 c3 d3 0)
     case measure=>rw[xT kg.out kc.out kb.out];exact HL.1
     case rel =>
      refine⟨l,l',h4,a3,b3,c3,d3,0,⟨?_,?_,?_,?_,?_,hl,kk,k8,ko,ki,kn,kp,dC⟩,rfl,?_⟩
      ·have s1:=(kt.setCell (p:=⟨w.heap.size+1,2,none⟩) (Zl _) (uZ h4))
       have s2:=(aL s1 (XJ M.out) (uZ a3) (uZ b3) (uZ c3) (uZ d3))
       exact(aL (s2.setCell (p:=⟨w.heap.size+1,3,none⟩) (Zl _) (uZ a3)) oM _ _ _ _).drew
      ·exact((((kj.other Y.symm _).other4 m0.symm _ _ _ _).other Y.symm _).other4 kh.symm _ _ _ _).drew
      ·exact((((hn.set2 h4).other4 m1.symm _ _ _ _).set3 a3).other4 n12.symm _ _ _ _).drew
      ·exact((((hm.other n12 _).other4 m2.symm _ _ _ _).other n12 _).self4 b3 c3 d3 0).drew
      ·exact((((hw.other U _).other4 m3.symm _ _ _ _).other U _).other4 ka _ _ _ _).drew
      ·unfold Hid;rw[xT kg.out kc.out kb.out,<-HE.out];exact HL.2
end
section
structure At8(w:Uq)(k a b c d e f g h:Nat):Prop where
 c0:w.cell? ⟨k,0,none⟩=some (uZ a)
 c1:w.cell? ⟨k,1,none⟩=some (uZ b)
 c2:w.cell? ⟨k,2,none⟩=some (uZ c)
 c3:w.cell? ⟨k,3,none⟩=some (uZ d)
 c4:w.cell? ⟨k,4,none⟩=some (uZ e)
 c5:w.cell? ⟨k,5,none⟩=some (uZ f)
 c6:w.cell? ⟨k,6,none⟩=some (uZ g)
 c7:w.cell? ⟨k,7,none⟩=some (uZ h)
 fz:∀o,w.frozen? ⟨k,o,none⟩=false
variable {w w1:Uq}{k a b c d e f g h:Nat}
theorem At8.made(w:Uq)(t:U7)(a b c d e f g h:Nat){k:Nat}(i:w.heap.size=k):At8 (w.alloc (.cells #[uZ a,uZ b,uZ c,uZ d,uZ e,uZ f,uZ g,uZ h] t)) k a b c d e f g h:=by
 subst i;exact⟨by rw[Vb];rfl,by rw[Vb];rfl,by rw[Vb];rfl,by rw[Vb];rfl,by rw[Vb];rfl,by rw[Vb];rfl,by rw[Vb];rfl,by rw[Vb];rfl,λo=>Wu _ _ _ _⟩
theorem mK{B:Nat}{k:Uq}(H:Below B k w)(q:Nat):Below B k (w.drewN q):=⟨H.os,H.tape,H.output,H.size,H.block⟩
end
section
variable {P:Nat}[NeZero P]{N:Nat}
structure Gap(g0 g1 g2 P:Nat):Prop where
 h0:g0<18446744073709551616
 h1:g1<18446744073709551616
 h2:g2<18446744073709551616
 hor:(g1=0/\g2=0)\/∃o:Nat,bits .or .u64 (g1:Int) (g2:Int)=(o:Int)/\o≠0
 hP:P+val g0 g1 g2 0=top
 hP2:top<2*P
 hg:0<val g0 g1 g2 0
theorem yP{k a b c d:Nat}{w W e:Uq}(h:Hid (Below k w W))(pr:At4 W k a b c d)(f:kZ W e):Hid (Below k w e):=h.trans (f.mono (XJ pr.lt))
end
section
structure Blk where
 k:Nat
 o:Nat
 a:Nat
 b:Nat
 c:Nat
 d:Nat
structure Blk.at(x:Blk)(w:Uq):Prop where
 c0:w.cell? ⟨x.k,x.o,none⟩=some (uZ (x.a:Int))
 c1:w.cell? ⟨x.k,x.o+1,none⟩=some (uZ (x.b:Int))
 c2:w.cell? ⟨x.k,x.o+2,none⟩=some (uZ (x.c:Int))
 c3:w.cell? ⟨x.k,x.o+3,none⟩=some (uZ (x.d:Int))
 f:∀o,w.frozen? ⟨x.k,o,none⟩=false
structure Kept(w:Uq)(k0:Nat)(l:List Blk)(W:Uq):Prop where
 bl:Below k0 w W
 le:k0<=W.heap.size
 at':∀x∈l,x.at W
variable {w W w1:Uq}{k0:Nat}{l:List Blk}{x:Blk}
theorem Blk.at.lt(h:x.at W):x.k<W.heap.size:=Xn _ _ h.c0
theorem Blk.at.call(h:x.at W)(k:kZ W w1):x.at w1:=
 ⟨by rw[k.cell (p:=⟨x.k,x.o,none⟩) h.lt];exact h.c0,by rw[k.cell (p:=⟨x.k,x.o+1,none⟩) h.lt];exact h.c1,by rw[k.cell (p:=⟨x.k,x.o+2,none⟩) h.lt];exact h.c2,by rw[k.cell (p:=⟨x.k,x.o+3,none⟩) h.lt];exact h.c3,
  λo=>by rw[k.frozen (p:=⟨x.k,o,none⟩) h.lt];exact h.f o⟩
theorem Blk.at.other{j i : Nat}(h : x.at W)(hj : j ≠ x.k)(v : Us): x.at (W.setCell ⟨j, i, none⟩ v) :=
  ⟨by rw [UT _ _ _ _ (bH (U3 hj))]; exact h.c0, by rw [UT _ _ _ _ (bH (U3 hj))]; exact h.c1,
   by rw [UT _ _ _ _ (bH (U3 hj))]; exact h.c2, by rw [UT _ _ _ _ (bH (U3 hj))]; exact h.c3, λo => by rw [VK]; exact h.f o⟩
theorem Kept.call(h:Kept w k0 l W)(k:kZ W w1):Kept w k0 l w1:=
 ⟨h.bl.trans (k.mono h.le),UB h.le k.size,λx hx=>(h.at' x hx).call k⟩
theorem Kept.drew(h:Kept w k0 l W):Kept w k0 l W.drew:=⟨h.bl.drew,h.le,λx hx=>⟨(h.at' x hx).c0,(h.at' x hx).c1,(h.at' x hx).c2,(h.at' x hx).c3,(h.at' x hx).f⟩⟩
theorem Kept.undrew(h:Kept w k0 l W.drew):Kept w k0 l W:=
 ⟨⟨h.bl.os,h.bl.tape,h.bl.output,h.bl.size,h.bl.block⟩,h.le,λx hx=>⟨(h.at' x hx).c0,(h.at' x hx).c1,(h.at' x hx).c2,(h.at' x hx).c3,(h.at' x hx).f⟩⟩
theorem Kept.alloc(h:Kept w k0 l W)(o:Obj):Kept w k0 l (W.alloc o):=h.call (aC W o)
theorem Kept.set{j i:Nat}(h:Kept w k0 l W)(b:k0<=j)(k:∀x∈l,j≠x.k)(v:Us):Kept w k0 l (W.setCell ⟨j,i,none⟩ v):=
 ⟨h.bl.setCell (p:=⟨j,i,none⟩) b v,by simpa using h.le,λx hx=>(h.at' x hx).other (k x hx) v⟩
theorem Kept.set4{j:Nat}(h:Kept w k0 l W)(b:k0<=j)(k:∀x∈l,j≠x.k)(p q r s:Us):Kept w k0 l (Go.Proofs.YtdoammpgchejcaaGreat.set4 W j p q r s):=
 (((h.set b k p).set b k q).set b k r).set b k s
theorem Kept.set4'{j:Nat}(h:Kept w k0 l W)(b:k0<=j)(k:∀x∈l,j≠x.k)(p q r s:Us):
 Kept w k0 l ((((W.setCell (aZ j) p).setCell ⟨j,1,none⟩ q).setCell ⟨j,2,none⟩ r).setCell ⟨j,3,none⟩ s):=h.set4 b k p q r s
theorem Kept.lts(h:Kept w k0 l W):∀x∈l,x.k<W.heap.size:=λx hx=>(h.at' x hx).lt
theorem Kept.head(h:Kept w k0 (x :: l) W):x.at W:=h.at' x (Vt)
theorem Kept.tail(h:Kept w k0 (x :: l) W):Kept w k0 l W:=⟨h.bl,h.le,λy k=>h.at' y (Va _ k)⟩
theorem At4.blk{k a b c d:Nat}(h:At4 W k a b c d):(Blk.mk k 0 a b c d).at W:=⟨h.c0,h.c1,h.c2,h.c3,h.f⟩
theorem Blk.at.at4{k a b c d:Nat}(h:(Blk.mk k 0 a b c d).at W):At4 W k a b c d:=⟨h.c0,h.c1,h.c2,h.c3,h.f⟩
theorem Kept.mk1(k:Below k0 w W)(b:k0<=W.heap.size):Kept w k0 [] W:=⟨k,b,λ_ h=>by cases h⟩
theorem Kept.cons(h:Kept w k0 l W)(hx:x.at W):Kept w k0 (x :: l) W:=
 ⟨h.bl,h.le,λy b=>by rcases VW.1 b with rfl|k;exact hx;exact h.at' y k⟩
theorem Kept.put{j a b c d:Nat}(h:Kept w k0 (⟨j,0,a,b,c,d⟩ :: l) W)(e:k0<=j)(k:∀x∈l,j≠x.k)(x y z t:Nat):
 Kept w k0 (⟨j,0,x,y,z,t⟩ :: l) ((((W.setCell (aZ j) (uZ x)).setCell ⟨j,1,none⟩ (uZ y)).setCell ⟨j,2,none⟩ (uZ z)).setCell ⟨j,3,none⟩ (uZ t)):=
 (h.tail.set4' e k _ _ _ _).cons (h.head.at4.self4 x y z t).blk
end
end Go.Proofs.YtdoammpgchejcaaGreat
