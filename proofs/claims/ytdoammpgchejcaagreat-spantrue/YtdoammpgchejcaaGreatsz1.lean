import Derived.KernelRfl
import Derived.Below
import Derived.Deep.MidRow
import Derived.WalkKit
import Derived.Test.YtdoammpgchejcaaGreatRows
import Derived.Lib.Mul64
import Derived.Laws.Bits64b
import Derived.Laws.Externs
import Derived.Sort.Row
import Derived.Deep.LoopGhost
import Derived.Deep.QuietTactic
import Derived.StillTailTactics
import Derived.BigRegion
import Derived.BigQuiet
import Derived.WalkSpells
import Derived.WalkLawsBesides
import Derived.OrdersHeld
import Derived.Orders
import Derived.Deep.CutRange
import Derived.Deep.Draws
set_option linter.unusedVariables false
set_option linter.constructorNameAsVariable false
set_option linter.unusedSimpArgs false
set_option maxRecDepth 1000000
set_option maxHeartbeats 4000000
namespace Go.Proofs.YtdoammpgchejcaaGreat
theorem yCj{c:Prop}{h:Decidable c}(hc:c){α:Sort _}{t e:α}:ite c t e=t:=if_pos hc
theorem yCk{c:Prop}{h:Decidable c}(hc:¬c){α:Sort _}{t e:α}:ite c t e=e:=if_neg hc
theorem yCl:True:=True.intro
open _root_.Array renaming all_eq_true'->WX,any_eq_true'->XO,getD_eq_getD_getElem?->UI,getElem?_eq_getElem->U0,getElem?_eq_none->WN,getElem?_eq_some_iff->UZ,getElem?_replicate->Yg,getElem?_setIfInBounds->WB,getElem?_toList->Vq,mapM_eq_mapM_toList->XA,replicate->UJ,size_setIfInBounds->VF
open _root_.Bool renaming and_eq_true->UL,or_false->WT,true_or->X9
open _root_.Classical renaming byContradiction->Wt
open _root_.Fin renaming ext->X8,val->yA8,val_mul->XJ
open _root_.Go renaming Calls->UH,Exit->Yo,FuncId->Xq,Oper->Vk,Operand->XG,Program->VD,Tmp->WC,TypeId->U8,Value->Ut,World->Ur,bodyPost_ret->UE,execOp->U5,run_loadVar_mid->Ye,undef->WP
open _root_.Go.Code renaming region->V4
open _root_.Go.Instr renaming alloc->yBG,indexAt->Vl,loadAt->ZB,sliceAt->Xn,storeAt->Yw,sureAddr->X4
open _root_.Go.IntKind renaming u64->Vo,wrap_u64->XU
open _root_.Go.Lib renaming half_mul_le->ZU
open _root_.Go.Next renaming value->Xp
open _root_.Go.Oper renaming upon_enter->WY,wp->VT
open _root_.Go.Region renaming binds->VP,ready->U7,wanted->V2
open _root_.Go.Result renaming andThen->ZT
open _root_.Go.RowKit renaming Below->yAr
open _root_.Go.Sem renaming run_bind->UV
open _root_.Go.Value renaming pointer->yBt,slice->Vw
open _root_.Go.World renaming block_lt_of_cell?->Xo,cell?->VY,cell?_alloc_new->Vd,cell?_of_block->UW,cell?_setCell_other->UU,cell?_setCell_same->VV,frozen?_alloc_new->Wv,frozen?_setCell->VM,setCells->YJ,size_alloc->UB
open _root_.Int renaming add_zero->ZR,eq_ofNat_of_zero_le->yAk,natCast_zero->WH
open _root_.List renaming all_eq_true->Va,append_nil->Xu,countP_cons->yA3,find?_some->Yd,getD_eq_getElem?_getD->VQ,getElem?_append_left->UT,getElem?_append_right->U1,getElem?_cons_succ->U9,getElem?_cons_zero->Vf,getElem?_drop->Zp,getElem?_eq_getElem->UG,getElem?_eq_none->Wx,getElem?_eq_some_iff->UF,getElem?_map->Vz,getElem?_of_mem->WJ,getElem?_take->WA,length_append->UA,length_cons->Vj,length_drop->ZI,length_map->UQ,length_nil->WG,length_take->WF,mapM_cons->YP,mapM_nil->YZ,map_append->We,map_cons->XV,map_inj_left->Zx,mem_cons->VX,mem_cons_of_mem->Vb,mem_cons_self->Vu,mem_of_find?_eq_some->WO,mem_of_getElem?->VJ,mem_range->V0,mem_zipIdx_iff_getElem?->YA,not_mem_nil->UY,range->VG,size_toArray->VC
open _root_.Nat renaming Coprime->ZQ,add_mod->Zn,add_mul->XF,add_mul_mod_self_left->YQ,add_sub_cancel_left->WL,add_zero->XB,ble_eq->yB5,dvd_of_mod_eq_zero->XM,dvd_trans->Zm,eq_zero_of_dvd_of_lt->YV,gcd->yAX,gcd_dvd_left->ZM,gcd_dvd_right->ZD,le_of_ble_eq_true->VR,le_of_dvd->Yc,le_of_lt->XK,le_refl->Uw,le_succ->Zl,le_total->yBK,le_trans->UC,lt_of_lt_of_le->Ux,lt_of_succ_le->Xj,mod_add_mod->yBn,mod_eq_of_lt->US,mod_eq_sub_mod->yAL,mod_eq_zero_of_dvd->Yq,mod_lt->V5,mod_mod->yBW,mod_mod_of_dvd->Zs,mod_mul_mod->yBm,mul_add->Yz,mul_assoc->X1,mul_comm->Vv,mul_le_mul->WQ,mul_left_comm->ZC,mul_mod->Xz,mul_one->XR,one_mul->Xi,pow_add->Yp,pow_dvd_pow->yBk,pow_mod->yAw,pow_mul->ZO,pow_one->YR,pow_succ->V7,pow_zero->YN,strongRecOn->yBj,zero_add->UD,zero_le->Wy,zero_mul->yBJ,zero_pow->yBI
open _root_.Nat.Coprime renaming mul_dvd_of_dvd_of_dvd->WV
open _root_.Option renaming isSome_iff_exists->Vr,map_eq_some_iff->Uy,some->UO
open _root_.Or renaming inl->U4,inr->UX
open _root_.Prod renaming mk->V6
open Go.Proofs.Tryz
open Go.RowKit Go.Sort
abbrev uZ(n:Int):Ut:=.int .u64 n
abbrev iZ(n:Int):Ut:=.int .i64 n
abbrev aZ(k:Nat):Go.Addr:=⟨k,0,none⟩
abbrev jZ(k:Nat):Ut:=.pointer (some ⟨k,0,none⟩)
abbrev sZ(k n c:Nat):Ut:=.slice (some ⟨k,0,none⟩) n c
abbrev oZ(k o:Nat):Ut:=.pointer (some ⟨k,o,none⟩)
section
variable {P:Nat}[NeZero P]{N:Nat}
theorem oM{p:Prop}(h:p:=by omega):p:=h
theorem kR{p:Prop}(h:p:=by kernel_rfl):p:=h
theorem dC{p:Prop}(h:p:=by decide):p:=h
theorem dK{p:Prop}(h:p:=by decide +kernel):p:=h
end
section
theorem hE{α:Sort _}(x:α):∃y,Hid (x=y):=⟨x,rfl⟩
theorem mk1{p:Prop}(h:p):Hid p:=h
theorem mk2{p0 p1:Prop}(k:p0)(b:p1):Hid (p0/\p1):=⟨k,b⟩
theorem mk3{p0 p1 p2:Prop}(k:p0)(c:p1)(b:p2):Hid (p0/\p1/\p2):=⟨k,c,b⟩
theorem mk4{p0 p1 p2 k:Prop}(c:p0)(e:p1)(d:p2)(b:k):Hid (p0/\p1/\p2/\k):=⟨c,e,d,b⟩
theorem mk5{p0 p1 p2 k b:Prop}(e:p0)(g:p1)(f:p2)(c:k)(d:b):Hid (p0/\p1/\p2/\k/\b):=⟨e,g,f,c,d⟩
theorem mk6{p0 p1 p2 k b c:Prop}(f:p0)(i:p1)(g:p2)(d:k)(e:b)(j:c):Hid (p0/\p1/\p2/\k/\b/\c):=⟨f,i,g,d,e,j⟩
theorem mk7{p0 p1 p2 k b c p6:Prop}(f:p0)(j:p1)(g:p2)(d:k)(e:b)(l:c)(i:p6):Hid (p0/\p1/\p2/\k/\b/\c/\p6):=⟨f,j,g,d,e,l,i⟩
theorem mk8{p0 p1 p2 k b c p6 p7:Prop}(f:p0)(j:p1)(g:p2)(d:k)(e:b)(l:c)(i:p6)(m:p7):Hid (p0/\p1/\p2/\k/\b/\c/\p6/\p7):=⟨f,j,g,d,e,l,i,m⟩
section
variable {P:VD}{ops:Array Vk}{rest:List Vk}{op:Vk}{a:Act}{w w':Ur}{Q:Yo->Act->Ur->Prop}{T:U8}{y:XG}{g o:Nat}{cs:List Ut}{v:Ut}{ob:Obj}
theorem stR(t:WC)(d:Hid (w.setCells g o cs=w'))(hv:Hid (.agg cs.toArray=v))(th:w.there g o cs.toArray.size)(e:(P.info? T).map (·.size)=some cs.toArray.size)(c:cs.toArray.all (·.oneCell')=true)(h:wpList P ops Q rest (a.put op.dst WP) w')(k:op.guard=none:=by rfl)(ho:op.op=.store T (.tmp t) y:=by rfl)(hx:a.eval (.tmp t)=oZ g o:=by rfl)(b:a.eval y=v:=by rfl):wpList P ops Q (op :: rest) a w:=
 wpList_store_mid k T (.tmp t) y ho g o cs.toArray hx (b.trans hv.out.symm) th e c (by rw[show cs.toArray.toList=cs from rfl,d.out];exact h)
theorem ldR(t:WC)(f:w.rangeAt g o cs)(hv:Hid (.agg cs.toArray=v))(b:(P.underlying T).map (·.isRow)=some true)(i:(P.info? T).map (·.size)=some cs.length)(h:wpList P ops Q rest (a.put op.dst v) w)(k:op.guard=none:=by rfl)(ho:op.op=.load T (.tmp t):=by rfl)(hx:a.eval (.tmp t)=oZ g o:=by rfl):wpList P ops Q (op :: rest) a w:=by
 obtain⟨d,e,c⟩:=Uy.1 b;exact wpList_load_mid k T (.tmp t) ho g o hx cs d f e c i (by rw[hv.out];exact h)
theorem alR(t:WC)(c:Hid (w.heap.size=g))(d:Hid (w.alloc ob=w'))(h:wpList P ops Q rest (a.put op.dst (jZ g)) w')(hd:op.dst=some t:=by rfl)(k:op.guard=none:=by rfl)(e:(U5 a.eval op).run P w=.ok (.value (jZ w.heap.size)) (w.alloc ob):=by kernel_rfl):wpList P ops Q (op :: rest) a w:=
 wpList_plain k λK b=>by
  unfold VT;rw[e,c.out,d.out];exact b _ _ h
end
end
section
variable {P:Nat}[NeZero P]{N:Nat}
def val(a b c d:Nat):Nat:=a+18446744073709551616*b+340282366920938463463374607431768211456*c+6277101735386680763835789423207666416102355444464034512896*d
def Four(v:Ut)(n:Nat):Prop:=∃a b c d:Nat,v=.agg #[uZ a,uZ b,uZ c,uZ d] /\
 a<18446744073709551616/\b<18446744073709551616/\c<18446744073709551616/\d<18446744073709551616/\n=val a b c d
def top:Nat:=115792089237316195423570985008687907853269984665640564039457584007913129639936
theorem mO{a b c d:Nat}(e:a<18446744073709551616)(f:b<18446744073709551616)(k:c<18446744073709551616)(hd:d<18446744073709551616):val a b c d<top:=by
 unfold val top;omega
theorem Four.lt{v:Ut}{n:Nat}(h:Four v n):n<top:=by
 obtain⟨a,b,c,d,-,e,f,k,hd,rfl⟩:=h;exact mO e f k hd
theorem val_inj{a b c d p q r s:Nat}(e:a<18446744073709551616)(g:b<18446744073709551616)(k:c<18446744073709551616)
 (i:p<18446744073709551616) (j:q<18446744073709551616) (f:r<18446744073709551616) (h:val a b c d=val p q r s):a=p/\b=q/\c=r/\d=s:=by
 unfold val at h;omega
theorem Four.inj{v k:Ut}{n:Nat}(h:Four v n)(i:Four k n):v=k:=by
 obtain⟨a,b,c,d,rfl,g,o,f,hd,e⟩:=h;obtain⟨p,q,r,s,rfl,l,j,m,t,e'⟩:=i;obtain⟨rfl,rfl,rfl,rfl⟩:=val_inj g o f l j m (e.symm.trans e');rfl
theorem Four.num{v:Ut}{n m:Nat}(h:Four v n)(k:Four v m):n=m:=by
 obtain⟨a,b,c,d,rfl,g,t,f,hd,rfl⟩:=h;obtain⟨p,q,r,s,e,l,i,o,j,rfl⟩:=k;simp only[Value.agg.injEq,Array.mk.injEq,List.cons.injEq,Value.int.injEq,true_and,and_true,Int.ofNat_inj]at e;obtain⟨rfl,rfl,rfl,rfl⟩:=e;rfl
theorem Four.mk{a b c d n:Nat}(e:a<18446744073709551616)(g:b<18446744073709551616)(k:c<18446744073709551616)(hd:d<18446744073709551616)(f:n=val a b c d):
 Four (.agg #[uZ a,uZ b,uZ c,uZ d]) n:=⟨a,b,c,d,rfl,e,g,k,hd,f⟩
theorem ret_int{k:IntKind}{a b:Int}(h:a=b):Ending.returned (.int k a)=.returned (.int k b):=by rw[h]
theorem mixed:prog.follows .mixedOrders=true:=kR
theorem FY(x y c:Nat)(hx:x<18446744073709551616)(d:y<18446744073709551616)(b:c<=1):
 ∃s k:Nat,(∀w,(callFunc 175 #[uZ x,uZ y,uZ c]).run prog w=.ok (.value (.tuple #[uZ s,uZ k])) w) /\
  s<18446744073709551616/\k<=1/\s+18446744073709551616*k=x+y+c:=by
 refine⟨(x+y+c)%18446744073709551616,(x+y+c)/18446744073709551616,λw=>?_,oM,oM,oM⟩;rw[run_callFunc_extern func175 kR kR kR (e:=add64Entry) kR,run_add64 x y c oM oM oM oM];simp only[ZT]
 congr 5<;>omega
theorem Ex(x y c:Nat)(hx:x<18446744073709551616)(d:y<18446744073709551616)(b:c<=1):
 ∃s k:Nat,(∀w,(callFunc 167 #[uZ x,uZ y,uZ c]).run prog w=.ok (.value (.tuple #[uZ s,uZ k])) w) /\
  s<18446744073709551616/\k<=1/\s+y+c=x+18446744073709551616*k:=by
 refine⟨(x+18446744073709551616-y-c)%18446744073709551616,if x<y+c then 1 else 0,λw=>?_,oM,by split<;>omega,by split<;>omega⟩;rw[run_callFunc_extern func167 kR kR kR (e:=(Extern.MathBitsCarry.rows[1]).2) kR];have:c=0\/c=1:=oM;rcases this with rfl|rfl<;>rfl
theorem yT(x y:Nat)(hx:x<18446744073709551616)(b:y<18446744073709551616):
 ∃s k:Nat,(∀w,(callFunc 175 #[uZ x,uZ y,uZ 0]).run prog w=.ok (.value (.tuple #[uZ s,uZ k])) w) /\
  s<18446744073709551616/\k<=1/\s+18446744073709551616*k=x+y:=FY x y 0 hx b (Wy 1)
theorem OA(x y:Nat)(hx:x<18446744073709551616)(b:y<18446744073709551616):
 ∃s k:Nat,(∀w,(callFunc 167 #[uZ x,uZ y,uZ 0]).run prog w=.ok (.value (.tuple #[uZ s,uZ k])) w) /\
  s<18446744073709551616/\k<=1/\s+y=x+18446744073709551616*k:=Ex x y 0 hx b (Wy 1)
theorem maskN(a:Nat)(k:a<18446744073709551616):bits .and .u64 (a:Int) 4294967295=((a%4294967296:Nat):Int):=by
 have h:=bits_and_u64_nat a 4294967295 k oM;rw[show a &&& 4294967295=a%4294967296 from Nat.and_two_pow_sub_one_eq_mod a 32]at h;exact h
theorem divN(a:Nat):(a:Int)/4294967296=((a/4294967296:Nat):Int):=oM
theorem mulN(a b:Nat):(a:Int)*(b:Int)=((a*b:Nat):Int):=(Int.natCast_mul a b).symm
theorem addN(a b:Nat):(a:Int)+(b:Int)=((a+b:Nat):Int):=(Int.natCast_add a b).symm
theorem wrapN(a:Nat)(k:a<18446744073709551616):Vo.wrap (a:Int)=(a:Int):=by rw[XU];omega
theorem wrapM(a:Nat):Vo.wrap (a:Int)=((a%18446744073709551616:Nat):Int):=by rw[XU];omega
theorem Pj(x y:Nat)(hx:x<18446744073709551616)(d:y<18446744073709551616)(w:Ur):
 UH prog 174 #[uZ x,uZ y] w λe w'=>e=.returned (.tuple #[uZ ((x*y/18446744073709551616:Nat):Int),uZ ((x*y%18446744073709551616:Nat):Int)])/\w'=w:=by
 obtain⟨i,f,bw,c⟩:=Lib.mul64_hi x y hx d;have m:=ZU (a:=x/4294967296) (b:=y/4294967296) oM oM;have o:=ZU (a:=x/4294967296) (b:=y%4294967296) oM oM;have n:=ZU (a:=x%4294967296) (b:=y/4294967296) oM oM;have b1:x/4294967296*(y/4294967296)<18446744073709551616:=oM;have l:x/4294967296*(y%4294967296)<18446744073709551616:=oM;have g:x%4294967296*(y/4294967296)<18446744073709551616:=oM;have k:x/4294967296*(y/4294967296)+(x/4294967296*(y%4294967296)+x%4294967296*(y%4294967296)/4294967296)/4294967296<18446744073709551616:=oM;have j:x/4294967296*(y/4294967296)+(x/4294967296*(y%4294967296)+x%4294967296*(y%4294967296)/4294967296)/4294967296+((x/4294967296*(y%4294967296)+x%4294967296*(y%4294967296)/4294967296)%4294967296+x%4294967296*(y/4294967296))/4294967296<18446744073709551616:=oM;go_enter func174,ntmps174;go_wp2;simp only[maskN x hx,maskN y d,divN,mulN,addN,wrapN _ i,wrapN _ l,wrapN _ f,maskN _ f,wrapN _ g,wrapN _ bw,wrapN _ b1,wrapN _ k,wrapN _ j,wrapM (x*y)];rw[c]
 go_ret2
 exact⟨rfl,rfl⟩
theorem I4(x y:Nat)(hx:x<18446744073709551616)(b:y<18446744073709551616):
 ∃h l:Nat,(∀w,UH prog 174 #[uZ x,uZ y] w λe w'=>e=.returned (.tuple #[uZ h,uZ l])/\w'=w) /\
  h<18446744073709551616/\l<18446744073709551616/\l+18446744073709551616*h=x*y:=by
 have k:x*y<=18446744073709551615*18446744073709551615:=WQ oM oM;exact⟨_,_,λw=>Pj x y hx b w,oM,oM,oM⟩
theorem Rq(x y:Nat)(hx:x<18446744073709551616)(f:y<18446744073709551616)(w:Ur):
 UH prog 174 #[uZ x,uZ y] w λe w'=>w'=w/\∃h l:Nat,e=.returned (.tuple #[uZ h,uZ l]) /\
  h<18446744073709551616/\l<18446744073709551616/\l+18446744073709551616*h=x*y:=by
 obtain⟨h,l,b,g,d,c⟩:=I4 x y hx f;exact(b w).mono λe w' k=>⟨k.2,h,l,k.1,g,d,c⟩
theorem Ta(x y o c:Nat)(hx:x<18446744073709551616)(m:y<18446744073709551616)(ho:o<18446744073709551616)(i:c<18446744073709551616):
 ∃h l s1 k s2 b g d:Nat,(∀w,UH prog 174 #[uZ x,uZ y] w λe w'=>e=.returned (.tuple #[uZ h,uZ l])/\w'=w) /\
  (∀w,(callFunc 175 #[uZ l,uZ c,uZ 0]).run prog w=.ok (.value (.tuple #[uZ s1,uZ k])) w) /\
  (∀w,(callFunc 175 #[uZ o,uZ s1,uZ 0]).run prog w=.ok (.value (.tuple #[uZ s2,uZ b])) w) /\
  Vo.wrap ((h:Int)+(k:Int))=(g:Int)/\Vo.wrap ((g:Int)+(b:Int))=(d:Int) /\
  s2<18446744073709551616/\d<18446744073709551616/\s2+18446744073709551616*d=x*y+o+c:=by
 have p:x*y<=18446744073709551615*18446744073709551615:=WQ oM oM;obtain⟨h,l,r,hh,s,u⟩:=I4 x y hx m;obtain⟨s1,k,j,d,n,t⟩:=yT l c s i;obtain⟨s2,b,a2,f,q,e3⟩:=yT o s1 ho d;refine⟨h,l,s1,k,s2,b,h+k,h+k+b,r,j,a2,?_,?_,f,oM,oM⟩
 ·rw[addN];exact wrapN _ oM
 ·rw[addN];exact wrapN _ oM
theorem rK(x y o c:Nat)(hx:x<18446744073709551616)(g:y<18446744073709551616)(ho:o<18446744073709551616)(f:c<18446744073709551616)(w:Ur):
 UH prog 243 #[uZ x,uZ y,uZ o,uZ c] w λe w'=>w'=w/\∃l h:Nat,e=.returned (.tuple #[uZ l,uZ h]) /\
  h<18446744073709551616/\l<18446744073709551616/\l+18446744073709551616*h=x*y+o+c:=by
 have j:x*y<=18446744073709551615*18446744073709551615:=WQ oM oM;go_enter func243,ntmps243;go_wp2_with fail
 refine(Rq x y hx g _).mono ?_;rintro e p ⟨rfl,h,l,rfl,hh,n,t⟩;obtain⟨s1,k,r,b,i,s⟩:=yT l o n ho;obtain⟨s2,d,a2,q,m,e3⟩:=yT s1 c b f;have p:Vo.wrap ((h:Int)+(k:Int))=((h+k:Nat):Int):=by rw[addN];exact wrapN _ oM
 have u:Vo.wrap (((h+k:Nat):Int)+(d:Int))=((h+k+d:Nat):Int):=by rw[addN];exact wrapN _ oM
 go_wp2
 go_ret2
 refine⟨rfl,s2,h+k+d,?_,oM,oM,oM⟩;rfl
def Ret(Q:Ut->Ur->Prop)(e:Ending)(w:Ur):Prop:=∃v,e=.returned v/\Q v w
abbrev rZ(w:Ur)(Q:Ut->Ur->Prop):Go.Ending->Ur->Prop:=Ret λe w'=>yAr w.heap.size w w'/\Q e w'
abbrev kZ(w W:Ur):Prop:=yAr w.heap.size w W
theorem aC(w:Ur)(k:Obj):kZ w (w.alloc k):=(Below.refl _ _).alloc (Uw _) k
theorem below2(w:Ur)(k b:Obj):kZ w ((w.alloc k).alloc b):=(aC w k).alloc (by simp) b
theorem below3(w:Ur)(k c b:Obj):kZ w (((w.alloc k).alloc c).alloc b):=(below2 w k c).alloc (by simp;omega) b
theorem Ee(w:Ur)(k d c b:Obj):kZ w ((((w.alloc k).alloc d).alloc c).alloc b):=(below3 w k d c).alloc (by simp;omega) b
theorem qV(x y:Ut)(m n:Nat)(hx:Four x m)(D:Four y n)(w:Ur):
 UH prog 126 #[x,y] w (rZ w λe w'=>∃(v:Ut) (s k:Nat),e=.tuple #[v,uZ k]/\Four v s/\k<=1/\s+top*k=m+n):=by
 obtain⟨a,b,c,d,rfl,B,M,A,hd,E⟩:=hx;obtain⟨p,q,r,s,rfl,I,F,hr,G,N⟩:=D;obtain⟨s0,J,a0,g,f,Q⟩:=yT a p B I;obtain⟨s1,L,C,j,i,P⟩:=FY b q J M F f;obtain⟨s2,K,a2,t,l,O⟩:=FY c r L A hr i;obtain⟨s3,z,H,o,u,e3⟩:=FY d s K hd G l;have hv:val s0 s1 s2 s3+top*z=m+n:=by rw[E,N];unfold val top;omega
 go_enter func126,ntmps126;go_wp2_with (first|simp only[a0]|simp only[C]|simp only[a2]|simp only[H])
 refine UE (v:=?v) ?hr rfl ?hR
 case hr=>simp[results,Tryz.results126,go_sem];rfl
 exact⟨_,rfl,below3 _ _ _ _,_,_,z,rfl,Four.mk g j t o rfl,u,hv⟩
theorem sL(x y:Ut)(m n:Nat)(hx:Four x m)(D:Four y n)(w:Ur):
 UH prog 239 #[x,y] w (rZ w λe w'=>∃(v:Ut) (s k:Nat),e=.tuple #[v,uZ k]/\Four v s/\k<=1/\s+n=m+top*k):=by
 obtain⟨a,b,c,d,rfl,B,M,A,hd,E⟩:=hx;obtain⟨p,q,r,s,rfl,I,F,hr,G,N⟩:=D;obtain⟨s0,J,a0,g,f,Q⟩:=OA a p B I;obtain⟨s1,L,C,j,i,P⟩:=Ex b q J M F f;obtain⟨s2,K,a2,t,l,O⟩:=Ex c r L A hr i;obtain⟨s3,z,H,o,u,e3⟩:=Ex d s K hd G l;have hv:val s0 s1 s2 s3+n=m+top*z:=by rw[E,N];unfold val top;omega
 go_enter func239,ntmps239;go_wp2_with (first|simp only[a0]|simp only[C]|simp only[a2]|simp only[H])
 refine UE (v:=?v) ?hr rfl ?hR
 case hr=>simp[results,Tryz.results239,go_sem];rfl
 exact⟨_,rfl,below3 _ _ _ _,_,_,z,rfl,Four.mk g j t o rfl,u,hv⟩
theorem jN(x:Ut)(m:Nat)(hx:Four x m)(w:Ur):
 UH prog 127 #[x] w (rZ w λe w'=>e=x):=by
 obtain⟨a,b,c,d,rfl,f,i,k,hd,g⟩:=hx;go_enter func127,ntmps127;go_wp2;refine UE (v:=?v) ?hr rfl ?hR
 case hr=>simp[results,Tryz.results127,go_sem];rfl
 exact⟨_,rfl,below2 _ _ _,rfl⟩
theorem jI(x:Ut)(m:Nat)(hx:Four x m)(w:Ur):
 UH prog 214 #[x] w (rZ w λe w'=>e=x):=by
 obtain⟨a,b,c,d,rfl,f,i,k,hd,g⟩:=hx;go_enter func214,ntmps214;go_wp2;refine UE (v:=?v) ?hr rfl ?hR
 case hr=>simp[results,Tryz.results214,go_sem];rfl
 exact⟨_,rfl,below2 _ _ _,rfl⟩
theorem EU(x a b c d:Nat):x*val a b c d=val (x*a) (x*b) (x*c) (x*d):=by
 unfold val;rw[Yz,Yz,Yz,ZC x _ b,ZC x _ c,ZC x _ d]
theorem LO{x a b c d p q r s e f l i g o j k m n:Nat}(t:m=val a b c d)(u:n=val p q r s)
 (y:e+18446744073709551616*g=x*a+p+0) (w:f+18446744073709551616*o=x*b+q+g)
 (v:l+18446744073709551616*j=x*c+r+o) (e3:i+18446744073709551616*k=x*d+s+j) :
 e+18446744073709551616*val f l i k=x*m+n:=by
 rw[t,u,EU x a b c d];unfold val;omega
theorem jX(x:Nat)(y z:Ut)(m n:Nat)(hx:x<18446744073709551616)(E:Four y m)(B:Four z n)(w:Ur):
 UH prog 234 #[uZ x,y,z] w (rZ w λe w'=>∃(l:Nat) (v:Ut) (s:Nat),e=.tuple #[uZ l,v]/\l<18446744073709551616/\Four v s/\l+18446744073709551616*s=x*m+n):=by
 obtain⟨a,b,c,d,rfl,D,Q,C,hd,F⟩:=E;obtain⟨p,q,r,s,rfl,M,H,hr,I,R⟩:=B;go_enter func234,ntmps234;go_wp2_with fail
 refine(rK x a p 0 hx D M dC _).mono ?_;rintro e t ⟨rfl,G,L,rfl,i,k,P⟩;go_wp2_with fail
 refine(rK x b q L hx Q H i _).mono ?_;rintro e t ⟨rfl,T,O,rfl,j,g,K⟩;go_wp2_with fail
 refine(rK x c r O hx C hr j _).mono ?_;rintro e t ⟨rfl,V,N,rfl,f,u,J⟩;go_wp2_with fail
 refine(rK x d s N hx hd I f _).mono ?_;rintro e t ⟨rfl,U,S,rfl,o,A,e3⟩;go_wp2;refine UE (v:=?v) ?hr rfl ?hR
 case hr=>simp[results,Tryz.results234,go_sem];rfl
 exact⟨_,rfl,below3 _ _ _ _,G,_,_,rfl,k,Four.mk g u A o rfl,LO F R P K J e3⟩
end
namespace RG
inductive SV where
 | v (x:Ut)
 | p (b o:Nat)
 | s (b n c:Nat)
 | t (b n c:Nat) (y:Ut)
def SV.at(μ:Nat->Nat):SV->Ut
 | .v x=>x
 | .p b o=>.pointer (some ⟨μ b,o,none⟩)
 | .s b n c=>.slice (some ⟨μ b,0,none⟩) n c
 | .t b n c y=>.tuple #[.slice (some ⟨μ b,0,none⟩) n c,y]
def SV.blk:SV->Option Nat
 | .v _=>none
 | .p b _=>some b
 | .s b _ _=>some b
 | .t b _ _ _=>some b
theorem SV.at_congr{μ ν:Nat->Nat}{s:SV}(h:∀b,s.blk=some b->μ b=ν b):s.at μ=s.at ν:=by
 cases s with
 | v x=>rfl
 | p b o=>show yBt (some ⟨μ b,o,none⟩)=.pointer (some ⟨ν b,o,none⟩);rw[h b rfl]
 | s b n c=>show Vw (some ⟨μ b,0,none⟩) n c=.slice (some ⟨ν b,0,none⟩) n c;rw[h b rfl]
 | t b n c y=>show Value.tuple #[.slice (some ⟨μ b,0,none⟩) n c,y]=.tuple #[.slice (some ⟨ν b,0,none⟩) n c,y];rw[h b rfl]
inductive Kind where
 | stay
 | pass
 | call
 | make (b:Nat)
 | put (b:Nat)
structure It where
 dst:Option WC
 need:List (WC × Nat)
 out:SV
 kind:Kind
structure Bl where
 before:List Ut
 after:List Ut
 al:Option Nat
 st:Option Nat
def on(L:Array Bool)(i:Nat):Bool:=L.getD i false
def Bl.live(e:Bl)(L:Array Bool):Bool:=(e.al.map (on L)).getD true
def Bl.put(e:Bl)(L:Array Bool):Bool:=(e.st.map (on L)).getD false
def Bl.now(e:Bl)(L:Array Bool):List Ut:=if e.put L=true then e.after else e.before
theorem eC{L:Array Bool}{i j:Nat}(h:i<L.size):on (L.setIfInBounds i true) j=(on L j || i == j):=by
 unfold on;simp only[UI,WB];by_cases k:i=j
 ·subst k;simp[h]
 ·simp[k]
theorem iC{e:Bl}{L:Array Bool}{i:Nat}(h:i<L.size):e.live (L.setIfInBounds i true)=(e.live L || e.al == some i):=by
 unfold Bl.live;cases d:e.al with
 | none=>rfl
 | some j =>
  show on _ j=(on L j || _);rw[eC h];by_cases k:i=j
  ·subst k;simp
  ·have c:(i == j)=false:=by simpa using k
   have b:(some j == some i)=false:=by simpa using λh=>k h.symm
   rw[c,b]
theorem kB{e:Bl}{L:Array Bool}{i:Nat}(h:i<L.size):e.put (L.setIfInBounds i true)=(e.put L || e.st == some i):=by
 unfold Bl.put;cases d:e.st with
 | none=>rfl
 | some j =>
  show on _ j=(on L j || _);rw[eC h];by_cases k:i=j
  ·subst k;simp
  ·have c:(i == j)=false:=by simpa using k
   have b:(some j == some i)=false:=by simpa using λh=>k h.symm
   rw[c,b]
theorem range_below{B k o:Nat}{w w':Ur}{cs:List Ut}(h:w.rangeAt k o cs)(b:Below B w w')(c:k<B):w'.rangeAt k o cs:=λj v hv=>by
 rw[b.cell (p:=⟨k,o+j,none⟩) c];exact h j v hv
theorem dJ{B k o n:Nat}{w w':Ur}(h:w.there k o n)(b:Below B w w')(c:k<B):w'.there k o n:=λj d=>by
 rw[b.cell (p:=⟨k,o+j,none⟩) c,b.frozen (p:=⟨k,o+j,none⟩) c];exact h j d
theorem below_setCells{B k:Nat}{b:Ur}(c:B<=k):∀(vs:List Ut) (o:Nat) (w:Ur),Below B b w->Below B b (w.setCells k o vs)
 | [],_,_,h=>h
 | v :: r,o,w,h=>below_setCells c r (o+1) _ (h.setCell (p:=⟨k,o,none⟩) c v)
theorem setCells_size(k:Nat):∀(vs:List Ut) (o:Nat) (w:Ur),(w.setCells k o vs).heap.size=w.heap.size
 | [],_,_=>rfl
 | v :: r,o,w=>by
  rw[YJ,setCells_size k r (o+1)];simp[World.setCell]
theorem there_setCells{k b o n:Nat}:∀(vs:List Ut) (i:Nat) (w:Ur),w.there b o n->(w.setCells k i vs).there b o n
 | [],_,_,h=>h
 | v :: r,i,w,h=>there_setCells r (i+1) _ λj c=>⟨World.isSome_setCells k [v] i w _ (h j c).1,by rw[VM];exact(h j c).2⟩
structure BelX(k0:Nat)(X:List Nat)(w w':Ur):Prop where
 os:w'.os=w.os
 tape:w'.tape=w.tape
 output:w'.output=w.output
 size:w.heap.size<=w'.heap.size
 block:∀j,j<k0->j ∉ X->w'.heap[j]? = w.heap[j]?
theorem BelX.below{k:Nat}{w w':Ur}(h:BelX k [] w w'):Below k w w':=⟨h.os,h.tape,h.output,h.size,λj b=>h.block j b UY⟩
theorem BelX.drew{k:Nat}{X:List Nat}{w w':Ur}(h:BelX k X w w'):BelX k X w w'.drew:=⟨h.os,h.tape,h.output,h.size,h.block⟩
theorem BelX.refl(k:Nat)(X:List Nat)(w:Ur):BelX k X w w:=⟨rfl,rfl,rfl,Uw _,λ_ _ _=>rfl⟩
theorem BelX.trans{d:Nat}{X:List Nat}{a b c:Ur}(h:BelX d X a b)(k:BelX d X b c):BelX d X a c:=
 ⟨k.os.trans h.os,k.tape.trans h.tape,k.output.trans h.output,UC h.size k.size,λi e hx=>(k.block i e hx).trans (h.block i e hx)⟩
structure Wd(w0:Ur)(k0:Nat)(X:List Nat)(bl:List Bl)(L:Array Bool)(μ:Nat->Nat)(w:Ur):Prop where
 bel:BelX k0 X w0 w
 le:k0<=w.heap.size
 has:∀(b:Nat) (e:Bl),bl[b]? = some e->e.live L=true->w.rangeAt (μ b) 0 (e.now L)/\w.there (μ b) 0 e.before.length/\μ b<w.heap.size/\(k0<=μ b\/μ b∈X)
 inj:∀(b c:Nat) (e f:Bl),bl[b]? = some e->bl[c]? = some f->e.live L=true->f.live L=true->b≠c->μ b≠μ c
variable {w0 w w':Ur}{k0:Nat}{X:List Nat}{bl:List Bl}{L:Array Bool}{μ:Nat->Nat}
theorem Wd.same{g:Array Bool}(h:Wd w0 k0 X bl L μ w)(d:∀(b:Nat) (e:Bl),bl[b]? = some e->e.live g=e.live L/\e.put g=e.put L):Wd w0 k0 X bl g μ w:=by
 refine⟨h.bel,h.le,λb e k hv=>?_,λb c e f k i j hf=>h.inj b c e f k i ((d b e k).1 ▸ j) ((d c f i).1 ▸ hf)⟩;have:=h.has b e k ((d b e k).1 ▸ hv);unfold Bl.now at this⊢;rw[(d b e k).2];exact this
theorem Wd.call(h:Wd w0 k0 X bl L μ w)(c:kZ w w'):Wd w0 k0 X bl L μ w':=by
 refine⟨h.bel.trans ⟨c.os,c.tape,c.output,c.size,λk l _=>c.block k (Ux l h.le)⟩,UC h.le c.size,λb e f hv=>?_,h.inj⟩;obtain⟨j,i,d,g⟩:=h.has b e f hv;exact⟨range_below j c d,dJ i c d,Ux d c.size,g⟩
def upd(μ:Nat->Nat)(b k:Nat):Nat->Nat:=λc=>if c=b then k else μ c
structure Made(w:Ur)(k:Nat)(c:List Ut)(w':Ur):Prop where
 bel:kZ w w'
 le:w.heap.size<=k
 lt:k<w'.heap.size
 range:w'.rangeAt k 0 c
 there:w'.there k 0 c.length
theorem Made.alloc(w:Ur)(c:List Ut)(t:U8):Made w w.heap.size c (w.alloc (.cells c.toArray t)):=by
 refine⟨aC w _,Uw _,by rw[UB];omega,λj v k=>?_,λj k=>⟨?_,Wv _ _ _ _⟩⟩
 ·rw[UD,Vd];simpa using k
 ·rw[UD,Vd];simp[k]
theorem Wd.make{i b k:Nat}{e:Bl}(h:Wd w0 k0 X bl L μ w)(x:i<L.size)(z:bl[b]? = some e)(D:e.al=some i)(u:∀(c:Nat) (f:Bl),bl[c]? = some f->c≠b->f.al≠some i)
 (j:∀(c:Nat) (f:Bl),bl[c]? = some f->f.st≠some i) (r:e.put L=false) (t:Made w k e.before w') :
 Wd w0 k0 X bl (L.setIfInBounds i true) (upd μ b k) w':=by
 have o:∀(c:Nat) (f:Bl),bl[c]? = some f->f.put (L.setIfInBounds i true)=f.put L:=λc f m=>by
  rw[kB x,show(f.st == some i)=false by simpa using j c f m,WT]
 have n:∀(c:Nat) (f:Bl),bl[c]? = some f->c≠b->f.live (L.setIfInBounds i true)=f.live L:=λc f m j=>by
  rw[iC x,show(f.al == some i)=false by simpa using u c f m j,WT]
 have p:∀(c:Nat) (f:Bl),bl[c]? = some f->c≠b->f.live (L.setIfInBounds i true)=true->μ c<w.heap.size:=λc f m j hv=>(h.has c f m (n c f m j ▸ hv)).2.2.1
 have l:=t.bel;have s:=t.le;refine⟨h.bel.trans ⟨l.os,l.tape,l.output,l.size,λk A _=>l.block k (Ux A h.le)⟩,UC h.le l.size,λc f m hv=>?_,λc d f g m hd hf y q=>?_⟩
 ·by_cases j:c=b
  ·subst j;rw[z]at m;obtain rfl:e=f:=UO.inj m;have v:e.now (L.setIfInBounds i true)=e.before:=by unfold Bl.now;rw[o c e z,r];rfl
   rw[v];unfold upd;rw[yCj rfl];exact⟨t.range,t.there,t.lt,U4 (UC h.le s)⟩
  ·obtain⟨C,B,r,a⟩:=h.has c f m (n c f m j ▸ hv);unfold upd;rw[yCk j];have v:f.now (L.setIfInBounds i true)=f.now L:=by unfold Bl.now;rw[o c f m]
   rw[v];exact⟨range_below C l r,dJ B l r,Ux r l.size,a⟩
 ·unfold upd;by_cases j:c=b
  ·subst j;rw[yCj rfl,yCk (λh=>q h.symm)];exact Nat.ne_of_gt (Ux (p d g hd (λh=>q h.symm) y) s)
  ·by_cases r:d=b
   ·subst r;rw[yCj rfl,yCk j];exact Nat.ne_of_lt (Ux (p c f m j hf) s)
   ·rw[yCk j,yCk r];exact h.inj c d f g m hd (n c f m j ▸ hf) (n d g hd r ▸ y) q
structure PutTo(k n:Nat)(cs:List Ut)(w w':Ur):Prop where
 os:w'.os=w.os
 tape:w'.tape=w.tape
 output:w'.output=w.output
 size:w.heap.size<=w'.heap.size
 block:∀j,j<w.heap.size->j≠k->w'.heap[j]? = w.heap[j]?
 range:w'.rangeAt k 0 cs
 there:w'.there k 0 n
theorem aH(k:Nat):∀(vs:List Ut) (o:Nat) (w:Ur) (j:Nat),j≠k->(w.setCells k o vs).heap[j]? = w.heap[j]?
 | [],_,_,_,_=>rfl
 | v :: r,o,w,j,h=>by
  rw[YJ,aH k r (o+1) _ j h,Below.heap_setCell _ _ _ _ h]
theorem mX(k:Nat):∀(vs:List Ut) (o:Nat) (w:Ur),(w.setCells k o vs).os=w.os/\(w.setCells k o vs).tape=w.tape/\(w.setCells k o vs).output=w.output
 | [],_,_=>⟨rfl,rfl,rfl⟩
 | v :: r,o,w=>by rw[YJ];exact mX k r (o+1) _
theorem PutTo.store{k n o:Nat}{b c vs:List Ut}(f:w.there k 0 n)(t:w.rangeAt k 0 b)(x:o+vs.length<=n)(m:∀j,c[j]? = if o<=j/\j<o+vs.length then vs[j-o]? else b[j]?):PutTo k n c w (w.setCells k o vs):=by
 obtain⟨s,r,l⟩:=mX k vs o w;refine⟨s,r,l,by rw[setCells_size];exact Uw _,λj _ d=>aH k vs o w j d,λj v hv=>?_,there_setCells _ _ _ f⟩;have e:w.there k o vs.length:=λj d=>by have:=f (o+j) oM;rwa[UD]at this
 rw[m j]at hv;rw[UD];by_cases d:o<=j/\j<o+vs.length
 ·rw[yCj d]at hv;have:=World.rangeAt_setCells_same w k o vs e (j-o) v hv;rwa[show o+(j-o)=j by omega]at this
 ·rw[yCk d]at hv;have q:w.rangeAt k j [v]:=λi u g=>by
   cases i with
   | zero =>
    obtain rfl:v=u:=by simpa using g
    have:=t j v hv;rwa[UD]at this
   | succ i=>simp at g
  have p:=World.rangeAt_setCells_apart q k o vs (UX (by simp only[Vj,WG];omega));have:=p 0 v rfl;exact this
theorem PutTo.whole{k:Nat}{b c:List Ut}(e:w.there k 0 b.length)(f:w.rangeAt k 0 b)(g:c.length=b.length):PutTo k b.length c w (w.setCells k 0 c):=
 PutTo.store e f oM (λj=>by
  by_cases d:0<=j/\j<0+c.length
  ·rw[yCj d];rfl
  ·rw[yCk d,Wx oM,Wx oM])
theorem Wd.put{i b:Nat}{e:Bl}(h:Wd w0 k0 X bl L μ w)(s:i<L.size)(u:bl[b]? = some e)(y:e.st=some i)(hv:e.live L=true)(n:PutTo (μ b) e.before.length e.after w w')
 (k:∀(c:Nat) (f:Bl),bl[c]? = some f->c≠b->f.st≠some i) (o:∀(c:Nat) (f:Bl),bl[c]? = some f->f.al≠some i) :
 Wd w0 k0 X bl (L.setIfInBounds i true) μ w':=by
 have m:∀(c:Nat) (f:Bl),bl[c]? = some f->f.live (L.setIfInBounds i true)=f.live L:=λc f l=>by
  rw[iC s,show(f.al == some i)=false by simpa using o c f l,WT]
 obtain⟨G,E,F,A⟩:=h.has b e u hv;have z:=h.le;refine⟨h.bel.trans ⟨n.os,n.tape,n.output,n.size,λj q hx=>n.block j oM (λe=>A.elim (λh=>oM) (λh=>hx (e ▸ h)))⟩,UC h.le n.size,λc f l o=>?_,λc d f g l hd hf B=>h.inj c d f g l hd (m c f l ▸ hf) (m d g hd ▸ B)⟩;rw[m c f l]at o;obtain⟨D,C,r,x⟩:=h.has c f l o;by_cases p:c=b
 ·subst p;rw[u]at l;obtain rfl:e=f:=UO.inj l;have t:e.now (L.setIfInBounds i true)=e.after:=by
   unfold Bl.now;rw[kB s,y];simp
  rw[t];exact⟨n.range,n.there,Ux r n.size,x⟩
 ·have t:f.now (L.setIfInBounds i true)=f.now L:=by
   unfold Bl.now;rw[kB s,show(f.st == some i)=false by simpa using k c f l p,WT]
  rw[t];have k:=n.block (μ c) r (h.inj c b f e l u o hv p);refine⟨λj v q=>?_,λj q=>?_,Ux r n.size,x⟩
  ·rw[UW (w:=w) (a:=⟨μ c,0+j,none⟩) k];exact D j v q
  ·rw[UW (w:=w) (a:=⟨μ c,0+j,none⟩) k,World.frozen?_of_block (w:=w) (a:=⟨μ c,0+j,none⟩) k];exact C j q
end RG
namespace RG
variable {P:VD}{ops:Array Vk}{Q:Yo->Act->Ur->Prop}{w0 w:Ur}{k0:Nat}{X:List Nat}{its:List It}{bl:List Bl}{olds:List (WC × SV)}{a0:Act}{L:Array Bool}{μ μ' μ0:Nat->Nat}
structure Ac(its:List It)(bl:List Bl)(a0:Act)(L:Array Bool)(μ:Nat->Nat)(a:Act):Prop where
 defers:a.defers=a0.defers
 size:a.tmps.size=a0.tmps.size
 got:∀(i:Nat) (it:It) (d:WC),its[i]? = some it->on L i=true->it.dst=some d->a.tmps[d]? = some (it.out.at μ)/\∀b,it.out.blk=some b->∃e:Bl,bl[b]? = some e/\e.live L=true
 rest:∀t:WC,(∀(i:Nat) (it:It),its[i]? = some it->on L i=true->it.dst≠some t)->a.tmps[t]? = a0.tmps[t]?
def dB(o:Vk)(j:Nat):Bool:=o.after.any (λe=>VP .any e && e.on == j)
def Fo(k:Array Vk)(b:List It)(i:Nat)(t:WC):Bool:=b.zipIdx.all (λx=>x.1.dst != some t || (match k[x.2]? with|some o=>dB o i|none=>false))
def Known(c:Array Vk)(i:Nat)(b:List It)(olds:List (WC × SV))(k:List (WC × Nat))(μ:Nat->Nat)(a:Act):Prop:=
 (∀(t:WC) (j:Nat) (it:It),(t,j)∈k->b[j]? = some it->a.eval (.tmp t)=it.out.at μ)/\(∀(t:WC) (s:SV),(t,s)∈olds->Fo c b i t=true->a.eval (.tmp t)=s.at μ)
def readB(k:Array Vk)(i:Nat)(e:Bl):Bool:=match e.st with|none=>true|some s=>match k[s]? with|some o=>dB o i|none=>false
def Reads(k:Array Vk)(i:Nat)(c:List Bl)(μ:Nat->Nat)(w:Ur):Prop:=∀(b:Nat) (e:Bl),c[b]? = some e->(e.al=none\/∃(o:Vk) (j:Nat),k[i]? = some o/\e.al=some j/\dB o j=true)->readB k i e=true->w.rangeAt (μ b) 0 e.before
def Does(P:VD)(Q:Yo->Act->Ur->Prop)(c:List Bl)(o:Vk)(it:It)(μ:Nat->Nat)(a:Act)(w:Ur)(K:Act->Ur->Prop):Kind->Prop
 | .stay=>K (a.put o.dst (it.out.at μ)) w->o.wp P a w K Q
 | .pass=>it.out=.v WP
 | .call=>(∀w',kZ w w'->K (a.put o.dst (it.out.at μ)) w')->o.wp P a w K Q
 | .make b=>∀e:Bl,c[b]? = some e->(∀(k:Nat) (w':Ur),Made w k e.before w'->K (a.put o.dst (it.out.at (upd μ b k))) w')->o.wp P a w K Q
 | .put b=>∀e:Bl,c[b]? = some e->w.there (μ b) 0 e.before.length->w.rangeAt (μ b) 0 e.before->(∀w',PutTo (μ b) e.before.length e.after w w'->K (a.put o.dst (it.out.at μ)) w')->o.wp P a w K Q
def Cert(P:VD)(Q:Yo->Act->Ur->Prop)(d:Ur)(e:Nat)(X:List Nat)(k:Array Vk)(i:Nat)(b:List It)(c:List Bl)(olds:List (WC × SV))(o:Vk)(it:It):Prop:=
 ∀(μ:Nat->Nat) (a:Act) (w:Ur) (K:Act->Ur->Prop),Known k i b olds it.need μ a->Reads k i c μ w->BelX e X d w->Does P Q c o it μ a w K it.kind
def Ja(k:List It)(c:List Bl)(o:Vk)(it:It)(b:Nat):Bool:=
 (match c[b]? with|some e=>(match e.al with|none=>true|some j=>dB o j)|none=>false) || it.need.any (λx=>dB o x.2 && (match k[x.2]? with|some jt=>jt.dst.isSome && jt.out.blk == some b|none=>false))
def Ad(d:List It)(k:List Bl)(i:Nat)(o:Vk)(it:It):Kind->Bool
 | .stay | .pass | .call=>k.all (λe=>e.al != some i && e.st != some i) && (match it.out.blk with|none=>true|some b=>Ja d k o it b)
 | .make b=>(match it.out.blk with|some c=>c == b|none=>false) && k.zipIdx.all (λx=>x.1.st != some i && (x.1.al == some i) == (x.2 == b)) && (k[b]?).isSome
 | .put b=>(match it.out with | .v _=>true|_=>false) && k.zipIdx.all (λx=>x.1.al != some i && (x.1.st == some i) == (x.2 == b)) && (match k[b]? with|some e=>(match e.al with|none=>true|some j=>dB o j)|none=>false)
def Kind.isPass:Kind->Bool
 | .pass=>true
 | _=>false
def Jo(k:List It)(o:Vk)(it:It):Bool:=
 match o.guard with
 | none=>!it.kind.isPass
 | some (j,want)=>dB o j && (match k[j]? with|some jt=>jt.dst.isSome && (match jt.out with | .v (.bool b)=>(b == want) == !it.kind.isPass|_=>false)|none=>false)
def okB(k:List It)(c:List Bl)(i:Nat)(o:Vk)(it:It):Bool:=
 (o.dst == it.dst) && Jo k o it && o.after.all (λe=>!VP .any e || e.on<i) && it.need.all (λb=>dB o b.2 && ((k[b.2]?).bind (·.dst)) == some b.1) && Ad k c i o it it.kind
def yY:List It->Bool
 | []=>true
 | it :: r=>(match it.dst with|none=>true|some d=>r.all (λk=>k.dst != some d)) && yY r
def TJ(k:List Bl)(olds:List (WC × SV)):Bool:=
 olds.all (λx=>(match x.2.blk with|none=>true|some b=>match k[b]? with|some e=>e.al.isNone|none=>false))
def allB(b:Array Vk)(k:List It)(c:List Bl)(olds:List (WC × SV))(n:Nat):Bool:=
 b.size == k.length && yY k && TJ c olds && k.all (λit=>match it.dst with|none=>true|some d=>d<n) &&
 (VG k.length).all (λi=>match b[i]?,k[i]? with|some o,some it=>okB k c i o it|_,_=>false)
theorem JG:∀ {k:List It},yY k=true->∀(i j:Nat) (it b:It) (d:WC),k[i]? = some it->k[j]? = some b->it.dst=some d->b.dst=some d->i=j
 | [],_,i,_,_,_,_,h,_,_,_=>by simp at h
 | x :: r,h,i,j,it,b,d,hi,hj,di,dj=>by
  simp only[yY,UL]at h;match i,j with
  | 0,0=>rfl
  | 0,j+1 =>
   simp only[Vf,UO.injEq]at hi;simp only[U9]at hj;subst hi;rw[di]at h;have:=Va.1 h.1 b (VJ hj);rw[dj]at this;simp at this
  | i+1,0 =>
   simp only[Vf,UO.injEq]at hj;simp only[U9]at hi;subst hj;rw[dj]at h;have:=Va.1 h.1 it (VJ hi);rw[di]at this;simp at this
  | i+1,j+1 =>
   simp only[U9]at hi hj;rw[JG h.2 i j it b d hi hj di dj]
theorem oC{e:Bl}{i:Nat}(k:i<L.size)(h:e.live L=true):e.live (L.setIfInBounds i true)=true:=by rw[iC k,h,X9]
theorem Ac.put{a:Act}{i:Nat}{it:It}(h:Ac its bl a0 L μ a)(hd:yY its=true)(p:i<L.size)(n:its[i]? = some it)(hμ:∀(b:Nat) (e:Bl),bl[b]? = some e->e.live L=true->μ' b=μ b)
 (u:∀d,it.dst=some d->d<a0.tmps.size) (o:∀d,it.dst=some d->∀b,it.out.blk=some b->∃e:Bl,bl[b]? = some e/\e.live (L.setIfInBounds i true)=true)
 (v:Ut) (hv:∀d,it.dst=some d->v=it.out.at μ'):Ac its bl a0 (L.setIfInBounds i true) μ' (a.put it.dst v):=by
 have m:∀(j:Nat) (f:It) (d:WC),its[j]? = some f->on L j=true->f.dst=some d->a.tmps[d]? = some (f.out.at μ')/\∀b,f.out.blk=some b->∃e:Bl,bl[b]? = some e/\e.live (L.setIfInBounds i true)=true:=λj f d g ho c=>by
  obtain⟨r,q⟩:=h.got j f d g ho c;refine⟨?_,λb l=>?_⟩
  ·rw[r]
   congr 1
   refine SV.at_congr λb s=>?_
   obtain⟨e,k,o⟩:=q b s;rw[hμ b e k o]
  ·obtain⟨e,k,o⟩:=q b l;exact⟨e,k,oC p o⟩
 cases k:it.dst with
 | none =>
  show Ac its bl a0 _ μ' a;refine⟨h.defers,h.size,λj f d g ho c=>?_,λt q=>h.rest t λj f g ho=>q j f g (by rw[eC p,ho,X9])⟩;rw[eC p]at ho;by_cases l:i=j
  ·subst l;rw[n]at g;obtain rfl:it=f:=UO.inj g;rw[k]at c;cases c
  ·exact m j f d g (by simpa[l]using ho) c
 | some d0 =>
  have r:=u d0 k;refine⟨h.defers,?_,λj f d g ho c=>?_,λt q=>?_⟩
  ·show(a.tmps.setIfInBounds d0 v).size=_;rw[VF];exact h.size
  ·show(a.tmps.setIfInBounds d0 v)[d]? = _/\_;rw[WB];rw[eC p]at ho;by_cases l:i=j
   ·subst l;rw[n]at g;obtain rfl:it=f:=UO.inj g;rw[k]at c;obtain rfl:d0=d:=UO.inj c;rw[yCj rfl,yCj (by rw[h.size];exact r),hv d0 k];exact⟨rfl,o d0 k⟩
   ·have o:d0≠d:=λs=>l (JG hd i j it f d0 n g k (s ▸ c))
    rw[yCk o];exact m j f d g (by simpa[l]using ho) c
  ·show(a.tmps.setIfInBounds d0 v)[t]? = _;have o:d0≠t:=λl=>q i it n (by rw[eC p];simp) (by rw[k,l])
   rw[WB,yCk o];exact h.rest t λj f g ho=>q j f g (by rw[eC p,ho,X9])
structure Inv(ops:Array Vk)(its:List It)(bl:List Bl)(a0:Act)(w0:Ur)(k0:Nat)(X:List Nat)(μ0:Nat->Nat)(L:Array Bool)(a:Act)(w:Ur):Prop where
 size:L.size=its.length
 cl:∀(i:Nat) (o:Vk),ops[i]? = some o->on L i=true->∀e∈o.after,VP .any e=true->on L e.on=true
 all:∃μ,(∀(b:Nat) (e:Bl),bl[b]? = some e->e.al=none->μ b=μ0 b)/\Ac its bl a0 L μ a/\Wd w0 k0 X bl L μ w/\∀(b:Nat) (e:Bl),bl[b]? = some e->e.put L=true->e.live L=true
theorem BA{o:Vk}(h:o.guard=none)(y:Nat->Option Bool):V2 o y=true:=by unfold V2;rw[h]
theorem jR{p:Bl × Nat->Bool}(h:bl.zipIdx.all p=true)(b:Nat)(e:Bl)(k:bl[b]? = some e):p (e,b)=true:=
 Va.1 h (e,b) (by rw[YA];exact k)
theorem two{s t:Option Nat}{i c b:Nat}(h:(s != some i && (t == some i) == (c == b))=true):s≠some i/\(t=some i↔c=b):=by
 rw[UL]at h;refine⟨by simpa using h.1,?_⟩;have k:(t == some i)=(c == b):=by simpa using h.2
 constructor
 ·intro d;rw[d]at k;simpa using k.symm
 ·intro d;rw[d]at k;simpa using k
theorem step{i:Nat}{o:Vk}{it:It}{a:Act}(hd:yY its=true)(ho:ops[i]? = some o)(R:its[i]? = some it)(hu:okB its bl i o it=true)(Y:∀d,it.dst=some d->d<a0.tmps.size)
 (holds:∀(t:WC) (s:SV),(t,s)∈olds->a0.tmps[t]? = some (s.at μ0)/\∀b,s.blk=some b->∃e:Bl,bl[b]? = some e/\e.al=none)
 (l:∀(j:Nat) (V:Vk) (H:It),ops[j]? = some V->its[j]? = some H->V.dst=H.dst) (F:ops.size=its.length) (B:Cert P Q w0 k0 X ops i its bl olds o it) (h7:on L i=false) (M:∀e∈o.after,VP .any e=true->on L e.on=true) (h:Inv ops its bl a0 w0 k0 X μ0 L a w) :
 wpOp P ops Q i (Inv ops its bl a0 w0 k0 X μ0 (L.setIfInBounds i true)) a w:=by
 obtain⟨ht,h8,μ,hμ,hA,hW,hO⟩:=h;have D:i<L.size:=by rw[ht];exact(UF.1 R).1
 simp only[okB,UL]at hu;obtain⟨⟨⟨⟨hr,W⟩,k2⟩,hn⟩,g⟩:=hu;have C:o.dst=it.dst:=by simpa using hr
 have r:∀j,dB o j=true->on L j=true:=λj J=>by
  obtain⟨e,U,m⟩:=XO.1 J;simp only[UL,beq_iff_eq]at m;rw[<-m.2];exact M e U m.1
 have h9:V2 o (yielded ops a.tmps) = !it.kind.isPass:=by
  unfold V2;unfold Jo at W;cases N:o.guard with
  | none=>rw[N]at W;dsimp only at W⊢;rw[W]
  | some jw =>
   obtain⟨j,q⟩:=jw;rw[N]at W;dsimp only at W⊢;rw[UL]at W;cases J:its[j]? with
   | none=>rw[J]at W;cases W.2
   | some H =>
    rw[J]at W;obtain⟨h1,A⟩:=W;dsimp only at A;rw[UL]at A;obtain⟨d,I⟩:=Vr.1 A.1;have K:j<its.length:=(UF.1 J).1;have E:ops[j]? = some (ops[j]'(by rw[F];exact K)):=U0 _;have G:=(hA.got j H d J (r j h1) I).1;have O:yielded ops a.tmps j=match H.out.at μ with | .bool b=>some b|_=>none:=by
     unfold yielded;rw[E];show(match (ops[j]'(by rw[F];exact K)).dst.bind (a.tmps[·]?) with|some (.bool b)=>some b|_=>none)=_;rw[l j _ H E J,I];show(match a.tmps[d]? with|some (.bool b)=>some b|_=>none)=_;rw[G];cases H.out.at μ<;>rfl
    rw[O];have l:=A.2;cases n:H.out with
    | p b x=>rw[n]at l;cases l
    | s b x y=>rw[n]at l;cases l
    | t b x y z=>rw[n]at l;cases l
    | v x =>
     rw[n]at l;cases x with
     | bool b =>
      show(some b == some q)=_;dsimp only at l;have:(b == q) = !it.kind.isPass:=by simpa using l
      rw[<-this];cases b<;>cases q<;>rfl
     | _=>cases l
 have hK:Known ops i its olds it.need μ a:=by
  refine⟨λt j H hm J=>?_,λt s hm K=>?_⟩
  ·have h1:=Va.1 hn (t,j) hm;simp only[UL,J]at h1;have A:H.dst=some t:=by simpa using h1.2
   have G:=(hA.got j H t J (r j h1.1) A).1;show a.tmps.getD t WP=_;rw[UI,G];rfl
  ·obtain⟨A,G⟩:=holds t s hm;have O:=hA.rest t (λj H J T I=>by
    have l:=Va.1 K (H,j) (by rw[YA];exact J);dsimp only at l;rw[I]at l;cases E:ops[j]? with
    | none=>rw[E]at l;simp at l
    | some V =>
     rw[E]at l;have q:dB V i=true:=by simpa using l
     obtain⟨e',N,F⟩:=XO.1 q;simp only[UL,beq_iff_eq]at F;have:=h8 j V E T e' N F.1;rw[F.2,h7]at this;cases this)
   show a.tmps.getD t WP=_;rw[UI,O,A];show s.at μ0=s.at μ;refine SV.at_congr λb m=>?_
   obtain⟨e,U,q⟩:=G b m;rw[hμ b e U q]
 have hR:Reads ops i bl μ w:=λb e m q K=>by
  have:=(hW.has b e m (by
   unfold Bl.live;rcases q with q|⟨I,j,l,q,hd⟩
   ·rw[q];rfl
   ·rw[q];show on L j=true;rw[ho]at l;obtain rfl:=UO.inj l;exact r j hd)).1
  unfold Bl.now Bl.put at this;unfold readB at K;cases hs:e.st with
  | none=>rw[hs]at this;exact this
  | some s =>
   rw[hs]at this K;dsimp only at K;cases l:ops[s]? with
   | none=>rw[l]at K;cases K
   | some os =>
    rw[l]at K;have I:on L s=false:=by
     cases T:on L s with
     | false=>rfl
     | true =>
      obtain⟨e',N,F⟩:=XO.1 K;simp only[UL,beq_iff_eq]at F;have:=h8 s os l T e' N F.1;rw[F.2,h7]at this;cases this
    rw[show(Option.map (on L) (some s)).getD false=on L s from rfl,I]at this;exact this
 have h0:∀b,Ja its bl o it b=true->∃e:Bl,bl[b]? = some e/\e.live L=true:=λb m=>by
  unfold Ja at m;rw[Bool.or_eq_true]at m;rcases m with A|A
  ·cases U:bl[b]? with
   | none=>rw[U]at A;cases A
   | some e =>
    rw[U]at A;dsimp only at A;refine⟨e,rfl,?_⟩;unfold Bl.live;cases q:e.al with
    | none=>rfl
    | some j=>rw[q]at A;exact r j A
  ·obtain⟨x,hx,G⟩:=List.any_eq_true.1 A;rw[UL]at G;cases J:its[x.2]? with
   | none=>rw[J]at G;cases G.2
   | some H =>
    rw[J]at G;dsimp only at G;rw[UL]at G;obtain⟨d,l⟩:=Vr.1 G.2.1;exact(hA.got x.2 H d J (r x.2 G.1) l).2 b (by simpa using G.2.2)
 have G:∀(j:Nat) (V:Vk),ops[j]? = some V->on (L.setIfInBounds i true) j=true->∀e∈V.after,VP .any e=true->on (L.setIfInBounds i true) e.on=true:=λj V E T e U m=>by
  rw[eC D]at T⊢;by_cases l:i=j
  ·subst l;rw[ho]at E;obtain rfl:o=V:=UO.inj E;rw[M e U m,X9]
  ·rw[h8 j V E (by simpa[l]using T) e U m,X9]
 have I:(L.setIfInBounds i true).size=its.length:=by rw[VF];exact ht
 have hC:=B μ a w (Inv ops its bl a0 w0 k0 X μ0 (L.setIfInBounds i true)) hK hR hW.bel;unfold wpOp;rw[ho];dsimp only;rw[h9];cases hk:it.kind with
 | pass =>
  rw[hk]at hC g;simp only[Ad,UL]at g;have H:∀(b:Nat) (e:Bl),bl[b]? = some e->e.al≠some i/\e.st≠some i:=λb e m=>by simpa using Va.1 g.1 e (VJ m)
  have l:∀(b:Nat) (e:Bl),bl[b]? = some e->e.live (L.setIfInBounds i true)=e.live L/\e.put (L.setIfInBounds i true)=e.put L:=λb e m =>
   ⟨by rw[iC D,show(e.al == some i)=false by simpa using(H b e m).1,WT],by rw[kB D,show(e.st == some i)=false by simpa using(H b e m).2,WT]⟩
  show Inv ops its bl a0 w0 k0 X μ0 (L.setIfInBounds i true) (a.put o.dst WP) w;refine⟨I,G,μ,hμ,?_,hW.same l,λb e m=>by rw[(l b e m).1,(l b e m).2];exact hO b e m⟩;rw[C];have n:it.out=.v WP:=hC;refine hA.put hd D R (λ_ _ _ _=>rfl) Y (λ_ _ b M=>?_) _ (λ_ _=>by rw[n];rfl);rw[n]at M;cases M
 | stay =>
  rw[hk]at hC g;simp only[Ad,UL]at g;show o.wp P a w _ Q\/_;left;refine hC ?_;have H:∀(b:Nat) (e:Bl),bl[b]? = some e->e.al≠some i/\e.st≠some i:=λb e m=>by simpa using Va.1 g.1 e (VJ m)
  have l:∀(b:Nat) (e:Bl),bl[b]? = some e->e.live (L.setIfInBounds i true)=e.live L/\e.put (L.setIfInBounds i true)=e.put L:=λb e m =>
   ⟨by rw[iC D,show(e.al == some i)=false by simpa using(H b e m).1,WT],by rw[kB D,show(e.st == some i)=false by simpa using(H b e m).2,WT]⟩
  refine⟨I,G,μ,hμ,?_,hW.same l,λb e m=>by rw[(l b e m).1,(l b e m).2];exact hO b e m⟩;rw[C];refine hA.put hd D R (λ_ _ _ _=>rfl) Y (λ_ _ b M=>?_) _ (λ_ _=>rfl);have A:=g.2;rw[M]at A;obtain⟨e,U,hl⟩:=h0 b A;exact⟨e,U,oC D hl⟩
 | call =>
  rw[hk]at hC g;simp only[Ad,UL]at g;show o.wp P a w _ Q\/_;left;refine hC λw' F=>?_
  have H:∀(b:Nat) (e:Bl),bl[b]? = some e->e.al≠some i/\e.st≠some i:=λb e m=>by simpa using Va.1 g.1 e (VJ m)
  have l:∀(b:Nat) (e:Bl),bl[b]? = some e->e.live (L.setIfInBounds i true)=e.live L/\e.put (L.setIfInBounds i true)=e.put L:=λb e m =>
   ⟨by rw[iC D,show(e.al == some i)=false by simpa using(H b e m).1,WT],by rw[kB D,show(e.st == some i)=false by simpa using(H b e m).2,WT]⟩
  refine⟨I,G,μ,hμ,?_,(hW.call F).same l,λb e m=>by rw[(l b e m).1,(l b e m).2];exact hO b e m⟩;rw[C];refine hA.put hd D R (λ_ _ _ _=>rfl) Y (λ_ _ b M=>?_) _ (λ_ _=>rfl);have A:=g.2;rw[M]at A;obtain⟨e,U,hl⟩:=h0 b A;exact⟨e,U,oC D hl⟩
 | make b =>
  rw[hk]at hC g;simp only[Ad,UL]at g;obtain⟨⟨n,hz⟩,M⟩:=g;obtain⟨e,l⟩:=Vr.1 M;have ha:e.al=some i:=(two (jR hz b e l)).2.2 rfl;have F:∀(c:Nat) (f:Bl),bl[c]? = some f->f.st≠some i:=λc f B=>(two (jR hz c f B)).1
  have O:∀(c:Nat) (f:Bl),bl[c]? = some f->c≠b->f.al≠some i:=λc f B S h=>S ((two (jR hz c f B)).2.1 h)
  have H:e.live L=false:=by unfold Bl.live;rw[ha];exact h7
  have hpt:e.put L=false:=by
   cases hp:e.put L with
   | false=>rfl
   | true=>have:=hO b e l hp;rw[H]at this;cases this
  have hq:it.out.blk=some b:=by
   cases N:it.out.blk with
   | none=>rw[N]at n;cases n
   | some c =>
    rw[N]at n;rw[show c=b by simpa using n]
  show o.wp P a w _ Q\/_;left;refine hC e l λk w' hm=>?_
  have hμb:∀(c:Nat) (f:Bl),bl[c]? = some f->f.live L=true->upd μ b k c=μ c:=λc f B hl=>by
   unfold upd;rw[yCk];rintro rfl;rw[l]at B;obtain rfl:e=f:=UO.inj B;rw[H]at hl;cases hl
  refine⟨I,G,upd μ b k,λc f B q=>?_,?_,hW.make D l ha O F hpt hm,λc f B=>?_⟩
  ·rw[hμb c f B (by unfold Bl.live;rw[q];rfl)];exact hμ c f B q
  ·rw[C];refine hA.put hd D R hμb Y (λ_ _ c Z=>?_) _ (λ_ _=>rfl);rw[hq]at Z;have h1:b=c:=UO.inj Z;subst h1;exact⟨e,l,by rw[iC D,ha];simp⟩
  ·rw[kB D,show(f.st == some i)=false by simpa using F c f B,WT];exact λhp=>oC D (hO c f B hp)
 | put b =>
  rw[hk]at hC g;simp only[Ad,UL]at g;obtain⟨⟨n,hz⟩,M⟩:=g;cases l:bl[b]? with
  | none=>rw[l]at M;cases M
  | some e =>
   rw[l]at M;dsimp only at M;have hs:e.st=some i:=(two (jR hz b e l)).2.2 rfl;have O:∀(c:Nat) (f:Bl),bl[c]? = some f->f.al≠some i:=λc f B=>(two (jR hz c f B)).1
   have F:∀(c:Nat) (f:Bl),bl[c]? = some f->c≠b->f.st≠some i:=λc f B S h=>S ((two (jR hz c f B)).2.1 h)
   have H:e.live L=true:=by
    unfold Bl.live;cases q:e.al with
    | none=>rfl
    | some j =>
     have A:=M;rw[q]at A;exact r j A
   show o.wp P a w _ Q\/_;left;have k1:e.put L=false:=by unfold Bl.put;rw[hs];exact h7
   have A:e.now L=e.before:=by unfold Bl.now;rw[k1];rfl
   refine hC e l (hW.has b e l H).2.1 (A ▸ (hW.has b e l H).1) λw' hy=>?_
   refine⟨I,G,μ,hμ,?_,hW.put D l hs H hy F O,λc f B hp=>?_⟩
   ·rw[C];refine hA.put hd D R (λ_ _ _ _=>rfl) Y (λd hw c Z=>?_) _ (λd hw=>rfl);cases N:it.out with
    | v x=>rw[N]at Z;cases Z
    | p x y=>rw[N]at n;cases n
    | s x y z=>rw[N]at n;cases n
    | t x y z u=>rw[N]at n;cases n
   ·rw[iC D,show(f.al == some i)=false by simpa using O c f B,WT];rw[kB D]at hp;by_cases S:c=b
    ·subst S;rw[l]at B;obtain rfl:e=f:=UO.inj B;exact H
    ·rw[show(f.st == some i)=false by simpa using F c f B S,WT]at hp;exact hO c f B hp
end RG
namespace RG
variable {P:VD}{ops:Array Vk}{Q:Yo->Act->Ur->Prop}{w0 w:Ur}{k0:Nat}{X:List Nat}{its:List It}{bl:List Bl}{olds:List (WC × SV)}{a0:Act}{L:Array Bool}{μ μ0:Nat->Nat}
def puts(μ:Nat->Nat):List It->Act->Act
 | [],a=>a
 | it :: r,a=>puts μ r (a.put it.dst (it.out.at μ))
theorem nE(μ:Nat->Nat):∀(k:List It) (a:Act),(puts μ k a).defers=a.defers
 | [],_=>rfl
 | it :: r,a=>by
  rw[puts,nE μ r];cases it.dst<;>rfl
theorem qS(a:Act)(d:Option WC)(v:Ut):(a.put d v).tmps.size=a.tmps.size:=by
 cases d with
 | none=>rfl
 | some d=>exact VF ..
theorem zN(μ:Nat->Nat):∀(k:List It) (a:Act),(puts μ k a).tmps.size=a.tmps.size
 | [],_=>rfl
 | it :: r,a=>by rw[puts,zN μ r,qS]
theorem nW(a:Act){d:Option WC}(v:Ut){t:WC}(h:d≠some t):(a.put d v).tmps[t]? = a.tmps[t]?:=by
 cases d with
 | none=>rfl
 | some d =>
  show(a.tmps.setIfInBounds d v)[t]? = _;rw[WB,yCk (λe=>h (by rw[e]))]
theorem lW(μ:Nat->Nat):∀(k:List It) (a:Act) (t:WC),(∀it∈k,it.dst≠some t)->(puts μ k a).tmps[t]? = a.tmps[t]?
 | [],_,_,_=>rfl
 | it :: r,a,t,h=>by
  rw[puts,lW μ r _ t (λx hx=>h x (Vb _ hx)),nW a _ (h it Vu)]
theorem rW(μ:Nat->Nat):∀(k:List It) (a:Act) (i:Nat) (it:It) (d:WC),yY k=true->k[i]? = some it->it.dst=some d->d<a.tmps.size->(puts μ k a).tmps[d]? = some (it.out.at μ)
 | [],_,i,_,_,_,h,_,_=>by simp at h
 | x :: r,a,0,it,d,hB,h,hd,hs=>by
  obtain rfl:x=it:=by simpa using h
  simp only[yY,UL,hd]at hB;rw[puts,lW μ r _ d (λy b=>by simpa using Va.1 hB.1 y b),hd];show(a.tmps.setIfInBounds d _)[d]? = _;rw[WB,yCj rfl,yCj hs]
 | x :: r,a,i+1,it,d,hB,h,hd,hs=>by
  simp only[yY,UL]at hB;rw[puts];exact rW μ r _ i it d hB.2 (by simpa using h) hd (by rw[qS];exact hs)
theorem Act.ext'{a b:Act}(k:a.tmps=b.tmps)(c:a.defers=b.defers):a=b:=by
 cases a;cases b;subst k;subst c;rfl
theorem Ac.done{a:Act}(h:Ac its bl a0 L μ a)(g:yY its=true)(c:∀it∈its,∀d,it.dst=some d->d<a0.tmps.size)(b:∀i,i<its.length->on L i=true):a=puts μ its a0:=by
 refine Act.ext' ?_ (by rw[nE];exact h.defers);apply Array.ext_getElem?;intro t;by_cases e:∃(i:Nat) (it:It),its[i]? = some it/\it.dst=some t
 ·obtain⟨i,it,k,hd⟩:=e;rw[(h.got i it t k (b i (UF.1 k).1) hd).1,rW μ its a0 i it t g k hd (c it (VJ k) t hd)]
 ·rw[h.rest t (λi it k _ hd=>e ⟨i,it,k,hd⟩),lW μ its a0 t (λit f hd=>?_)];obtain⟨i,k⟩:=WJ f;exact e ⟨i,it,k,hd⟩
def unl(L:Array Bool):Nat:=L.toList.countP (λb=>!b)
theorem count_set:∀(l:List Bool) (i:Nat),l[i]? = some false->(l.set i true).countP (λb=>!b)+1=l.countP (λb=>!b)
 | [],i,h=>by simp at h
 | x :: r,0,h=>by
  obtain rfl:x=false:=by simpa using h
  simp
 | x :: r,i+1,h=>by
  have:=count_set r i (by simpa using h);rw[List.set_cons_succ,yA3,yA3];omega
theorem lN{i:Nat}(h:L.getD i true=false):unl (L.setIfInBounds i true)+1=unl L:=by
 unfold unl;rw[Array.toList_setIfInBounds];refine count_set _ _ ?_;rw[Vq];rw[UI]at h;cases hh:L[i]? with
 | none=>rw[hh]at h;cases h
 | some b=>rw[hh]at h;rw[show b=false from h]
theorem kN(h:unl L=0)(i:Nat)(c:i<L.size):on L i=true:=by
 have b:=List.countP_eq_zero.1 h;have k:=b L[i] (by simp);unfold on;rw[UI,U0 c];simpa using k
structure Reg(P:VD)(ops:Array Vk)(Q:Yo->Act->Ur->Prop)(w0:Ur)(k0:Nat)(X:List Nat)(its:List It)(bl:List Bl)(olds:List (WC × SV))(a0:Act)(μ0:Nat->Nat):Prop where
 chk:allB ops its bl olds a0.tmps.size=true
 old:∀(t:WC) (s:SV),(t,s)∈olds->a0.tmps[t]? = some (s.at μ0)
 cert:∀(i:Nat) (o:Vk) (it:It),ops[i]? = some o->its[i]? = some it->Cert P Q w0 k0 X ops i its bl olds o it
theorem Reg.step{i:Nat}{o:Vk}{a:Act}(R:Reg P ops Q w0 k0 X its bl olds a0 μ0)(ho:ops[i]? = some o)(r:on L i=false)(l:∀e∈o.after,VP .any e=true->on L e.on=true)(h:Inv ops its bl a0 w0 k0 X μ0 L a w):
 wpOp P ops Q i (Inv ops its bl a0 w0 k0 X μ0 (L.setIfInBounds i true)) a w:=by
 have x:=R.chk;simp only[allB,UL,beq_iff_eq]at x;obtain⟨⟨⟨⟨m,hd⟩,g⟩,v⟩,n⟩:=x;have z:i<its.length:=by rw[<-m];exact(UZ.1 ho).1
 obtain⟨it,k⟩:∃it,its[i]? = some it:=⟨its[i],UG z⟩
 have B:=Va.1 n i (V0.2 z);rw[ho,k]at B;refine RG.step (olds:=olds) hd ho k B (λd u=>?_) (λt s A=>?_) (λj D E q f=>?_) m (R.cert i o it ho k) r l h
 ·have:=Va.1 v it (VJ k);rw[u]at this;simpa using this
 ·have C:=Va.1 g (t,s) A;refine⟨R.old t s A,λb p=>?_⟩;have c:=C;dsimp only at c;rw[p]at c;dsimp only at c;cases y:bl[b]? with
  | none=>rw[y]at c;cases c
  | some e=>rw[y]at c;exact⟨e,rfl,by simpa using c⟩
 ·have c:=Va.1 n j (V0.2 (UF.1 f).1);rw[q,f]at c;simp only[okB,UL]at c;simpa using c.1.1.1.1
theorem Reg.back{i:Nat}{o:Vk}(R:Reg P ops Q w0 k0 X its bl olds a0 μ0)(ho:ops[i]? = some o):i<its.length/\∀e∈o.after,VP .any e=true->e.on<i:=by
 have g:=R.chk;simp only[allB,UL,beq_iff_eq]at g;obtain⟨⟨⟨⟨k,hd⟩,f⟩,j⟩,b⟩:=g;have d:i<its.length:=by rw[<-k];exact(UZ.1 ho).1
 have c:=Va.1 b i (V0.2 d);rw[ho,UG d]at c;simp only[okB,UL]at c;refine⟨d,λe l m=>?_⟩;have:=WX.1 c.1.1.2 e l;simpa[m]using this
theorem Reg.size(R:Reg P ops Q w0 k0 X its bl olds a0 μ0):ops.size=its.length:=by
 have k:=R.chk;simp only[allB,UL,beq_iff_eq]at k;exact k.1.1.1.1
theorem Reg.full{a:Act}(R:Reg P ops Q w0 k0 X its bl olds a0 μ0)(h:Inv ops its bl a0 w0 k0 X μ0 L a w)(f:U7 .any ops L=[]):∀i,i<its.length->on L i=true:=by
 intro i;induction i using yBj with
 | ind i ih =>
  intro c;have ho:ops[i]? = some (ops[i]'(by rw[R.size];exact c)):=U0 _;cases k:on L i with
  | true=>rfl
  | false =>
   have:i∈U7 .any ops L:=mem_ready.2 ⟨?_,_,ho,λe d g=>?_⟩
   ·rw[f]at this;cases this
   ·unfold on at k;rw[UI,U0 (by rw[h.size];exact c)]at k⊢;exact k
   ·have b:=(R.back ho).2 e d g;exact ih e.on b (Nat.lt_trans b c)
def ad(ks:List Nat)(b:Nat):Nat:=ks.getD b 0
structure St(w0:Ur)(k0:Nat)(X:List Nat)(cs:List (List Ut))(ks:List Nat)(w:Ur):Prop where
 bel:BelX k0 X w0 w
 le:k0<=w.heap.size
 len:ks.length=cs.length
 has:∀(b:Nat) (c:List Ut),cs[b]? = some c->w.rangeAt (ad ks b) 0 c/\w.there (ad ks b) 0 c.length/\ad ks b<w.heap.size/\(k0<=ad ks b\/ad ks b∈X)
 inj:∀(b c:Nat),b<cs.length->c<cs.length->b≠c->ad ks b≠ad ks c
theorem St.drew{cs:List (List Ut)}{ks:List Nat}(h:St w0 k0 X cs ks w):St w0 k0 X cs ks w.drew:=⟨h.bel.drew,h.le,h.len,h.has,h.inj⟩
def Bl.fin(e:Bl):List Ut:=if e.st.isSome=true then e.after else e.before
def mT(k:List Bl)(n:Nat):Bool:=k.zipIdx.all (λx=>x.1.al.isNone == decide (x.2<n)) && decide (n<=k.length)
theorem zJ{r:Array Vk}{cs:List (List Ut)}{ks:List Nat}(q:St w0 k0 X cs ks w)(v:mT bl cs.length=true)(t:(bl.map (·.before)).take cs.length=cs):
 Inv r its bl a0 w0 k0 X (ad ks) (UJ its.length false) a0 w:=by
 simp only[mT,UL]at v;have g:∀i,on (UJ its.length false) i=false:=λi=>by
  unfold on;rw[UI,Yg];by_cases h:i<its.length
  ·rw[yCj h];rfl
  ·rw[yCk h];rfl
 have k:∀(b:Nat) (e:Bl),bl[b]? = some e->e.live (UJ its.length false)=true->b<cs.length:=λb e l p=>by
  have n:=jR v.1 b e l;unfold Bl.live at p;cases m:e.al with
  | none=>simpa[m]using n
  | some j=>rw[m]at p;have:on (UJ its.length false) j=true:=p;rw[g]at this;cases this
 have m:∀e:Bl,e.put (UJ its.length false)=false:=λe=>by
  unfold Bl.put;cases e.st with
  | none=>rfl
  | some j=>exact g j
 have n:∀(b:Nat) (e:Bl),bl[b]? = some e->b<cs.length->cs[b]? = some e.before:=λb e l s=>by
  rw[<-t,WA,yCj s,Vz,l];rfl
 refine⟨Array.size_replicate,(λi o _ h=>by rw[g]at h;cases h),ad ks,λ_ _ _ _=>rfl,⟨rfl,rfl,λi it d a ho=>?_,λ_ _=>rfl⟩,⟨q.bel,q.le,λb e l p=>?_,λb c e f l y z hf u=>q.inj b c (k b e l z) (k c f y hf) u⟩,λb e l x=>?_⟩
 ·rw[g]at ho;cases ho
 ·unfold Bl.now;rw[m e];exact q.has b e.before (n b e l (k b e l p))
 ·rw[m e]at x;cases x
theorem Inv.done{a:Act}{cs:List (List Ut)}{ks:List Nat}(R:Reg P ops Q w0 k0 X its bl olds a0 (ad ks))(h:Inv ops its bl a0 w0 k0 X (ad ks) L a w)(o:ks.length=cs.length)(D:mT bl cs.length=true)(k:∀i,i<its.length->on L i=true)
 (p:∀e∈bl,∀j,e.al=some j\/e.st=some j->j<its.length) (s:∀e∈bl,e.fin.length=e.before.length)
 (J:∀(new:List Nat) (w':Ur),new.length=bl.length-cs.length->St w0 k0 X (bl.map Bl.fin) (ks++new) w'->Q .normal (puts (ad (ks++new)) its a0) w'):Q .normal a w:=by
 obtain⟨G,-,μ,hμ,F,A,N⟩:=h;have I:=R.chk;simp only[allB,UL,beq_iff_eq]at I;obtain⟨⟨⟨⟨u,hd⟩,v⟩,z⟩,H⟩:=I;have K:=D;simp only[mT,UL,decide_eq_true_eq]at D;have f:∀(b:Nat) (e:Bl),bl[b]? = some e->e.live L=true:=λb e m=>by
  unfold Bl.live;cases g:e.al with
  | none=>rfl
  | some j=>exact k j (p e (VJ m) j (U4 g))
 have y:∀(b:Nat) (e:Bl),bl[b]? = some e->e.now L=e.fin:=λb e m=>by
  unfold Bl.now Bl.put Bl.fin;cases g:e.st with
  | none=>rfl
  | some j =>
   have:=k j (p e (VJ m) j (UX g));simp[this]
 have g:∀b,b<bl.length->ad (ks++(VG (bl.length-cs.length)).map (λj=>μ (cs.length+j))) b=μ b:=λb m=>by
  unfold ad;rw[VQ];by_cases n:b<cs.length
  ·rw[UT (by rw[o];exact n)];obtain⟨e,l⟩:∃e,bl[b]? = some e:=⟨bl[b],UG m⟩
   have t:=jR D.1 b e l;have q:e.al=none:=by simpa[n]using t
   rw[hμ b e l q];unfold ad;rw[VQ]
  ·rw[U1 (by rw[o];omega),Vz,o,List.getElem?_range oM];show μ (cs.length+(b-cs.length))=μ b
   congr 1
   omega
 have q:=F.done hd (λit C d n=>by
  have:=Va.1 z it C;rw[n]at this;simpa using this) k
 have E:puts μ its a0=puts (ad (ks++(VG (bl.length-cs.length)).map (λj=>μ (cs.length+j)))) its a0:=by
  have key:∀it∈its,∀d,it.dst=some d->it.out.at μ=it.out.at (ad (ks++(VG (bl.length-cs.length)).map (λj=>μ (cs.length+j)))):=λit C d n=>by
   obtain⟨i,B⟩:=WJ C;have M:=(F.got i it d B (k i (UF.1 B).1) n).2;refine SV.at_congr λb m=>?_
   obtain⟨e,l,-⟩:=M b m;rw[g b (UF.1 l).1]
  clear F q v H z hd u G R k p J;generalize a0=B;induction its generalizing B with
  | nil=>rfl
  | cons it r ih =>
   rw[puts,puts];have t:B.put it.dst (it.out.at μ)=B.put it.dst (it.out.at (ad (ks++(VG (bl.length-cs.length)).map (λj=>μ (cs.length+j))))):=by
    cases n:it.dst with
    | none=>rfl
    | some d=>rw[key it Vu d n]
   rw[t];exact ih (λx hx=>key x (Vb _ hx)) _
 rw[q,E];refine J _ w (by simp) ⟨A.bel,A.le,?_,λb c p=>?_,λb c m p B=>?_⟩
 ·simp only[UA,UQ,List.length_range];omega
 ·rw[Vz]at p;cases l:bl[b]? with
  | none=>rw[l]at p;cases p
  | some e =>
   rw[l]at p;obtain rfl:e.fin=c:=UO.inj p;have t:=A.has b e l (f b e l);rw[y b e l]at t;rw[g b (UF.1 l).1,s e (VJ l)];exact t
 ·rw[UQ]at m p;rw[g b m,g c p];exact A.inj b c _ _ (UG m) (UG p) (f b _ (UG m)) (f c _ (UG p)) B
theorem region_draws'{id:Nat}{cs:List (List Ut)}{ks:List Nat}(v:P.follows .mixedOrders=true)(r:St w0 k0 X cs ks w)(R:Reg P ops Q w0 k0 X its bl olds a0 (ad ks))(q:mT bl cs.length=true)(s:(bl.map (·.before)).take cs.length=cs)(hE:(∀e∈bl,∀j,e.al=some j\/e.st=some j->j<its.length)/\∀e∈bl,e.fin.length=e.before.length)
 (u:∀(new:List Nat) (w':Ur),new.length=bl.length-cs.length->St w0 k0 X (bl.map Bl.fin) (ks++new) w'->Q .normal (puts (ad (ks++new)) its a0) w'):(V4 id ops true).wp P Q a0 w:=by
 obtain⟨m,c⟩:=hE;have key:∀(k:Nat) (L:Array Bool) (a:Act) (w:Ur),unl L=k->Inv ops its bl a0 w0 k0 X (ad ks) L a w->wpAny P .any ops Q k L a w:=by
  intro k;induction k with
  | zero =>
   intro L a w t g;have f:∀i,i<its.length->on L i=true:=λi l=>kN t i (by rw[g.size];exact l)
   refine⟨?_,g.done R r.len q f m c u⟩;apply List.eq_nil_iff_forall_not_mem.2;intro i l;obtain⟨d,o,ho,-⟩:=mem_ready.1 l;have n:=f i (R.back ho).1;unfold on at n;rw[UI]at d n;cases hh:L[i]? with
   | none=>rw[hh]at d;cases d
   | some b=>rw[hh]at d n;rw[show b=false from d]at n;cases n
  | succ k ih =>
   intro L a w t g;refine⟨λy=>g.done R r.len q (R.full g y) m c u,λi l=>?_⟩;obtain⟨d,o,ho,f⟩:=mem_ready.1 l;have n:on L i=false:=by
    unfold on;rw[UI]at d⊢;cases hh:L[i]? with
    | none=>rfl
    | some b=>rw[hh]at d;exact d
   exact wpOp_mono (λx w' p=>ih _ x w' (by have:=lN d;omega) p) (R.step ho n f g)
 refine wp_region_any v (key _ _ a0 _ ?_ ?_)
 ·unfold unl;rw[Array.toList_replicate,List.countP_replicate];simp
 ·rw[R.size];exact zJ r.drew q s
theorem region_text'{id:Nat}{cs:List (List Ut)}{ks:List Nat}(p:St w0 k0 X cs ks w)(R:Reg P ops Q w0 k0 X its bl olds a0 (ad ks))(o:mT bl cs.length=true)(n:(bl.map (·.before)).take cs.length=cs)(hE:(∀e∈bl,∀j,e.al=some j\/e.st=some j->j<its.length)/\∀e∈bl,e.fin.length=e.before.length)
 (f:∀(new:List Nat) (w':Ur),new.length=bl.length-cs.length->St w0 k0 X (bl.map Bl.fin) (ks++new) w'->Q .normal (puts (ad (ks++new)) its a0) w'):(V4 id ops false).wp P Q a0 w:=by
 obtain⟨l,k⟩:=hE;have key:∀(m i:Nat) (L:Array Bool) (a:Act) (w:Ur),i+m=its.length->(∀j,j<its.length->on L j=decide (j<i))->Inv ops its bl a0 w0 k0 X (ad ks) L a w->wpOps P ops Q (List.range' i m) a w:=by
  intro m;induction m with
  | zero =>
   intro i L a w s c d;exact d.done R p.len o (λj b=>by rw[c j b];simp;omega) l k f
  | succ m ih =>
   intro i L a w s c d;rw[List.range'_succ,wpOps_cons];have ho:ops[i]? = some (ops[i]'(by rw[R.size];omega)):=U0 _;refine wpOp_mono (λt w' g=>ih (i+1) _ t w' oM (λj b=>?_) g) (R.step ho (by rw[c i oM];simp) (λe r u=>?_) d)
   ·rw[eC (by rw[d.size];omega),c j b];by_cases q:j<i
    ·simp[q];omega
    ·by_cases f:i=j
     ·subst f;simp
     ·have:¬j<i+1:=oM;simp[q,f,this]
   ·have f:=(R.back ho).2 e r u;rw[c e.on oM];simpa using f
 refine wp_region ?_;rw[List.range_eq_range',R.size];refine key its.length 0 (UJ its.length false) a0 w oM (λj b=>?_) (zJ p o n);unfold on;rw[UI,Yg,yCj b];simp
end RG
namespace RG
variable {P:VD}{Q:Yo->Act->Ur->Prop}{its:List It}{bl:List Bl}{olds:List (WC × SV)}{ops:Array Vk}{i:Nat}{o:Vk}{it:It}{w0:Ur}{k0:Nat}{X:List Nat}
theorem dY(d:it.kind=.stay)(k:∀(μ:Nat->Nat) (a:Act) (w:Ur),Known ops i its olds it.need μ a->BelX k0 X w0 w->(U5 a.eval o).run P w=.ok (.value (it.out.at μ)) w):Cert P Q w0 k0 X ops i its bl olds o it:=by
 intro μ a w K c _ b;rw[d];intro h;unfold VT;rw[k μ a w c b];exact h
theorem oI(s:it.kind=.stay)(b off:Nat)(e:Bl)(x:bl[b]? = some e)(g:e.al=none)(n:readB ops i e=true)(T:U8)(t:WC)(ho:o.op=.load T (.tmp t))(cs:List Ut)(c:it.out=.v (.agg cs.toArray))
 (hx:∀(μ:Nat->Nat) (a:Act),Known ops i its olds it.need μ a->a.eval (.tmp t)=(SV.p b off).at μ) (k:(e.before.drop off).take cs.length=cs)
 (m:(P.underlying T).map (·.isRow)=some true) (u:(P.info? T).map (·.size)=some cs.length):Cert P Q w0 k0 X ops i its bl olds o it:=by
 intro μ a w K r hR _;rw[s];intro h;rw[c]at h;obtain⟨d,m,hd⟩:=Uy.1 m;refine wp_load_mid T (.tmp t) ho (μ b) off (hx μ a r) cs d (λj v f=>?_) m hd u h;have q:=hR b e x (U4 g) n (off+j) v ?_
 ·rw[UD]at q;exact q
 ·rw[<-k]at f;have l:j<cs.length:=by
   have p:=(UF.1 f).1;rw[k]at p;exact p
  rw[WA,yCj l,Zp]at f;exact f
theorem tC(j:it.kind=.call)(f:Xq)(args:Array Ut)(v:Ut)(c:it.out=.v v)(b:∀(μ:Nat->Nat) (a:Act) (w:Ur),Known ops i its olds it.need μ a->BelX k0 X w0 w->(U5 a.eval o).run P w=.ok (.enter f args) w)
 (d:∀w,BelX k0 X w0 w->UH P f args w (rZ w λe w'=>e=v)):Cert P Q w0 k0 X ops i its bl olds o it:=by
 intro μ a w K g _ k;rw[j];intro h;rw[c]at h;unfold VT;rw[b μ a w g k,WY];refine(d w k).mono ?_;rintro e w' ⟨m,rfl,l,rfl⟩;exact h w' l
theorem Ah(b:Nat)(j:it.kind=.make b)(e:Bl)(g:bl[b]? = some e)(t:U8)(c:∀(μ:Nat->Nat) (a:Act) (w:Ur),Known ops i its olds it.need μ a->BelX k0 X w0 w->(U5 a.eval o).run P w=.ok (.value (it.out.at (upd μ b w.heap.size))) (w.alloc (.cells e.before.toArray t))):Cert P Q w0 k0 X ops i its bl olds o it:=by
 intro μ a w K f _ d;rw[j];intro e' k h;rw[g]at k;obtain rfl:e=e':=UO.inj k;unfold VT;rw[c μ a w f d];exact h _ _ (Made.alloc w e.before t)
theorem JU(b:Nat)(m:it.kind=.put b)(e:Bl)(q:bl[b]? = some e)(T:U8)(x y:XG)(ho:o.op=.store T x y)(f:o.dst=none)(k:e.after.length=e.before.length)
 (hx:∀(μ:Nat->Nat) (a:Act),Known ops i its olds it.need μ a->a.eval x=(SV.p b 0).at μ) (l:∀(μ:Nat->Nat) (a:Act),Known ops i its olds it.need μ a->a.eval y=.agg e.after.toArray)
 (n:(P.info? T).map (·.size)=some e.after.length) (p:e.after.all (·.oneCell')=true):Cert P Q w0 k0 X ops i its bl olds o it:=by
 intro μ a w K g _ _;rw[m];intro e' c j r h;rw[q]at c;obtain rfl:e=e':=UO.inj c;have d:=PutTo.whole j r k;refine wp_store_mid T x y ho (μ b) 0 e.after.toArray (hx μ a g) (l μ a g) ?_ ?_ ?_ ?_
 ·rw[VC,k];exact j
 ·rw[VC];exact n
 ·exact all_oneCell_toArray (λv hv=>Va.1 p v hv)
 ·have:=h _ d;rw[f]at this⊢;exact this
theorem Known.op{k:List (WC × Nat)}{μ:Nat->Nat}{a:Act}(h:Known ops i its olds k μ a)(t:WC)(j:Nat)(c:(t,j)∈k){b:It}(d:its[j]? = some b):a.eval (.tmp t)=b.out.at μ:=h.1 t j b c d
theorem Known.old{k:List (WC × Nat)}{μ:Nat->Nat}{a:Act}(h:Known ops i its olds k μ a)(t:WC)(s:SV)(b:(t,s)∈olds)(hf:Fo ops its i t=true):a.eval (.tmp t)=s.at μ:=h.2 t s b hf
theorem len1{l:List Nat}(h:l.length=1):∃k,l=[k]:=List.length_eq_one_iff.1 h
theorem len2{l:List Nat}(h:l.length=2):∃k j,l=[k,j]:=by
 match l,h with
 | [k,j],_=>exact⟨k,j,rfl⟩
end RG
namespace RG
variable {P:VD}{ops:Array Vk}{Q:Yo->Act->Ur->Prop}{w0 w:Ur}{k0:Nat}{X:List Nat}{its:List It}{bl:List Bl}{olds:List (WC × SV)}{a0:Act}{L:Array Bool}{μ μ0:Nat->Nat}{i:Nat}{o:Vk}{it:It}
def Certs(P:VD)(Q:Yo->Act->Ur->Prop)(c:Ur)(d:Nat)(X:List Nat)(k:Array Vk)(b:List It)(e:List Bl)(olds:List (WC × SV)):Nat->List Vk->List It->Prop
 | _,[],_=>True
 | _,_ :: _,[]=>False
 | i,o :: os,it :: is=>Cert P Q c d X k i b e olds o it/\Certs P Q c d X k b e olds (i+1) os is
theorem Certs.get:∀ {b:List Vk}{k:List It}{n:Nat},Certs P Q w0 k0 X ops its bl olds n b k->∀(i:Nat) (o:Vk) (it:It),b[i]? = some o->k[i]? = some it->Cert P Q w0 k0 X ops (n+i) its bl olds o it
 | [],_,_,_,i,_,_,h,_=>by simp at h
 | _ :: _,[],_,h,_,_,_,_,_=>h.elim
 | o :: b,it :: k,_,h,0,o',it',ho,hi=>by
  obtain rfl:o=o':=by simpa using ho
  obtain rfl:it=it':=by simpa using hi
  exact h.1
 | o :: b,it :: k,n,h,i+1,o',it',ho,hi=>by
  have:=Certs.get h.2 i o' it' (by simpa using ho) (by simpa using hi);rw[show n+(i+1)=n+1+i by omega];exact this
def Olds(a0:Act)(k:Nat->Nat):List (WC × SV)->Prop
 | []=>True
 | x :: r=>a0.tmps[x.1]? = some (x.2.at k)/\Olds a0 k r
theorem Olds.get:∀ {l:List (WC × SV)},Olds a0 μ0 l->∀(t:WC) (s:SV),(t,s)∈l->a0.tmps[t]? = some (s.at μ0)
 | [],_,_,_,h=>by cases h
 | x :: r,h,t,s,hm=>by
  rcases VX.1 hm with e|e
  ·subst e;exact h.1
  ·exact Olds.get h.2 t s e
theorem Reg.mk'(chk:allB ops its bl olds a0.tmps.size=true)(old:Olds a0 μ0 olds)(k:Certs P Q w0 k0 X ops its bl olds 0 ops.toList its):Reg P ops Q w0 k0 X its bl olds a0 μ0:=
 ⟨chk,λt s b=>old.get t s b,λi o it ho c=>by have:=k.get i o it (by rw[Vq];exact ho) c;rwa[UD]at this⟩
theorem yL(j:it.kind=.call)(f:Xq)(t1:WC)(v1 v:Ut)(k:it.out=.v v)(b:∀(a:Act) (w:Ur),(U5 a.eval o).run P w=.ok (.enter f #[a.eval (.tmp t1)]) w)
 (g:∀(μ:Nat->Nat) (a:Act),Known ops i its olds it.need μ a->a.eval (.tmp t1)=v1) (c:∀w,UH P f #[v1] w (rZ w λe w'=>e=v)):Cert P Q w0 k0 X ops i its bl olds o it:=
 tC j f #[v1] v k (λμ a w d _=>by rw[b,g μ a d]) (λw _=>c w)
theorem Ng{b k:Nat}(c:it.out=.p b 0):it.out.at (upd μ b k)=jZ k:=by
 rw[c];show yBt (some ⟨upd μ b k b,0,none⟩)=_;unfold upd;rw[yCj rfl]
theorem qH(b:Nat)(f:it.kind=.make b)(k:it.out=.p b 0)(e:Bl)(d:bl[b]? = some e)(T:U8)(ho:o.op=.alloc T)(c:∀w:Ur,(yBG T true (.tuple #[])).run P w=.ok (jZ w.heap.size) (w.alloc (.cells e.before.toArray T))):Cert P Q w0 k0 X ops i its bl olds o it:=by
 refine Ah b f e d T λμ a w g _=>?_
 unfold U5;rw[ho];rw[Ng k];show((yBG T true (.tuple #[])) >>= λv=>pure (Xp v)).run P w=_;rw[UV,c];rfl
theorem aI{e:Func}{a:Act}{cs:List (List Ut)}{ks:List Nat}(m:St w0 k0 X cs ks w)(t:WC)(T:U8)(l:e.results=#[.cell t T])(b:Nat)(c:List Ut)(f:cs[b]? = some c)(j:a.tmps[t]? = some (.pointer (some ⟨ad ks b,0,none⟩)))
 (k:(P.underlying T).map (·.isRow)=some true) (n:(P.info? T).map (·.size)=some c.length):(results e a.tmps).run P w=.ok (.agg c.toArray) w:=by
 obtain⟨d,k,hd⟩:=Uy.1 k;have g:=Ye (P:=P) w (ad ks b) 0 T c d (m.has b c f).1 k hd n;have i:a.tmps.getD t WP=.pointer (some ⟨ad ks b,0,none⟩):=by rw[UI,j];rfl
 unfold results;rw[l];simp only[XA,YP,YZ,i,asAddr];simp[UV,g]
theorem St.begin(w:Ur):St w w.heap.size [] [] [] w:=⟨BelX.refl _ _ _,Uw _,rfl,λb c h=>by simp at h,λb c h=>by simp at h⟩
end RG
namespace RG
variable {P:VD}{ops:Array Vk}{Q:Yo->Act->Ur->Prop}{w0 w:Ur}{k0:Nat}{X:List Nat}{its:List It}{bl:List Bl}{olds:List (WC × SV)}{a0:Act}{i:Nat}{o:Vk}{it:It}
theorem dD(k:it.kind=.pass)(h:it.out=.v WP):Cert P Q w0 k0 X ops i its bl olds o it:=by
 intro μ a w K _ _ _;rw[k];exact h
theorem aQ(d:it.kind=.stay)(op:BinOp)(T c:U8)(t1 t2:WC)(v1 v2 v:Ut)(ho:o.op=.binOp op T (.tmp t1) (.tmp t2) c)(k:it.out=.v v)
 (g:∀(μ:Nat->Nat) (a:Act),Known ops i its olds it.need μ a->a.eval (.tmp t1)=v1) (f:∀(μ:Nat->Nat) (a:Act),Known ops i its olds it.need μ a->a.eval (.tmp t2)=v2)
 (e:∀w,(eqGuard op T (.tmp t1) (.tmp t2) v1 v2).run P w=.ok () w) (j:∀w,(binOp op T v1 v2).run P w=.ok v w):Cert P Q w0 k0 X ops i its bl olds o it:=by
 refine dY d λμ a w b _=>?_
 unfold U5;rw[ho,k];dsimp only;rw[g μ a b,f μ a b,UV,UV,e];dsimp only[ZT];rw[j];rfl
theorem jA{k:Func}{a:Act}(t:WC)(d:k.results=#[.tmp t])(v:Ut)(c:a.tmps[t]? = some v):(results k a.tmps).run P w=.ok v w:=by
 have b:a.tmps.getD t WP=v:=by rw[UI,c];rfl
 unfold results;rw[d];simp only[XA,YP,YZ,b];simp[UV]
theorem cQ{f:Func}{a:Act}{cs:List (List Ut)}{ks:List Nat}(m:St w0 k0 X cs ks w)(t u:WC)(T:U8)(p:f.results=#[.cell t T,.tmp u])(b:Nat)(c:List Ut)(g:cs[b]? = some c)(j:a.tmps[t]? = some (.pointer (some ⟨ad ks b,0,none⟩)))(v:Ut)(e:a.tmps[u]? = some v)
 (k:(P.underlying T).map (·.isRow)=some true) (l:(P.info? T).map (·.size)=some c.length):(results f a.tmps).run P w=.ok (.tuple #[.agg c.toArray,v]) w:=by
 obtain⟨d,k,hd⟩:=Uy.1 k;have o:=Ye (P:=P) w (ad ks b) 0 T c d (m.has b c g).1 k hd l;have n:a.tmps.getD t WP=.pointer (some ⟨ad ks b,0,none⟩):=by rw[UI,j];rfl
 have i:a.tmps.getD u WP=v:=by rw[UI,e];rfl
 unfold results;rw[p];simp only[XA,YP,YZ,n,i,asAddr];simp[UV,o]
end RG
namespace RG
variable {P:VD}{ops:Array Vk}{Q:Yo->Act->Ur->Prop}{w0 w:Ur}{k0:Nat}{X:List Nat}{its:List It}{bl:List Bl}{olds:List (WC × SV)}{a0 a:Act}{i:Nat}{o:Vk}{it:It}{μ:Nat->Nat}
structure Sl(a:Act)(n:Nat):Prop where
 size:a.tmps.size=n
 defers:a.defers=[]
theorem Sl.puts{n:Nat}(h:Sl a n):Sl (puts μ its a) n:=⟨by rw[zN];exact h.size,by rw[nE];exact h.defers⟩
theorem A7{t:WC}{v:Ut}(h:a.tmps[t]? = some v):a.eval (.tmp t)=v:=by
 show a.tmps.getD t WP=v;rw[UI,h];rfl
theorem results_none{k:Func}{tmps:Array Ut}(b:k.results=#[]):(results k tmps).run P w=.ok (.tuple #[]) w:=by
 unfold results;rw[b];simp
theorem Hx{c:Code}{v0:Ut}{n:Nat}(k:a.tmps[0]? = some v0)(b:a.tmps.size=n)(hd:a.defers=[])(h:∀a,Sl a n->a.tmps[0]? = some v0->c.wp P Q a w):c.wp P Q a w:=h a ⟨b,hd⟩ k
theorem Ot{c:Code}{v0 v1:Ut}{n:Nat}(k:a.tmps[0]? = some v0)(d:a.tmps[1]? = some v1)(b:a.tmps.size=n)(hd:a.defers=[])(h:∀a,Sl a n->a.tmps[0]? = some v0->a.tmps[1]? = some v1->c.wp P Q a w):c.wp P Q a w:=h a ⟨b,hd⟩ k d
theorem Tb{c:Code}{v0 v1 v2:Ut}{n:Nat}(k:a.tmps[0]? = some v0)(e:a.tmps[1]? = some v1)(b:a.tmps[2]? = some v2)(d:a.tmps.size=n)(hd:a.defers=[])(h:∀a,Sl a n->a.tmps[0]? = some v0->a.tmps[1]? = some v1->a.tmps[2]? = some v2->c.wp P Q a w):c.wp P Q a w:=h a ⟨d,hd⟩ k e b
theorem mJ(b:Nat)(f:it.kind=.make b)(e:Bl)(m:bl[b]? = some e)(T E:U8)(t1 t2:WC)(n:Nat)(k:it.out=.s b n n)(ho:o.op=.makeSlice T (.tmp t1) (.tmp t2))
 (l:∀(μ:Nat->Nat) (a:Act),Known ops i its olds it.need μ a->a.eval (.tmp t1)=iZ n) (j:∀(μ:Nat->Nat) (a:Act),Known ops i its olds it.need μ a->a.eval (.tmp t2)=iZ n)
 (d:∀w:Ur,(Instr.makeSlice T (iZ n) (iZ n)).run P w=.ok (sZ w.heap.size n n) (w.alloc (.cells e.before.toArray E))):Cert P Q w0 k0 X ops i its bl olds o it:=by
 refine Ah b f e m E λμ a w c _=>?_
 have g:it.out.at (upd μ b w.heap.size)=sZ w.heap.size n n:=by
  rw[k];show Vw (some ⟨upd μ b w.heap.size b,0,none⟩) n n=_;unfold upd;rw[yCj rfl]
 unfold U5;rw[ho];dsimp only;rw[l μ a c,j μ a c,g,UV,d];rfl
theorem fQ(d:it.kind=.stay)(t:WC)(s:SV)(v:Ut)(k:it.out=.v v)(hx:∀(μ:Nat->Nat) (a:Act),Known ops i its olds it.need μ a->a.eval (.tmp t)=s.at μ)
 (hE:∀(a:Act) (w:Ur),(U5 a.eval o).run P w=(U5 (λ_=>a.eval (.tmp t)) o).run P w) (c:∀(μ:Nat->Nat) (w:Ur),(U5 (λ_=>s.at μ) o).run P w=.ok (.value v) w):Cert P Q w0 k0 X ops i its bl olds o it:=by
 refine dY d λμ a w b _=>?_
 rw[hE,hx μ a b,c,k];rfl
theorem D6(q:it.kind=.call)(b:Nat)(e:Bl)(y:bl[b]? = some e)(g:e.al=none)(l:readB ops i e=true)(s:e.before≠[])(f:Xq)(args:(Nat->Nat)->Array Ut)(v:Ut)(c:it.out=.v v)(k:∀(μ:Nat->Nat) (a:Act) (w:Ur),Known ops i its olds it.need μ a->(U5 a.eval o).run P w=.ok (.enter f (args μ)) w)
 (n:∀(μ:Nat->Nat) (w:Ur),μ b<w.heap.size->w.rangeAt (μ b) 0 e.before->UH P f (args μ) w (rZ w λr w'=>r=v)):Cert P Q w0 k0 X ops i its bl olds o it:=by
 intro μ a w K p hR _;rw[q];intro h;rw[c]at h;have m:=hR b e y (U4 g) l;have j:μ b<w.heap.size:=by
  cases d:e.before with
  | nil=>exact absurd d s
  | cons x r =>
   have u:=m 0 x (by rw[d];rfl);exact Wt λz=>by
    have t:w.heap[μ b]? = none:=WN oM;simp[VY,t]at u
 unfold VT;rw[k μ a w p,WY];refine(n μ w j m).mono ?_;rintro r w' ⟨t,rfl,d,rfl⟩;exact h w' d
theorem rV{k o:Nat}{C cs:List Ut}(h:w.rangeAt k 0 C)(b:∀j,j<cs.length->C[o+j]? = cs[j]?):w.rangeAt k o cs:=λj v hv=>by
 have c:=(UF.1 hv).1;have:=h (o+j) v (by rw[b j c];exact hv);rwa[UD]at this
theorem bD(c:it.kind=.stay)(T:U8)(t u:WC)(ho:o.op=.indexAddr T (.tmp t) (.tmp u))(s:SV)(iv:Ut)(hx:∀(μ:Nat->Nat) (a:Act),Known ops i its olds it.need μ a->a.eval (.tmp t)=s.at μ)(b:∀(μ:Nat->Nat) (a:Act),Known ops i its olds it.need μ a->a.eval (.tmp u)=iv)
 (hf:∀(μ:Nat->Nat) (w:Ur),(Vl T (s.at μ) iv).run P w=.ok (it.out.at μ) w):Cert P Q w0 k0 X ops i its bl olds o it:=by
 refine dY c λμ a w k _=>?_
 unfold U5;rw[ho];dsimp only;rw[hx μ a k,b μ a k,UV,hf];rfl
theorem eM(b:it.kind=.stay)(T:U8)(t:WC)(iv:Ut)(ho:o.op=.indexAddr T (.tmp t) (.const iv))(s:SV)(hx:∀(μ:Nat->Nat) (a:Act),Known ops i its olds it.need μ a->a.eval (.tmp t)=s.at μ)
 (hf:∀(μ:Nat->Nat) (w:Ur),(Vl T (s.at μ) iv).run P w=.ok (it.out.at μ) w):Cert P Q w0 k0 X ops i its bl olds o it:=by
 refine dY b λμ a w k _=>?_
 unfold U5;rw[ho];dsimp only;rw[hx μ a k];show((Vl T (s.at μ) iv) >>= λv=>pure (Xp v)).run P w=_;rw[UV,hf];rfl
theorem aP(g:it.kind=.stay)(op:BinOp)(T b:U8)(t1:WC)(v1 v2 v:Ut)(ho:o.op=.binOp op T (.tmp t1) (.const v2) b)(k:it.out=.v v)
 (e:∀(μ:Nat->Nat) (a:Act),Known ops i its olds it.need μ a->a.eval (.tmp t1)=v1)
 (d:∀w,(eqGuard op T (.tmp t1) (.const v2) v1 v2).run P w=.ok () w) (f:∀w,(binOp op T v1 v2).run P w=.ok v w):Cert P Q w0 k0 X ops i its bl olds o it:=by
 refine dY g λμ a w c _=>?_
 unfold U5;rw[ho,k];dsimp only;rw[e μ a c];show(((eqGuard op T (.tmp t1) (.const v2) v1 v2) >>= λ_=>binOp op T v1 v2) >>= λv=>pure (Xp v)).run P w=_;rw[UV,UV,d];dsimp only[ZT];rw[f];rfl
theorem GV(e:it.kind=.stay)(S T:U8)(t:WC)(v b:Ut)(ho:o.op=.convert S T (.tmp t))(k:it.out=.v b)(hx:∀(μ:Nat->Nat) (a:Act),Known ops i its olds it.need μ a->a.eval (.tmp t)=v)(c:∀w,(convert S T v).run P w=.ok b w):Cert P Q w0 k0 X ops i its bl olds o it:=by
 refine dY e λμ a w d _=>?_
 unfold U5;rw[ho,k];dsimp only;rw[hx μ a d,UV,c];rfl
theorem MY(e:it.kind=.stay)(op:UnOp)(T:U8)(t:WC)(v b:Ut)(ho:o.op=.unOp op T (.tmp t))(k:it.out=.v b)(hx:∀(μ:Nat->Nat) (a:Act),Known ops i its olds it.need μ a->a.eval (.tmp t)=v)(c:∀w,(Op.unary op v).run P w=.ok b w):Cert P Q w0 k0 X ops i its bl olds o it:=by
 refine dY e λμ a w d _=>?_
 unfold U5;rw[ho,k];dsimp only;rw[hx μ a d,UV,c];rfl
theorem eH(m:it.kind=.stay)(k off:Nat)(c:k<k0)(g:k ∉ X)(T:U8)(t:WC)(ho:o.op=.load T (.tmp t))(cs:List Ut)(b:it.out=.v (.agg cs.toArray))
 (hx:∀(μ:Nat->Nat) (a:Act),Known ops i its olds it.need μ a->a.eval (.tmp t)=oZ k off) (p:w0.rangeAt k off cs)
 (e:(P.underlying T).map (·.isRow)=some true) (n:(P.info? T).map (·.size)=some cs.length):Cert P Q w0 k0 X ops i its bl olds o it:=by
 intro μ a w K f _ q;rw[m];intro h;rw[b]at h;obtain⟨d,e,hd⟩:=Uy.1 e;refine wp_load_mid T (.tmp t) ho k off (hx μ a f) cs d (λj v l=>?_) e hd n h;rw[UW (w:=w0) (a:=⟨k,off+j,none⟩) (q.block k c g)];exact p j v l
theorem fD{T:U8}{k off:Nat}{v:Ut}(e:w.cell? ⟨k,off,none⟩=some v)(c:(P.underlying T).map (·.isRow)=some false):(ZB T (oZ k off)).run P w=.ok v w:=by
 obtain⟨d,c,hd⟩:=Uy.1 c;have b:(isAgg T).run P w=.ok false w:=by
  unfold isAgg;rw[UV,run_underlying c w];cases d<;>simp_all
 simp[ZB,X4,loadVar,UV,b,e]
theorem yK(l:it.kind=.stay)(b off:Nat)(e:Bl)(n:bl[b]? = some e)(d:e.al=none)(f:readB ops i e=true)(T:U8)(t:WC)(ho:o.op=.load T (.tmp t))(v:Ut)(k:it.out=.v v)
 (hx:∀(μ:Nat->Nat) (a:Act),Known ops i its olds it.need μ a->a.eval (.tmp t)=(SV.p b off).at μ) (c:e.before[off]? = some v)
 (m:(P.underlying T).map (·.isRow)=some false):Cert P Q w0 k0 X ops i its bl olds o it:=by
 intro μ a w K j hR _;rw[l];intro h;rw[k]at h;have g:=hR b e n (U4 d) f off v c;rw[UD]at g;unfold VT U5;rw[ho];dsimp only;rw[hx μ a j];show o.upon P a K Q (((ZB T (.pointer (some ⟨μ b,off,none⟩))) >>= λv=>pure (Xp v)).run P w);rw[UV,fD g m];exact h
theorem wL{T:U8}{k off:Nat}{v u:Ut}(e:w.cell? ⟨k,off,none⟩=some u)(hf:w.frozen? ⟨k,off,none⟩=false)(g:v.oneCell'=true)(hv:v.cells=#[v])(d:(P.info? T).map (·.size)=some 1):(Yw T (oZ k off) v).run P w=.ok () (w.setCells k off [v]):=by
 have:=run_storeCells_cells (P:=P) k off [v] 0 w (λj b=>by
  obtain rfl:j=0:=by simpa using b
  simp[e]) (λj b=>by
  obtain rfl:j=0:=by simpa using b
  simpa using hf) (λx hx=>by
  obtain rfl:x=v:=by simpa using hx
  exact g)
 cases c:P.info? T with
 | none=>simp[c]at d
 | some inf =>
  have f:inf.size=1:=by simp[c]at d;omega
  simp only[XB]at this;simp[Yw,X4,storeVar,sizeOf,typeInfo,c,hv,f,this]
theorem GU(b off:Nat)(q:it.kind=.put b)(e:Bl)(t:bl[b]? = some e)(T:U8)(x y:XG)(v:Ut)(ho:o.op=.store T x y)(d:o.dst=none)
 (hx:∀(μ:Nat->Nat) (a:Act),Known ops i its olds it.need μ a->a.eval x=(SV.p b off).at μ) (p:∀(μ:Nat->Nat) (a:Act),Known ops i its olds it.need μ a->a.eval y=v) (k:off<e.before.length) (c:e.after=e.before.set off v)
 (r:(P.info? T).map (·.size)=some 1) (s:v.oneCell'=true) (hv:v.cells=#[v]):Cert P Q w0 k0 X ops i its bl olds o it:=by
 intro μ a w K l _ _;rw[q];intro e' f n z h;rw[t]at f;obtain rfl:e=e':=UO.inj f;have g:PutTo (μ b) e.before.length e.after w (w.setCells (μ b) off [v]):=PutTo.store n z (by simp only[Vj,WG];omega) (λj=>by
  rw[c,List.getElem?_set];by_cases m:off=j
  ·subst m;rw[yCj rfl,yCj k,yCj (by simp)];simp
  ·rw[yCk m,yCk (by simp only[Vj,WG];omega)])
 have c:=n off k;rw[UD]at c;obtain⟨u,m⟩:=Vr.1 c.1;unfold VT U5;rw[ho];dsimp only;rw[hx μ a l,p μ a l];show o.upon P a K Q (((Yw T (.pointer (some ⟨μ b,off,none⟩)) v) >>= λ_=>pure Next.skip).run P w);rw[UV,wL m c.2 s hv r];have:=h _ g;rw[d]at this;show K (a.put o.dst WP) _;rw[d];exact this
theorem eZ(b off:Nat)(q:it.kind=.put b)(e:Bl)(t:bl[b]? = some e)(T:U8)(x y:XG)(vs:List Ut)(ho:o.op=.store T x y)(g:o.dst=none)
 (hx:∀(μ:Nat->Nat) (a:Act),Known ops i its olds it.need μ a->a.eval x=(SV.p b off).at μ) (n:∀(μ:Nat->Nat) (a:Act),Known ops i its olds it.need μ a->a.eval y=.agg vs.toArray) (d:off+vs.length<=e.before.length)
 (k:∀j,e.after[j]? = if off<=j/\j<off+vs.length then vs[j-off]? else e.before[j]?)
 (r:(P.info? T).map (·.size)=some vs.length) (s:vs.all (·.oneCell')=true):Cert P Q w0 k0 X ops i its bl olds o it:=by
 intro μ a w K l _ _;rw[q];intro e' c m u h;rw[t]at c;obtain rfl:e=e':=UO.inj c;have f:=PutTo.store m u d k;refine wp_store_mid T x y ho (μ b) off vs.toArray (hx μ a l) (n μ a l) ?_ ?_ ?_ ?_
 ·intro j p;have:=m (off+j) (by rw[VC]at p;omega);rwa[UD]at this
 ·rw[VC];exact r
 ·exact all_oneCell_toArray (λv hv=>Va.1 s v hv)
 ·have:=h _ f;rw[g]at this⊢;exact this
theorem Bh(b:Nat)(m:it.kind=.put b)(e:Bl)(s:bl[b]? = some e)(f:Xq)(args:(Nat->Nat)->Array Ut)(v:Ut)(g:it.out=.v v)(c:∀(μ:Nat->Nat) (a:Act) (w:Ur),Known ops i its olds it.need μ a->BelX k0 X w0 w->(U5 a.eval o).run P w=.ok (.enter f (args μ)) w)
 (j:∀(μ:Nat->Nat) (w:Ur),BelX k0 X w0 w->w.there (μ b) 0 e.before.length->w.rangeAt (μ b) 0 e.before->UH P f (args μ) w (Ret λr w'=>PutTo (μ b) e.before.length e.after w w'/\r=v)):Cert P Q w0 k0 X ops i its bl olds o it:=by
 intro μ a w K l _ k;rw[m];intro e' d n q h;rw[s]at d;obtain rfl:e=e':=UO.inj d;rw[g]at h;unfold VT;rw[c μ a w l k,WY];refine(j μ w k n q).mono ?_;rintro r w' ⟨t,rfl,p,rfl⟩;exact h w' p
theorem St.lent{k:Nat}{C:List Ut}(j:k<w.heap.size)(g:w.rangeAt k 0 C)(f:w.there k 0 C.length):St w w.heap.size [k] [C] [k] w:=by
 refine⟨BelX.refl _ _ _,Uw _,rfl,λb c h=>?_,λb c i d e=>?_⟩
 ·cases b with
  | zero =>
   obtain rfl:C=c:=by simpa using h
   exact⟨g,f,j,UX Vu⟩
  | succ b=>simp at h
 ·simp only[Vj,WG]at i d;omega
theorem St.putTo{k:Nat}{C:List Ut}{cs:List (List Ut)}{ks:List Nat}{n:Nat}(h:St w0 w0.heap.size [k] (C :: cs) (k :: ks) w)(c:C.length=n):PutTo k n C w0 w:=by
 obtain⟨e,d,-,-⟩:=h.has 0 C rfl;refine⟨h.bel.os,h.bel.tape,h.bel.output,h.bel.size,λj f b=>h.bel.block j f (by simpa using b),e,?_⟩;rw[<-c];exact d
def rep(C:List Ut)(o:Nat)(vs:List Ut):List Ut:=C.take o++(vs++C.drop (o+vs.length))
theorem cU{C vs:List Ut}{o:Nat}(h:o+vs.length<=C.length):(rep C o vs).length=C.length:=by
 unfold rep;rw[UA,UA,WF,ZI];omega
theorem rep_at{C vs:List Ut}{o:Nat}(h:o+vs.length<=C.length)(j:Nat):(rep C o vs)[j]? = if o<=j/\j<o+vs.length then vs[j-o]? else C[j]?:=by
 unfold rep;have k:(C.take o).length=o:=by rw[WF];omega
 by_cases b:j<o
 ·rw[UT (by rw[k];exact b),WA,yCj b,yCk oM]
 ·rw[U1 (by rw[k];omega),k];by_cases c:j<o+vs.length
  ·rw[UT oM,yCj ⟨oM,c⟩]
  ·rw[U1 oM,yCk oM,Zp]
   congr 1
   omega
theorem Oz{C cs:List Ut}{o:Nat}(h:∀j,j<cs.length->C[o+j]? = cs[j]?)(b:o+cs.length<=C.length):(C.drop o).take cs.length=cs:=by
 apply List.ext_getElem?;intro j;by_cases k:j<cs.length
 ·rw[WA,yCj k,Zp,h j k]
 ·rw[Wx (by rw[WF,ZI];omega),Wx oM]
theorem yZ(b:Nat)(n:it.kind=.put b)(e:Bl)(u:bl[b]? = some e)(f:Xq)(t1 t2 j:WC)(s1:SV)(v2 g v:Ut)(c:it.out=.v v)(k:∀(a:Act) (w:Ur),(U5 a.eval o).run P w=.ok (.enter f #[a.eval (.tmp t1),a.eval (.tmp t2),a.eval (.tmp j)]) w)
 (s:∀(μ:Nat->Nat) (a:Act),Known ops i its olds it.need μ a->a.eval (.tmp t1)=s1.at μ) (q:∀(μ:Nat->Nat) (a:Act),Known ops i its olds it.need μ a->a.eval (.tmp t2)=v2) (l:∀(μ:Nat->Nat) (a:Act),Known ops i its olds it.need μ a->a.eval (.tmp j)=g)
 (m:∀(μ:Nat->Nat) (w:Ur),w.there (μ b) 0 e.before.length->w.rangeAt (μ b) 0 e.before->UH P f #[s1.at μ,v2,g] w (Ret λr w'=>PutTo (μ b) e.before.length e.after w w'/\r=v)):Cert P Q w0 k0 X ops i its bl olds o it:=
 Bh b n e u f (λμ=>#[s1.at μ,v2,g]) v c (λμ a w d _=>by rw[k,s μ a d,q μ a d,l μ a d]) (λμ w _ p t=>m μ w p t)
theorem CE(m:it.kind=.call)(b:Nat)(e:Bl)(s:bl[b]? = some e)(d:e.al=none)(g:readB ops i e=true)(n:e.before≠[])(f:Xq)(t1 t2:WC)(s1:SV)(v2 v:Ut)(c:it.out=.v v)(k:∀(a:Act) (w:Ur),(U5 a.eval o).run P w=.ok (.enter f #[a.eval (.tmp t1),a.eval (.tmp t2)]) w)
 (q:∀(μ:Nat->Nat) (a:Act),Known ops i its olds it.need μ a->a.eval (.tmp t1)=s1.at μ) (p:∀(μ:Nat->Nat) (a:Act),Known ops i its olds it.need μ a->a.eval (.tmp t2)=v2)
 (l:∀(μ:Nat->Nat) (w:Ur),μ b<w.heap.size->w.rangeAt (μ b) 0 e.before->UH P f #[s1.at μ,v2] w (rZ w λr w'=>r=v)):Cert P Q w0 k0 X ops i its bl olds o it:=
 D6 m b e s d g n f (λμ=>#[s1.at μ,v2]) v c (λμ a w j=>by rw[k,q μ a j,p μ a j]) l
end RG
namespace RG
variable {P:VD}{ops:Array Vk}{Q:Yo->Act->Ur->Prop}{w0 w:Ur}{k0:Nat}{X:List Nat}{its:List It}{bl:List Bl}{olds:List (WC × SV)}{a:Act}{i:Nat}{o:Vk}{it:It}
theorem uF(e:it.kind=.stay)(T:U8)(t:WC)(b v c:Ut)(ho:o.op=.slice T (.tmp t) (some (.const b)) none none)(k:it.out=.v c)(hx:∀(μ:Nat->Nat) (a:Act),Known ops i its olds it.need μ a->a.eval (.tmp t)=v)
 (hf:∀w:Ur,(Xn T v (some b) none none).run P w=.ok c w):Cert P Q w0 k0 X ops i its bl olds o it:=by
 refine dY e λμ a w d _=>?_
 unfold U5;rw[ho,k];dsimp only;rw[hx μ a d];show((Xn T v (some b) none none) >>= λv=>pure (Xp v)).run P w=_;rw[UV,hf];rfl
theorem CC(d:it.kind=.stay)(T:U8)(t:WC)(v b:Ut)(ho:o.op=.sliceToArrayPointer T (.tmp t))(k:it.out=.v b)(hx:∀(μ:Nat->Nat) (a:Act),Known ops i its olds it.need μ a->a.eval (.tmp t)=v)
 (hf:∀w:Ur,(Instr.arrayAt T v).run P w=.ok b w):Cert P Q w0 k0 X ops i its bl olds o it:=by
 refine dY d λμ a w c _=>?_
 unfold U5;rw[ho,k];dsimp only;rw[hx μ a c,UV,hf];rfl
theorem bM(f:it.kind=.stay)(k off:Nat)(c:k<k0)(e:k ∉ X)(T:U8)(t:WC)(ho:o.op=.load T (.tmp t))(v:Ut)(b:it.out=.v v)
 (hx:∀(μ:Nat->Nat) (a:Act),Known ops i its olds it.need μ a->a.eval (.tmp t)=oZ k off) (l:w0.cell? ⟨k,off,none⟩=some v)
 (g:(P.underlying T).map (·.isRow)=some false):Cert P Q w0 k0 X ops i its bl olds o it:=by
 refine dY f λμ a w d m=>?_
 have j:w.cell? ⟨k,off,none⟩=some v:=by
  rw[UW (w:=w0) (a:=⟨k,off,none⟩) (m.block k c e)];exact l
 unfold U5;rw[ho,b];dsimp only;rw[hx μ a d,UV,fD j g];rfl
theorem kH(g:it.kind=.call)(f:Xq)(t1 t2:WC)(v1 v2 v:Ut)(b:it.out=.v v)(k:∀(a:Act) (w:Ur),(U5 a.eval o).run P w=.ok (.enter f #[a.eval (.tmp t1),a.eval (.tmp t2)]) w)
 (l:∀(μ:Nat->Nat) (a:Act),Known ops i its olds it.need μ a->a.eval (.tmp t1)=v1) (j:∀(μ:Nat->Nat) (a:Act),Known ops i its olds it.need μ a->a.eval (.tmp t2)=v2)
 (d:∀w,BelX k0 X w0 w->UH P f #[v1,v2] w (rZ w λe w'=>e=v)):Cert P Q w0 k0 X ops i its bl olds o it:=
 tC g f #[v1,v2] v b (λμ a w c _=>by rw[k,l μ a c,j μ a c]) d
theorem uG(j:it.kind=.call)(f:Xq)(t1:WC)(v1 v:Ut)(k:it.out=.v v)(b:∀(a:Act) (w:Ur),(U5 a.eval o).run P w=.ok (.enter f #[a.eval (.tmp t1)]) w)
 (g:∀(μ:Nat->Nat) (a:Act),Known ops i its olds it.need μ a->a.eval (.tmp t1)=v1)
 (c:∀w,BelX k0 X w0 w->UH P f #[v1] w (rZ w λe w'=>e=v)):Cert P Q w0 k0 X ops i its bl olds o it:=
 tC j f #[v1] v k (λμ a w d _=>by rw[b,g μ a d]) c
theorem St.init{cs:List (List Ut)}{c:List Ut}{ks:List Nat}{k:Nat}(h:St w0 k0 X (cs++[c]) (ks++[k]) w):St w0 k0 X cs ks w:=by
 have l:ks.length=cs.length:=by have:=h.len;simp only[UA,Vj,WG]at this;omega
 have d:∀b,b<cs.length->ad (ks++[k]) b=ad ks b:=λb f=>by
  unfold ad;rw[VQ,VQ,UT oM]
 refine⟨h.bel,h.le,l,λb g f=>?_,λb g f j i=>?_⟩
 ·have e:=(UF.1 f).1;have:=h.has b g (by rw[UT e];exact f);rwa[d b e]at this
 ·have:=h.inj b g (by rw[UA];omega) (by rw[UA];omega) i;rwa[d b f,d g j]at this
theorem fX{b:Func}{a:Act}(t u:WC)(g:b.results=#[.tmp t,.tmp u])(v k:Ut)(f:a.tmps[t]? = some v)(c:a.tmps[u]? = some k):(results b a.tmps).run P w=.ok (.tuple #[v,k]) w:=by
 have e:a.tmps.getD t WP=v:=by rw[UI,f];rfl
 have d:a.tmps.getD u WP=k:=by rw[UI,c];rfl
 unfold results;rw[g];simp only[XA,YP,YZ,e,d];simp[UV]
end RG
namespace RG
variable {P:VD}{ops:Array Vk}{Q:Yo->Act->Ur->Prop}{w0 w:Ur}{k0 n:Nat}{X:List Nat}{its:List It}{bl:List Bl}{os:List (WC × SV)}{a:Act}{i:Nat}{o:Vk}{it:It}{μ:Nat->Nat}{need:List (WC × Nat)}
def src(c:Array Vk)(b:List It)(d:List (WC × SV))(k:List (WC × Nat))(i:Nat)(t:WC):Option SV:=
 match k.find? (λx=>x.1 == t) with
 | some x=>(b[x.2]?).map (·.out)
 | none=>match d.find? (λx=>x.1 == t) with
  | some x=>bif Fo c b i t then some x.2 else none
  | none=>none
theorem mU{t:WC}{s:SV}(h:src ops its os need i t=some s)(K:Known ops i its os need μ a):a.eval (.tmp t)=s.at μ:=by
 unfold src at h;cases k:need.find? (λx=>x.1 == t) with
 | some x =>
  rw[k]at h;dsimp only at h;have c:=WO k;have b:x.1=t:=by simpa using Yd k
  obtain⟨e,d,rfl⟩:=Uy.1 h;exact K.op t x.2 (by rw[<-b];exact c) d
 | none =>
  rw[k]at h;dsimp only at h;cases ho:os.find? (λx=>x.1 == t) with
  | none=>rw[ho]at h;cases h
  | some x =>
   rw[ho]at h;dsimp only at h;have c:=WO ho;have b:x.1=t:=by simpa using Yd ho
   cases hf:Fo ops its i t with
   | false=>rw[hf]at h;cases h
   | true =>
    rw[hf]at h;obtain rfl:x.2=s:=UO.inj h;exact K.old t x.2 (by rw[<-b];exact c) hf
theorem sx{t:WC}{f:(Nat->Nat)->Ut}(h:∀μ:Nat->Nat,(src ops its os need i t).map (λs=>s.at μ)=some (f μ):=by intro _;kernel_rfl):∀(μ:Nat->Nat) (a:Act),Known ops i its os need μ a->a.eval (.tmp t)=f μ:=λμ _ K=>by
 obtain⟨s,k,b⟩:=Uy.1 (h μ);rw[mU k K];exact b
def ro(b:Array Vk)(c:List It)(d:List (WC × SV))(k:List (WC × Nat))(i:Nat)(μ:Nat->Nat):XG->Ut
 | .tmp t=>match src b c d k i t with|some s=>s.at μ|none=>WP
 | .const v=>v
 | .global g=>jZ g
 | .func f=>.func (.func f) #[] #[]
def seen(b:Array Vk)(c:List It)(d:List (WC × SV))(k:List (WC × Nat))(i:Nat)(o:Vk):Bool:=
 (match o.op with | .select _ _=>false|_=>true) && o.op.operands.all (λx=>match x with | .tmp t=>(src b c d k i t).isSome|_=>true)
theorem oD(h:seen ops its os need i o=true)(K:Known ops i its os need μ a):U5 a.eval o=U5 (ro ops its os need i μ) o:=by
 simp only[seen,UL]at h;refine execOp_congr o (λcs b d=>?_) (λx hx=>?_)
 ·rw[d]at h;exact absurd h.1 (by simp)
 ·have c:=WX.1 h.2 x hx;cases x with
  | tmp t =>
   dsimp only at c;obtain⟨s,k⟩:=Vr.1 c;rw[mU k K];show _=(match src ops its os need i t with|some s=>s.at μ|none=>WP);rw[k]
  | const v=>rfl
  | global g=>rfl
  | func f=>rfl
theorem st(h:∀(μ:Nat->Nat) (w:Ur),((seen ops its os it.need i o,it.kind),(U5 (ro ops its os it.need i μ) o).run P w)=((true,Kind.stay),.ok (.value (it.out.at μ)) w):=by intro _ _;kernel_rfl):Cert P Q w0 k0 X ops i its bl os o it:=by
 intro μ a w K d _ c;have k:=h μ w;simp only[V6.injEq]at k;rw[k.1.2];intro b;unfold VT;rw[oD k.1.1 d,k.2];exact b
theorem se{v c:Ut}(e:c=v)(h:∀(μ:Nat->Nat) (w:Ur),((seen ops its os it.need i o,it.kind,it.out),(U5 (ro ops its os it.need i μ) o).run P w)=((true,Kind.stay,SV.v v),.ok (.value c) w):=by intro _ _;kernel_rfl):Cert P Q w0 k0 X ops i its bl os o it:=by
 intro μ a w K f _ d;have k:=h μ w;simp only[V6.injEq]at k;rw[k.1.2.1];intro b;rw[k.1.2.2]at b;unfold VT;rw[oD k.1.1 f,k.2,e];exact b
theorem mk(b:Nat)(T:U8)(h:∀(μ:Nat->Nat) (w:Ur),((seen ops its os it.need i o,it.kind),(U5 (ro ops its os it.need i μ) o).run P w)=((true,Kind.make b),.ok (.value (it.out.at (upd μ b w.heap.size))) (w.alloc (.cells (((bl[b]?).map (·.before)).getD []).toArray T))):=by intro _ _;kernel_rfl):Cert P Q w0 k0 X ops i its bl os o it:=by
 intro μ a w K d _ c;have k:=h μ w;simp only[V6.injEq]at k;rw[k.1.2];intro e g f;unfold VT;rw[oD k.1.1 d,k.2,g];exact f _ _ (Made.alloc w e.before T)
theorem clB{f:Xq}{args:Array Ut}{v:Ut}(h:∀(μ:Nat->Nat) (w:Ur),((seen ops its os it.need i o,it.kind,it.out),(U5 (ro ops its os it.need i μ) o).run P w)=((true,Kind.call,SV.v v),.ok (.enter f args) w))
 (d:∀w,BelX k0 X w0 w->UH P f args w (rZ w λe w'=>e=v)):Cert P Q w0 k0 X ops i its bl os o it:=by
 intro μ a w K g _ k;have b:=h μ w;simp only[V6.injEq]at b;rw[b.1.2.1];intro c;rw[b.1.2.2]at c;unfold VT;rw[oD b.1.1 g,b.2,WY];refine(d w k).mono ?_;rintro e w' ⟨l,rfl,j,rfl⟩;exact c w' j
theorem cl{f:Xq}{args:Array Ut}{v:Ut}(k:∀w,UH P f args w (rZ w λe w'=>e=v))(h:∀(μ:Nat->Nat) (w:Ur),((seen ops its os it.need i o,it.kind,it.out),(U5 (ro ops its os it.need i μ) o).run P w)=((true,Kind.call,SV.v v),.ok (.enter f args) w):=by intro _ _;kernel_rfl):Cert P Q w0 k0 X ops i its bl os o it:=
 clB h (λw _=>k w)
theorem cm(b:Nat){f:Xq}{args:Array Ut}{c:List Ut}(m:∀w,BelX k0 X w0 w->UH P f args w (Ret λe w'=>∃k,Made w k c w'/\e=it.out.at (λ_=>k)))
 (h:∀(μ:Nat->Nat) (w:Ur),((seen ops its os it.need i o,it.kind,(bl[b]?).map (·.before),it.out.blk),(U5 (ro ops its os it.need i μ) o).run P w)=((true,Kind.make b,some c,some b),.ok (.enter f args) w)):Cert P Q w0 k0 X ops i its bl os o it:=by
 intro μ a w K n _ g;have l:=h μ w;simp only[V6.injEq]at l;obtain⟨⟨x,v,j,p⟩,t⟩:=l;rw[v];intro e y q;rw[y]at j;obtain rfl:e.before=c:=UO.inj j;unfold VT;rw[oD x n,t,WY];refine(m w g).mono ?_;rintro r w' ⟨B,rfl,k,u,rfl⟩;have s:it.out.at (upd μ b k)=it.out.at (λ_=>k):=SV.at_congr λz d=>by
  rw[p]at d;obtain rfl:=UO.inj d;unfold upd;rw[yCj rfl]
 have:=q k w' u;rw[s]at this;exact this
def Bj(k:Array Vk)(i:Nat)(o:Vk)(c:List Bl)(b:Nat):Bool:=match c[b]? with
 | some e=>(match e.al with|none=>true|some j=>dB o j) && readB k i e
 | none=>false
def Seen(c:List Bl)(k:List Nat)(μ:Nat->Nat)(w:Ur):Prop:=∀b∈k,∀e:Bl,c[b]? = some e->e.before≠[]->w.rangeAt (μ b) 0 e.before/\μ b<w.heap.size
theorem LJ{f:List Nat}(ho:ops[i]? = some o)(h:f.all (Bj ops i o bl)=true)(hR:Reads ops i bl μ w):Seen bl f μ w:=λb p e g d=>by
 have k:=Va.1 h b p;unfold Bj at k;rw[g]at k;dsimp only at k;rw[UL]at k;have l:=hR b e g (by
  cases c:e.al with
  | none=>exact U4 rfl
  | some j=>rw[c]at k;exact UX ⟨o,j,ho,rfl,k.1⟩) k.2
 refine⟨l,?_⟩;cases c:e.before with
 | nil=>exact absurd c d
 | cons x r =>
  have n:=l 0 x (by rw[c];rfl);exact Wt λq=>by
   have m:w.heap[μ b]? = none:=WN oM;simp[VY,m]at n
theorem cr(c:List Nat){f:Xq}{args:(Nat->Nat)->Array Ut}{v:Ut}(g:∀(μ:Nat->Nat) (w:Ur),BelX k0 X w0 w->Seen bl c μ w->UH P f (args μ) w (rZ w λe w'=>e=v))
 (h:∀(μ:Nat->Nat) (w:Ur),((seen ops its os it.need i o,it.kind,it.out,c.all (Bj ops i o bl),ops[i]?),(U5 (ro ops its os it.need i μ) o).run P w)=((true,Kind.call,SV.v v,true,some o),.ok (.enter f (args μ)) w)):Cert P Q w0 k0 X ops i its bl os o it:=by
 intro μ a w K l hR k;have d:=h μ w;simp only[V6.injEq]at d;obtain⟨⟨r,q,j,m,n⟩,p⟩:=d;rw[q];intro b;rw[j]at b;unfold VT;rw[oD r l,p,WY];refine(g μ w k (LJ n m hR)).mono ?_;rintro e w' ⟨t,rfl,s,rfl⟩;exact b w' s
def ldv(k:Array Vk)(c:List It)(f:List Bl)(d:List (WC × SV))(i:Nat)(o:Vk)(it:It)(T:U8)(n:Nat):Option SV:=
 match it.kind,o.op with
 | .stay,.load T' (.tmp t)=>match src k c d it.need i t with
  | some (.p b off)=>match f[b]? with
   | some e=>bif T' == T && e.al.isNone && readB k i e && (off+n).ble e.before.length then some (.v (.agg ((e.before.drop off).take n).toArray)) else none
   | none=>none
  | _=>none
 | _,_=>none
theorem ld{T:U8}{n:Nat}(f:(P.underlying T).map (·.isRow)=some true)(l:(P.info? T).map (·.size)=some n)(h:ldv ops its bl os i o it T n=some it.out:=by kernel_rfl):Cert P Q w0 k0 X ops i its bl os o it:=by
 unfold ldv at h;split at h
 ·rename_i T' t hk ho
  split at h
  ·rename_i b off hs
   split at h
   ·rename_i e hb
    cases c:(T' == T && e.al.isNone && readB ops i e && (off+n).ble e.before.length) with
    | false=>rw[c]at h;cases h
    | true =>
     rw[c]at h;have g:=h;simp only[UL,beq_iff_eq,Option.isNone_iff_eq_none,yB5]at c;obtain⟨⟨⟨rfl,d⟩,j⟩,m⟩:=c;have k:((e.before.drop off).take n).length=n:=by rw[WF,ZI];omega
     refine oI hk b off e hb d j T' t ho ((e.before.drop off).take n) (UO.inj g).symm (λ_ _ K=>mU hs K) ?_ f (by rw[k];exact l);rw[k]
   ·cases h
  ·cases h
 ·cases h
def ptv(k:Array Vk)(c:List It)(f:List Bl)(d:List (WC × SV))(i:Nat)(o:Vk)(it:It)(T:U8)(n:Nat):Option (List Ut):=
 match it.kind,o.op,o.dst with
 | .put b,.store T' (.tmp x) (.tmp y),none=>match src k c d it.need i x,src k c d it.need i y with
  | some (.p b' off),some (.v (.agg vs))=>match f[b]? with
   | some e=>bif T' == T && b' == b && vs.size == n && (off+n).ble e.before.length && vs.toList.all (·.oneCell') then some (rep e.before off vs.toList) else none
   | none=>none
  | _,_=>none
 | _,_,_=>none
theorem pt{T:U8}{n:Nat}(q:(P.info? T).map (·.size)=some n)(h:((ptv ops its bl os i o it T n).isSome,ptv ops its bl os i o it T n)=(true,match it.kind with | .put b=>(bl[b]?).map (·.after)|_=>none):=by kernel_rfl):Cert P Q w0 k0 X ops i its bl os o it:=by
 simp only[V6.injEq]at h;obtain⟨k,h⟩:=h;rw[h]at k;unfold ptv at h;split at h
 ·rename_i b T' x y hk ho hdn
  rw[hk]at h k;dsimp only at h k;cases g:bl[b]? with
  | none=>rw[g]at k;cases k
  | some e =>
   rw[g]at h;split at h
   ·rename_i b' off vs hx hy
    dsimp only at h;cases f:(T' == T && b' == b && vs.size == n && (off+n).ble e.before.length && vs.toList.all (·.oneCell')) with
    | false=>rw[f]at h;cases h
    | true =>
     rw[f]at h;have m:some (rep e.before off vs.toList)=some e.after:=h;simp only[UL,beq_iff_eq,yB5]at f;obtain⟨⟨⟨⟨rfl,rfl⟩,l⟩,d⟩,p⟩:=f;have c:vs.toList.length=n:=by rw[Array.length_toList];exact l
     refine eZ b' off hk e g T' (.tmp x) (.tmp y) vs.toList ho hdn (λ_ _ K=>mU hx K) (λ_ _ K=>?_) (by rw[c];exact d) (λj=>?_) (by rw[c];exact q) p
     ·rw[Array.toArray_toList];exact mU hy K
     ·rw[<-UO.inj m,rep_at (by rw[c];exact d)]
   ·cases h
 ·rw[<-h]at k;cases k
def aft(pu:List (Nat × Nat × List Ut))(b:Nat)(c:List Ut):List Ut:=match pu.find? (λx=>x.1 == b) with|some x=>x.2.2|none=>c
def sto(pu:List (Nat × Nat × List Ut))(b:Nat):Option Nat:=(pu.find? (λx=>x.1 == b)).map (·.2.1)
def olB(pu:List (Nat × Nat × List Ut)):Nat->List (List Ut)->List Bl
 | _,[]=>[]
 | b,c :: r=>⟨c,aft pu b c,none,sto pu b⟩ :: olB pu (b+1) r
def mkB(pu:List (Nat × Nat × List Ut)):Nat->List (Nat × List Ut)->List Bl
 | _,[]=>[]
 | b,c :: r=>⟨c.2,aft pu b c.2,some c.1,sto pu b⟩ :: mkB pu (b+1) r
def bls(cs:List (List Ut))(mk:List (Nat × List Ut))(pu:List (Nat × Nat × List Ut)):List Bl:=olB pu 0 cs++mkB pu cs.length mk
theorem qZ(pu:List (Nat × Nat × List Ut)):∀(cs:List (List Ut)) (b:Nat),(olB pu b cs).length=cs.length
 | [],_=>rfl
 | c :: r,b=>by rw[olB,Vj,qZ pu r,Vj]
theorem EX(pu:List (Nat × Nat × List Ut)):∀(cs:List (Nat × List Ut)) (b:Nat),(mkB pu b cs).length=cs.length
 | [],_=>rfl
 | c :: r,b=>by rw[mkB,Vj,EX pu r,Vj]
theorem wZ(pu:List (Nat × Nat × List Ut)):∀(cs:List (List Ut)) (b:Nat),(olB pu b cs).map (·.before)=cs
 | [],_=>rfl
 | c :: r,b=>by rw[olB,XV,wZ pu r]
theorem xG(pu:List (Nat × Nat × List Ut)):∀(cs:List (Nat × List Ut)) (b:Nat),(mkB pu b cs).map (·.before)=cs.map (·.2)
 | [],_=>rfl
 | c :: r,b=>by rw[mkB,XV,xG pu r,XV]
theorem EP(pu:List (Nat × Nat × List Ut)):∀(cs:List (List Ut)) (b j:Nat) (e:Bl),(olB pu b cs)[j]? = some e->e.al=none/\e.after=aft pu (b+j) e.before/\e.st=sto pu (b+j)
 | [],_,_,_,h=>by simp[olB]at h
 | c :: r,b,0,e,h=>by
  rw[olB,Vf]at h;obtain rfl:=UO.inj h;exact⟨rfl,rfl,rfl⟩
 | c :: r,b,j+1,e,h=>by
  rw[olB,U9]at h;have:=EP pu r (b+1) j e h;rwa[show b+1+j=b+(j+1) by omega]at this
theorem EY(pu:List (Nat × Nat × List Ut)):∀(cs:List (Nat × List Ut)) (b j:Nat) (e:Bl),(mkB pu b cs)[j]? = some e->(∃x∈cs,e.al=some x.1)/\e.after=aft pu (b+j) e.before/\e.st=sto pu (b+j)
 | [],_,_,_,h=>by simp[mkB]at h
 | c :: r,b,0,e,h=>by
  rw[mkB,Vf]at h;obtain rfl:=UO.inj h;exact⟨⟨c,Vu,rfl⟩,rfl,rfl⟩
 | c :: r,b,j+1,e,h=>by
  rw[mkB,U9]at h;obtain⟨⟨x,hx,d⟩,k⟩:=EY pu r (b+1) j e h;refine⟨⟨x,Vb _ hx,d⟩,?_⟩;rwa[show b+1+j=b+(j+1) by omega]at k
variable {cs cs':List (List Ut)}{mk:List (Nat × List Ut)}{pu:List (Nat × Nat × List Ut)}{ks:List Nat}
theorem Bn:(bls cs mk pu).length=cs.length+mk.length:=by rw[bls,UA,qZ,EX]
theorem yO:(bls cs mk pu).map (·.before)=cs++mk.map (·.2):=by rw[bls,We,wZ,xG]
theorem vN{b:Nat}{e:Bl}(h:(bls cs mk pu)[b]? = some e):e.after=aft pu b e.before/\e.st=sto pu b/\((b<cs.length/\e.al=none)\/(cs.length<=b/\∃x∈mk,e.al=some x.1)):=by
 unfold bls at h;by_cases k:b<cs.length
 ·rw[UT (by rw[qZ];exact k)]at h;have:=EP pu cs 0 b e h;rw[UD]at this;exact⟨this.2.1,this.2.2,U4 ⟨k,this.1⟩⟩
 ·rw[U1 (by rw[qZ];omega),qZ]at h;have:=EY pu mk cs.length (b-cs.length) e h;rw[show cs.length+(b-cs.length)=b by omega]at this;exact⟨this.2.1,this.2.2,UX ⟨oM,this.1⟩⟩
theorem Ai:mT (bls cs mk pu) cs.length=true:=by
 simp only[mT,UL,decide_eq_true_eq];refine⟨Va.2 λx hx=>?_,by rw[Bn];omega⟩;rw[YA]at hx;rcases(vN hx).2.2 with⟨b,k⟩|⟨b,y,-,k⟩
 ·rw[k];simp[b]
 ·rw[k];simp;omega
def inB(m:Nat)(mk:List (Nat × List Ut))(pu:List (Nat × Nat × List Ut)):Bool:=mk.all (λx=>x.1.blt m) && pu.all (λx=>x.2.1.blt m)
theorem FM(h:inB its.length mk pu=true)(m:pu.map (λx=>x.2.2.length)=pu.map (λx=>(((cs++mk.map (·.2))[x.1]?).getD []).length)):
 (∀e∈bls cs mk pu,∀j,e.al=some j\/e.st=some j->j<its.length)/\∀e∈bls cs mk pu,e.fin.length=e.before.length:=by
 simp only[inB,UL]at h;refine⟨λe g j k=>?_,λe g=>?_⟩
 ·obtain⟨b,c⟩:=WJ g;obtain⟨i,f,l⟩:=vN c;rcases k with k|k
  ·rcases l with⟨-,d⟩|⟨-,x,hx,d⟩
   ·rw[d]at k;cases k
   ·rw[d]at k;obtain rfl:=UO.inj k;have:=Va.1 h.1 x hx;exact Xj (VR this)
  ·rw[f]at k;unfold sto at k;obtain⟨x,hx,rfl⟩:=Uy.1 k;have:=Va.1 h.2 x (WO hx);exact Xj (VR this)
 ·obtain⟨b,c⟩:=WJ g;obtain⟨i,f,-⟩:=vN c;unfold Bl.fin;rw[f,i];unfold sto aft;cases d:pu.find? (λx=>x.1 == b) with
  | none=>rfl
  | some x =>
   show x.2.2.length=_;have l:=WO d;have hx:x.1=b:=by simpa using Yd d
   have n:=Zx.1 m x l;rw[n,<-yO (pu:=pu),hx,Vz,c];rfl
def lk(k:List It)(b:List (WC × SV))(t:WC):Option SV:=
 match k.find? (λit=>it.dst == some t) with
 | some it=>some it.out
 | none=>(b.find? (λx=>x.1 == t)).map (·.2)
structure M(w0:Ur)(k0:Nat)(X:List Nat)(n:Nat)(cs:List (List Ut))(ks:List Nat)(os:List (WC × SV))(a:Act)(w:Ur):Prop where
 st:St w0 k0 X cs ks w
 sl:Sl a n
 os:Olds a (ad ks) os
def All:Nat->(List Nat->Prop)->Prop
 | 0,f=>f []
 | n+1,f=>∀k:Nat,All n λl=>f (k :: l)
theorem All.get:∀ {n:Nat}{f:List Nat->Prop},All n f->∀l:List Nat,l.length=n->f l
 | 0,f,h,l,hl=>by rw[List.length_eq_zero_iff.1 hl];exact h
 | n+1,f,h,[],hl=>by simp at hl
 | n+1,f,h,k :: l,hl=>All.get (h k) l (by simpa using hl)
theorem Nf{s:SV}{new:List Nat}(h:∀b,s.blk=some b->b<ks.length):s.at (ad (ks++new))=s.at (ad ks):=SV.at_congr λb k=>by
 unfold ad;rw[VQ,VQ,UT (h b k)]
theorem Olds.mk'{μ:Nat->Nat}:∀ {l:List (WC × SV)},(∀x∈l,a.tmps[x.1]? = some (x.2.at μ))->Olds a μ l
 | [],_=>trivial
 | x :: r,h=>⟨h x Vu,Olds.mk' λy k=>h y (Vb _ k)⟩
theorem M.next{d:List (WC × SV)}{new:List Nat}{w':Ur}(h:M w0 k0 X n cs ks os a w)(c:allB ops its (bls cs mk pu) os n=true)(m:(d.map λx=>lk its os x.1)=d.map λx=>some x.2)
 (A:St w0 k0 X cs' (ks++new) w'):M w0 k0 X n cs' (ks++new) d (puts (ad (ks++new)) its a) w':=by
 refine⟨A,h.sl.puts,Olds.mk' λx hx=>?_⟩;have l:=Zx.1 m x hx;simp only[allB,UL,beq_iff_eq]at c;obtain⟨⟨⟨⟨B,hd⟩,f⟩,s⟩,D⟩:=c;unfold lk at l;cases hf:its.find? (λit=>it.dst == some x.1) with
 | some it =>
  rw[hf]at l;have g:=WO hf;have i:it.dst=some x.1:=by simpa using Yd hf
  obtain⟨j,o⟩:=WJ g;have k:=Va.1 s it g;rw[i]at k;have:=rW (ad (ks++new)) its a j it x.1 hd o i (by rw[h.sl.size];simpa using k);rw[this,<-UO.inj l]
 | none =>
  rw[hf]at l;obtain⟨y,t,o⟩:=Uy.1 l;have g:=WO t;have r:y.1=x.1:=by simpa using Yd t
  have C:=h.os.get y.1 y.2 g;rw[lW _ its a x.1 (λit q p=>by
   have:=List.find?_eq_none.1 hf it q;rw[p]at this;simp at this),<-r,C,<-o]
  congr 1
  refine(Nf λb E=>?_).symm;have k:=Va.1 f y g;rw[E]at k;dsimp only at k;cases i:(bls cs mk pu)[b]? with
  | none=>rw[i]at k;cases k
  | some e =>
   rw[i]at k;rcases(vN i).2.2 with⟨u,-⟩|⟨-,z,-,v⟩
   ·rw[h.st.len];exact u
   ·dsimp only at k;rw[v]at k;simp at k
theorem M.reg(h:M w0 k0 X n cs ks os a w)(k:allB ops its (bls cs mk pu) os n=true)(b:Certs P Q w0 k0 X ops its (bls cs mk pu) os 0 ops.toList its):Reg P ops Q w0 k0 X its (bls cs mk pu) os a (ad ks):=
 Reg.mk' (by rw[h.sl.size];exact k) h.os b
theorem CL:((bls cs mk pu).map (·.before)).take cs.length=cs:=by rw[yO,List.take_left'];rfl
theorem M.tx{id:Nat}(h:M w0 k0 X n cs ks os a w)(k:List It)(mk:List (Nat × List Ut))(pu:List (Nat × Nat × List Ut))(c:List (List Ut))(b:List (WC × SV))
 (d:(allB ops k (bls cs mk pu) os n && inB k.length mk pu,(bls cs mk pu).map Bl.fin,b.map λx=>lk k os x.1)=(true,c,b.map λx=>some x.2))
 (l:pu.map (λx=>x.2.2.length)=pu.map (λx=>(((cs++mk.map (·.2))[x.1]?).getD []).length))
 (g:Certs P Q w0 k0 X ops k (bls cs mk pu) os 0 ops.toList k)
 (o:All mk.length λnew=>∀e w',M w0 k0 X n c (ks++new) b e w'->Q .normal e w'):(V4 id ops false).wp P Q a w:=by
 simp only[V6.injEq,UL]at d;obtain⟨⟨f,p⟩,i,j⟩:=d;refine region_text' h.st (h.reg f g) Ai CL (FM p l) λnew w' e m=>?_
 rw[Bn,WL]at e;exact o.get new e _ _ (h.next f j (i ▸ m))
theorem M.dr{id:Nat}(h:M w0 k0 X n cs ks os a w)(l:P.follows .mixedOrders=true)(k:List It)(mk:List (Nat × List Ut))(pu:List (Nat × Nat × List Ut))(c:List (List Ut))(b:List (WC × SV))
 (d:(allB ops k (bls cs mk pu) os n && inB k.length mk pu,(bls cs mk pu).map Bl.fin,b.map λx=>lk k os x.1)=(true,c,b.map λx=>some x.2))
 (m:pu.map (λx=>x.2.2.length)=pu.map (λx=>(((cs++mk.map (·.2))[x.1]?).getD []).length))
 (g:Certs P Q w0 k0 X ops k (bls cs mk pu) os 0 ops.toList k)
 (p:All mk.length λnew=>∀e w',M w0 k0 X n c (ks++new) b e w'->Q .normal e w'):(V4 id ops true).wp P Q a w:=by
 simp only[V6.injEq,UL]at d;obtain⟨⟨f,q⟩,i,j⟩:=d;refine region_draws' l h.st (h.reg f g) Ai CL (FM q m) λnew w' e o=>?_
 rw[Bn,WL]at e;exact p.get new e _ _ (h.next f j (i ▸ o))
theorem Nc:(bls cs [] []).map Bl.fin=cs:=by
 have h:∀(cs:List (List Ut)) (b:Nat),(olB [] b cs).map Bl.fin=cs:=λcs=>by
  induction cs with
  | nil=>intro _;rfl
  | cons c r ih=>intro b;rw[olB,XV,ih];rfl
 rw[bls,We,h];exact Xu _
theorem M.tx0{id:Nat}(h:M w0 k0 X n cs ks os a w)(k:List It)(b:List (WC × SV))(d:(allB ops k (bls cs [] []) os n,b.map λx=>lk k os x.1)=(true,b.map λx=>some x.2))
 (e:Certs P Q w0 k0 X ops k (bls cs [] []) os 0 ops.toList k) (g:∀c w',M w0 k0 X n cs ks b c w'->Q .normal c w'):(V4 id ops false).wp P Q a w:=by
 simp only[V6.injEq]at d;refine h.tx k [] [] cs b (by simp only[d.1,d.2,Nc];rfl) rfl e (λc w' f=>g c w' ?_);rwa[Xu]at f
theorem M.t{id:Nat}(h:M w0 k0 X n cs ks os a w)(k:List It)(mk:List (Nat × List Ut))(pu:List (Nat × Nat × List Ut))(c:List (List Ut))(b:List (WC × SV))(e:Certs P Q w0 k0 X ops k (bls cs mk pu) os 0 ops.toList k)(i:All mk.length λnew=>∀d w',M w0 k0 X n c (ks++new) b d w'->Q .normal d w')(g:(allB ops k (bls cs mk pu) os n && inB k.length mk pu,(bls cs mk pu).map Bl.fin,b.map λx=>lk k os x.1)=(true,c,b.map λx=>some x.2):=by kernel_rfl)(f:pu.map (λx=>x.2.2.length)=pu.map (λx=>(((cs++mk.map (·.2))[x.1]?).getD []).length):=by kernel_rfl):(V4 id ops false).wp P Q a w:=h.tx k mk pu c b g f e i
theorem M.d{id:Nat}(h:M w0 k0 X n cs ks os a w)(k:List It)(mk:List (Nat × List Ut))(pu:List (Nat × Nat × List Ut))(c:List (List Ut))(b:List (WC × SV))(e:Certs P Q w0 k0 X ops k (bls cs mk pu) os 0 ops.toList k)(j:All mk.length λnew=>∀d w',M w0 k0 X n c (ks++new) b d w'->Q .normal d w')(i:(allB ops k (bls cs mk pu) os n && inB k.length mk pu,(bls cs mk pu).map Bl.fin,b.map λx=>lk k os x.1)=(true,c,b.map λx=>some x.2):=by kernel_rfl)(g:pu.map (λx=>x.2.2.length)=pu.map (λx=>(((cs++mk.map (·.2))[x.1]?).getD []).length):=by kernel_rfl)(f:P.follows .mixedOrders=true:=by kernel_rfl):(V4 id ops true).wp P Q a w:=h.dr f k mk pu c b i g e j
theorem M.u{id:Nat}(h:M w0 k0 X n cs ks os a w)(k:List It)(b:List (WC × SV))(d:Certs P Q w0 k0 X ops k (bls cs [] []) os 0 ops.toList k)(f:∀c w',M w0 k0 X n cs ks b c w'->Q .normal c w')(e:(allB ops k (bls cs [] []) os n,b.map λx=>lk k os x.1)=(true,b.map λx=>some x.2):=by kernel_rfl):(V4 id ops false).wp P Q a w:=h.tx0 k b e d f
theorem M.at(h:M w0 k0 X n cs ks os a w){t:WC}{s:SV}(c:(os.find? (λx=>x.1 == t)).map (·.2)=some s:=by kernel_rfl):a.tmps[t]? = some (s.at (ad ks)):=by
 obtain⟨y,b,rfl⟩:=Uy.1 c;have k:y.1=t:=by simpa using Yd b
 rw[<-k];exact h.os.get y.1 y.2 (WO b)
theorem St.made{w w':Ur}{cs:List (List Ut)}{ks:List Nat}(h:St w w.heap.size [] cs ks w'){b:Nat}{c:List Ut}(g:cs[b]? = some c):Made w (ad ks b) c w':=by
 obtain⟨f,e,k,d⟩:=h.has b c g;exact⟨h.bel.below,d.elim id (λh=>absurd h UY),k,f,e⟩
theorem M.av(h:M w0 k0 X n cs ks os a w){t:WC}{v:Ut}(k:(os.find? (λx=>x.1 == t)).map (·.2)=some (.v v):=by kernel_rfl):a.tmps[t]? = some v:=h.at k
theorem M.ev(h:M w0 k0 X n cs ks os a w){t:WC}{v:Ut}(k:(os.find? (λx=>x.1 == t)).map (·.2)=some (.v v):=by kernel_rfl):a.eval (.tmp t)=v:=A7 (h.at k)
theorem M.enter{c:Code}(k:List (WC × SV))(n:Nat)(h:(k.map λx=>a.tmps[x.1]?,a.tmps.size,a.defers)=(k.map λx=>some (x.2.at (ad [])),n,[]))(b:∀a,M w w.heap.size [] n [] [] k a w->c.wp P Q a w):c.wp P Q a w:=by
 simp only[V6.injEq]at h;exact b a ⟨St.begin w,⟨h.2.1,h.2.2⟩,Olds.mk' λx hx=>Zx.1 h.1 x hx⟩
theorem M.drop{j w:Ur}{i n:Nat}{X:List Nat}{cs cs2:List (List Ut)}{ks ks2:List Nat}{f:List (WC × SV)}{a:Act}(h:M j i X n (cs++cs2) (ks++ks2) f a w)(m:ks.length=cs.length)
 (ho:f.all (λx=>match x.2.blk with|none=>true|some b=>b.blt cs.length)=true):M j i X n cs ks f a w:=by
 have k:∀b,b<cs.length->ad (ks++ks2) b=ad ks b:=λb d=>by
  unfold ad;rw[VQ,VQ,UT oM]
 refine⟨⟨h.st.bel,h.st.le,m,λb c d=>?_,λb c d l g=>?_⟩,h.sl,Olds.mk' λx hx=>?_⟩
 ·have e:=(UF.1 d).1;have:=h.st.has b c (by rw[UT e];exact d);rwa[k b e]at this
 ·have:=h.st.inj b c (by rw[UA];omega) (by rw[UA];omega) g;rwa[k b d,k c l]at this
 ·rw[h.os.get x.1 x.2 hx]
  congr 1
  refine SV.at_congr λb d=>?_
  have e:=Va.1 ho x hx;rw[d]at e;exact k b (Xj (VR e))
abbrev z(n:Nat):List Ut:=List.replicate n (uZ 0)
def It.s(d:WC)(k:List (WC × Nat))(b:SV):It:=⟨some d,k,b,.stay⟩
def It.x(d:WC)(k:List (WC × Nat))(v:Ut):It:=⟨some d,k,.v v,.stay⟩
def It.c(d:WC)(k:List (WC × Nat))(v:Ut):It:=⟨some d,k,.v v,.call⟩
def It.u(k:List (WC × Nat))(b:Nat):It:=⟨none,k,.v WP,.put b⟩
end RG
namespace RG
variable {P:VD}{ops:Array Vk}{Q:Yo->Act->Ur->Prop}{w0 w:Ur}{k0 n:Nat}{X ks:List Nat}{cs:List (List Ut)}{os:List (WC × SV)}{a:Act}
inductive Hh where
 | x (v:Ut)
 | c (v:Ut)
 | s (v:SV)
 | m (b:Nat)
 | u (b:Nat)
def nd(k:Array Vk)(i:Nat):List (WC × Nat):=
 match k[i]? with
 | none=>[]
 | some o=>o.op.operands.toList.filterMap λx=>match x with
  | .tmp t=>((VG i).find? λj=>match k[j]? with|some p=>p.dst == some t && dB o j|none=>false).map λj=>(t,j)
  | _=>none
def dt(k:Array Vk)(i:Nat):Option WC:=(k[i]?).bind (·.dst)
def Hh.it(k:Array Vk)(i:Nat):Hh->It
 | .x v=>⟨dt k i,nd k i,.v v,.stay⟩
 | .c v=>⟨dt k i,nd k i,.v v,.call⟩
 | .s v=>⟨dt k i,nd k i,v,.stay⟩
 | .m b=>⟨dt k i,nd k i,.p b 0,.make b⟩
 | .u b=>⟨none,nd k i,.v WP,.put b⟩
def mkL(k:Array Vk):Nat->List Hh->List It
 | _,[]=>[]
 | i,h :: r=>h.it k i :: mkL k (i+1) r
def kps(k:List It)(b:List (WC × SV))(l:List WC):List (WC × SV):=l.filterMap λt=>(lk k b t).map λs=>(t,s)
theorem M.U{id:Nat}(h:M w0 k0 X n cs ks os a w)(k:List Hh)(b:List WC)(d:Certs P Q w0 k0 X ops (mkL ops 0 k) (bls cs [] []) os 0 ops.toList (mkL ops 0 k))(f:∀c w',M w0 k0 X n cs ks (kps (mkL ops 0 k) os b) c w'->Q .normal c w')(e:(allB ops (mkL ops 0 k) (bls cs [] []) os n,(kps (mkL ops 0 k) os b).map λx=>lk (mkL ops 0 k) os x.1)=(true,(kps (mkL ops 0 k) os b).map λx=>some x.2):=by kernel_rfl):(V4 id ops false).wp P Q a w:=h.u _ _ d f e
theorem M.T{id:Nat}(h:M w0 k0 X n cs ks os a w)(k:List Hh)(mk:List (Nat × List Ut))(pu:List (Nat × Nat × List Ut))(b:List (List Ut))(c:List WC)(e:Certs P Q w0 k0 X ops (mkL ops 0 k) (bls cs mk pu) os 0 ops.toList (mkL ops 0 k))(i:All mk.length λnew=>∀d w',M w0 k0 X n b (ks++new) (kps (mkL ops 0 k) os c) d w'->Q .normal d w')(g:(allB ops (mkL ops 0 k) (bls cs mk pu) os n && inB (mkL ops 0 k).length mk pu,(bls cs mk pu).map Bl.fin,(kps (mkL ops 0 k) os c).map λx=>lk (mkL ops 0 k) os x.1)=(true,b,(kps (mkL ops 0 k) os c).map λx=>some x.2):=by kernel_rfl)(f:pu.map (λx=>x.2.2.length)=pu.map (λx=>(((cs++mk.map (·.2))[x.1]?).getD []).length):=by kernel_rfl):(V4 id ops false).wp P Q a w:=h.t _ mk pu b _ e i g f
theorem M.D{id:Nat}(h:M w0 k0 X n cs ks os a w)(k:List Hh)(mk:List (Nat × List Ut))(pu:List (Nat × Nat × List Ut))(b:List (List Ut))(c:List WC)(e:Certs P Q w0 k0 X ops (mkL ops 0 k) (bls cs mk pu) os 0 ops.toList (mkL ops 0 k))(j:All mk.length λnew=>∀d w',M w0 k0 X n b (ks++new) (kps (mkL ops 0 k) os c) d w'->Q .normal d w')(i:(allB ops (mkL ops 0 k) (bls cs mk pu) os n && inB (mkL ops 0 k).length mk pu,(bls cs mk pu).map Bl.fin,(kps (mkL ops 0 k) os c).map λx=>lk (mkL ops 0 k) os x.1)=(true,b,(kps (mkL ops 0 k) os c).map λx=>some x.2):=by kernel_rfl)(f:pu.map (λx=>x.2.2.length)=pu.map (λx=>(((cs++mk.map (·.2))[x.1]?).getD []).length):=by kernel_rfl)(g:P.follows .mixedOrders=true:=by kernel_rfl):(V4 id ops true).wp P Q a w:=h.d _ mk pu b _ e j i f g
end RG
namespace NT
def IsP(n:Nat):Prop:=2<=n/\∀m,m ∣ n->m=1\/m=n
theorem IsP.cop{p k:Nat}(h:IsP p)(b:0<k)(c:k<p):ZQ p k:=by
 unfold ZQ;rcases h.2 _ (ZM p k)with e|e
 ·exact e
 ·have:=Yc b (ZD p k);omega
theorem IsP.cop_of{p k:Nat}(h:IsP p)(b:¬p ∣ k):ZQ p k:=by
 unfold ZQ;rcases h.2 _ (ZM p k)with e|e
 ·exact e
 ·exact absurd (e ▸ ZD p k) b
theorem IsP.euclid{p a b:Nat}(h:IsP p)(hd:p ∣ a*b):p ∣ a\/p ∣ b:=by
 by_cases k:p ∣ a
 ·exact U4 k
 ·exact UX ((h.cop_of k).dvd_of_dvd_mul_left hd)
/-! the binomials -/
def ch: Nat -> Nat -> Nat
  | _, 0 => 1
  | 0, _ + 1 => 0
  | n + 1, k + 1 => ch n k + ch n (k + 1)
theorem rI(n:Nat):ch n 0=1:=by cases n<;>rfl
theorem rJ:∀(n k:Nat),n<k->ch n k=0
 | 0,k+1,_=>rfl
 | n+1,k+1,h=>by
  rw[ch,rJ n k oM,rJ n (k+1) oM]
theorem FC:∀(n:Nat),ch n n=1
 | 0=>rfl
 | n+1=>by rw[ch,FC n,rJ n (n+1) oM]
theorem vH:∀(n k:Nat),(k+1)*ch (n+1) (k+1)=(n+1)*ch n k
 | 0,0=>rfl
 | 0,k+1=>by simp[ch]
 | n+1,0=>by
  have h:=vH n 0;have e:ch (n+1+1) (0+1)=ch (n+1) 0+ch (n+1) (0+1):=rfl;rw[rI]at h;rw[e,rI];omega
 | n+1,k+1=>by
  have c:=vH n k;have b:=vH n (k+1);have e:ch (n+1+1) (k+1+1)=ch (n+1) (k+1)+ch (n+1) (k+1+1):=rfl;have e3:ch (n+1) (k+1)=ch n k+ch n (k+1):=rfl;rw[e,Yz,b];have:(k+1+1)*ch (n+1) (k+1)=(n+1)*ch n k+ch (n+1) (k+1):=by
   rw[<-c,XF (k+1) 1,Xi]
  rw[this,e3,XF (n+1) 1,Xi,Yz];omega
def sumTo:Nat->(Nat->Nat)->Nat
 | 0,_=>0
 | n+1,f=>sumTo n f+f n
theorem sumTo_congr(f g:Nat->Nat):∀n,(∀k,k<n->f k=g k)->sumTo n f=sumTo n g
 | 0,_=>rfl
 | n+1,h=>by
  rw[sumTo,sumTo,sumTo_congr f g n (λk b=>h k oM),h n oM]
theorem zF(f g:Nat->Nat):∀n,sumTo n (λk=>f k+g k)=sumTo n f+sumTo n g
 | 0=>rfl
 | n+1=>by simp only[sumTo];rw[zF f g n];omega
theorem zD(a:Nat)(f:Nat->Nat):∀n,sumTo n (λk=>a*f k)=a*sumTo n f
 | 0=>rfl
 | n+1=>by simp only[sumTo];rw[zD a f n,Yz]
theorem jU(f:Nat->Nat):∀n,sumTo (n+1) f=f 0+sumTo n (λk=>f (k+1))
 | 0=>by simp[sumTo]
 | n+1=>by rw[sumTo,jU f n];simp only[sumTo];omega
theorem zE(p:Nat)(f:Nat->Nat):∀n,(∀k,k<n->p ∣ f k)->p ∣ sumTo n f
 | 0,_=>Nat.dvd_zero p
 | n+1,h=>Nat.dvd_add (zE p f n (λk b=>h k oM)) (h n oM)
theorem NW(a:Nat):∀n,(a+1)^n=sumTo (n+1) (λk=>ch n k*a^k)
 | 0=>by simp[sumTo,ch]
 | n+1=>by
  rw[V7,NW a n,Yz,XR];rw[jU (λk=>ch (n+1) k*a^k) (n+1)];have e:sumTo (n+1) (λk=>ch (n+1) (k+1)*a^(k+1))
   = sumTo (n+1) (λk=>a*(ch n k*a^k))+sumTo (n+1) (λk=>ch n (k+1)*a^(k+1)):=by
   rw[<-zF];refine sumTo_congr _ _ _ ?_;intro k _;show(ch n k+ch n (k+1))*a^(k+1)=_;rw[XF,V7];have:ch n k*(a^k*a)=a*(ch n k*a^k):=by
    rw[Vv a,X1]
   rw[this]
  rw[e,zD];have c:sumTo (n+1) (λk=>ch n k*a^k)
   = ch n 0*a^0+sumTo n (λk=>ch n (k+1)*a^(k+1)):=jU (λk=>ch n k*a^k) n
  have e3:sumTo (n+1) (λk=>ch n (k+1)*a^(k+1))=sumTo n (λk=>ch n (k+1)*a^(k+1)):=by
   rw[sumTo,rJ n (n+1) oM,yBJ,XB]
  have b:ch (n+1) 0*a^0=ch n 0*a^0:=by rw[rI,rI]
  rw[e3,b,Vv _ a];omega
theorem IsP.ch_dvd{p k:Nat}(h:IsP p)(b:k+1<p):p ∣ ch p (k+1):=by
 obtain⟨n,rfl⟩:∃n,p=n+1:=⟨p-1,by have:=h.1;omega⟩
 have e:=vH n k;have hd:(n+1) ∣ (k+1)*ch (n+1) (k+1):=e ▸ Nat.dvd_mul_right _ _;exact(h.cop oM b).dvd_of_dvd_mul_left hd
theorem IsP.frob{p:Nat}(h:IsP p)(a:Nat):(a+1)^p%p=(a^p+1)%p:=by
 obtain⟨n,rfl⟩:∃n,p=n+1:=⟨p-1,by have:=h.1;omega⟩
 rw[NW,sumTo,jU,FC,rI];obtain⟨c,b⟩:(n+1) ∣ sumTo n (λk=>ch (n+1) (k+1)*a^(k+1)):=
  zE _ _ _ (λk d=>Nat.dvd_mul_right_of_dvd (h.ch_dvd oM) _)
 rw[b];have:1*a^0+(n+1)*c+1*a^(n+1)=(a^(n+1)+1)+(n+1)*c:=by
  rw[YN];omega
 rw[this,YQ]
theorem IsP.fermat{p:Nat}(h:IsP p):∀a,a^p%p=a%p
 | 0=>by
  rw[yBI (by have:=h.1;omega)]
 | a+1=>by
  rw[h.frob,Zn,h.fermat a,<-Zn]
theorem IsP.cancel{p a x y:Nat}(h:IsP p)(d:¬p ∣ a)(e:a*x%p=a*y%p):x%p=y%p:=by
 have key:∀x y,y<=x->a*x%p=a*y%p->x%p=y%p:=by
  intro x y k e;have b:=XM (Nat.sub_mod_eq_zero_of_mod_eq e);rw[<-Nat.mul_sub]at b;obtain⟨c,f⟩:=(h.cop_of d).dvd_of_dvd_mul_left b;have:x=y+p*c:=oM;rw[this,YQ]
 rcases yBK y x with k|k
 ·exact key x y k e
 ·exact(key y x k e.symm).symm
theorem IsP.fermat1{p:Nat}(h:IsP p)(a:Nat)(k:¬p ∣ a):a^(p-1)%p=1:=by
 obtain⟨n,rfl⟩:∃n,p=n+1:=⟨p-1,by have:=h.1;omega⟩
 have e:=h.fermat a;rw[V7,Vv]at e;have:=h.cancel k (x:=a^n) (y:=1) (by rw[e,XR]);rw[Nat.add_sub_cancel,this,US h.1]
/-! powers that are 1 -/
theorem Me(b r : Nat)(hr : 1<r)(x y : Nat): b^x%r=1 -> b^y%r=1 -> b^(yAX x y)%r=1:=by
  induction x, y using yAX.induction with
  | H0 n => intro _ h; rw[Nat.gcd_zero_left]; exact h
  | H1 m n hm ih =>
    intro h1 h2;rw[Nat.gcd_rec];refine ih ?_ h1;have e : b^n=(b^m)^(n/m) * b^(n%m):=by
      rw[<-ZO, <-Yp, Nat.div_add_mod]
    rw[e, Xz, yAw, h1, Nat.one_pow, US hr, Xi, yBW]at h2;exact h2
theorem rH:∀n,2<=n->∃r,IsP r/\r ∣ n/\(IsP n\/r*r<=n):=by
 intro n;induction n using yBj with
 | _ n ih =>
  intro q;by_cases i:IsP n
  ·exact⟨n,i,Nat.dvd_refl n,U4 i⟩
  ·have:∃m,m ∣ n/\m≠1/\m≠n:=by
    refine Wt λc=>i ⟨q,λm d=>?_⟩
    refine Wt λb=>c ⟨m,d,λe=>b (U4 e),λe=>b (UX e)⟩
   obtain⟨m,⟨k,d⟩,u,t⟩:=this;have s:m≠0:=by intro e;rw[e,yBJ]at d;omega
   have o:k≠0:=by intro e;rw[e,Nat.mul_zero]at d;omega
   have p:k≠1:=by intro e;rw[e,XR]at d;omega
   have j:m<n:=by
    have:=Yc oM (⟨k,d⟩:m ∣ n);omega
   have g:k<n:=by
    have:=Nat.mul_le_mul_right k (show 2<=m by omega);omega
   rcases yBK m k with f|f
   ·obtain⟨r,l,c,_⟩:=ih m j oM;have b:=Yc oM c;refine⟨r,l,Zm c ⟨k,d⟩,UX ?_⟩;rw[d];exact WQ b (UC b f)
   ·obtain⟨r,l,c,_⟩:=ih k g oM;have b:=Yc oM c;refine⟨r,l,Zm c ⟨m,by rw[d,Vv]⟩,UX ?_⟩;rw[d];exact WQ (UC b f) b
/-! what of a prime of n - 1 goes into the primes of n -/
theorem part{n q a r : Nat}(hq : IsP q)(hr : IsP r)(hrn : r ∣ n)(hn : 1<n)
    (h1 : a^(n-1)%n=1) (hd : q ∣ n-1) (h2 : yAX (a^((n-1)/q)%n + (n-1)) n=1) : q ∣ r-1:=by
  have hr2:=hr.1;have toR : ∀x y, x%n=y%n -> x%r=y%r:=by
    intro x y e;rw[<-Zs x hrn, e, Zs y hrn]
  have hm : a^(n-1)%r=1:=by
    have:=toR (a^(n-1)) 1 (by rw[h1, US hn]);rw[this, US hr2]
  have hra : ¬r ∣ a:=by
    intro hc;have hz : a^(n-1)%r=0:=Yq (Zm hc (by
      have : a^1 ∣ a^(n-1):=yBk a oM;rwa[YR]at this))
    omega
  have hb : (a^((n-1)/q))^q%r=1:=by
    rw[<-ZO, Nat.div_mul_cancel hd]; exact hm
  have hbr : ¬r ∣ a^((n-1)/q):=by
    intro hc;have : r ∣ (a^((n-1)/q))^q:=Zm hc (by
      have : (a^((n-1)/q))^1 ∣ (a^((n-1)/q))^q:=yBk _ (by have:=hq.1; omega);rwa[YR]at this)
    have:=Yq this;omega
  have hg:=Me _ r hr2 q (r-1) hb (hr.fermat1 _ hbr);rcases hq.2 _ (ZM q (r-1))with e|e
  · rw[e, YR]at hg
    exfalso;have hx : r ∣ a^((n-1)/q)%n + (n-1):=by
      refine XM ?_;have e1 : (a^((n-1)/q)%n)%r=1:=by rw[Zs _ hrn]; exact hg
      have e2 : (n-1 + 1)%r=0:=by
        rw[Nat.sub_add_cancel oM]; exact Yq hrn
      have : (a^((n-1)/q)%n + (n-1))%r=(1 + (n-1))%r:=by
        rw[Zn, e1, Zn 1 (n-1), US hr2]
      rw[this, Nat.add_comm, e2]
    have:=Nat.dvd_gcd hx hrn;rw[h2]at this;have:=Yc oM this;omega
  · rw[<-e]; exact ZD _ _
theorem B9{n f:Nat}(e:1<n)(hf:n<(f+1)*(f+1))
 (k:∀r,IsP r->r ∣ n->f ∣ r-1):IsP n:=by
 obtain⟨r,b,c,h|h⟩:=rH n e
 ·exact h
 ·have:=Yc (by have:=b.1;omega) (k r b c);have d:f+1<=r:=by have:=b.1;omega
  have:=WQ d d;omega
/-! trial -/
def trial(n : Nat): Nat -> Nat -> Bool
  | 0, _ => true
  | k + 1, d => (n%d != 0) && trial n k (d + 1)
theorem BC(n:Nat):∀k d,trial n k d=true->∀m,d<=m->m<d+k->¬m ∣ n
 | 0,_,_,m,_,_=>oM
 | k+1,d,h,m,h1,h2=>by
  simp only[trial,UL,bne_iff_ne,ne_eq]at h;rcases Nat.lt_or_ge d m with b|c
  ·exact BC n k (d+1) h.2 m b oM
  ·have:m=d:=oM;subst this;intro hd;exact h.1 (Yq hd)
theorem small{n k:Nat}(d:2<=n)(f:trial n k 2=true)(j:n<(k+2)*(k+2)):IsP n:=by
 obtain⟨r,g,c,h|h⟩:=rH n d
 ·exact h
 ·have e:=g.1;have b:r<2+k:=by
   refine Wt λi=>?_
   have:=WQ (show k+2<=r by omega) (show k+2<=r by omega);omega
  exact absurd c (BC n k 2 f r e b)
/-! powers, reckoned -/
def pm(n : Nat): Nat -> Nat -> Nat -> Nat -> Nat
  | 0, _, _, acc => acc
  | k + 1, a, e, acc => pm n k (a * a%n) (e/2) (if e%2=1 then acc * a%n else acc)
theorem EL(n:Nat):∀k a e b,e<2^k->b<n->pm n k a e b=b*a^e%n
 | 0,a,e,b,h,ha=>by
  have:e=0:=by simpa using h
  subst this;rw[pm,YN,XR,US ha]
 | k+1,a,e,b,h,ha=>by
  have f:0<n:=oM;have c:(if e%2=1 then b*a%n else b)<n:=by
   split
   ·exact V5 _ f
   ·exact ha
  rw[pm,EL n k _ _ _ (by rw[V7]at h;omega) c];have d:∀y,y*(a*a%n)^(e/2)%n=y*(a*a)^(e/2)%n:=by
   intro y;rw[Xz,<-yAw,<-Xz]
  rw[d];have g:a^e=a^(e%2)*(a*a)^(e/2):=by
   have:(a*a)=a^2:=by rw[V7,YR]
   rw[this,<-ZO,<-Yp,Nat.mod_add_div]
  rw[g];split
  ·rename_i h1
   rw[h1,YR,Xz,yBW,<-Xz,X1]
  ·rename_i h1
   have:e%2=0:=oM;rw[this,YN,Xi]
theorem part'{n q a r k:Nat}(g:IsP q)(f:IsP r)(c:r ∣ n)(b:1<n)(i:n<2^k)
 (e:pm n k a (n-1) 1=1) (hd:(n-1)%q=0) (d:yAX (pm n k a ((n-1)/q) 1+(n-1)) n=1):q ∣ r-1:=by
 rw[EL n k a (n-1) 1 oM b,Xi]at e;rw[EL n k a _ 1 (Nat.lt_of_le_of_lt (Nat.div_le_self _ _) oM) b,Xi]at d;exact part g f c b e (XM hd) d
/-! the two primes -/
theorem x21: IsP 1627771:=small (k:=1275) dC dK dC
theorem x30:IsP 545358713:=small (k:=23352) dC dK dC
theorem x26:IsP 44706919:=small (k:=6686) dC dK dC
theorem x17:IsP 120233:=small (k:=346) dC dK dC
theorem x27:IsP 107590001:=small (k:=10372) dC dK dC
theorem x23:IsP 7240687:=small (k:=2690) dC dK dC
theorem x16:IsP 96557:=small (k:=310) dC dK dC
theorem x39:IsP 297159362677:=
 B9 (f:=1627771) dC dK (λr b hd=>part' (k:=39) (a:=2) x21 b hd dC dK dK dK dK)
theorem c95:IsP 29047611873442575647497758179:=
 B9 (f:=(545358713*297159362677)) dC dK (λr b hd=>WV dK (part' (k:=95) (a:=2) x30 b hd dC dK dK dK dK) (part' (k:=95) (a:=2) x39 b hd dC dK dK dK dK))
theorem b68:IsP 174723607534414371449:=
 B9 (f:=(44706919*120233)) dC dK (λr b hd=>WV dK (part' (k:=68) (a:=2) x26 b hd dC dK dK dK dK) (part' (k:=68) (a:=2) x17 b hd dC dK dK dK dK))
theorem c109:IsP 341948486974166000522343609283189:=
 B9 (f:=29047611873442575647497758179) dC dK (λr b hd=>part' (k:=109) (a:=2) c95 b hd dC dK dK dK dK)
theorem pN:IsP 115792089237316195423570985008687907852837564279074904382605163141518161494337:=
 B9 (f:=(174723607534414371449*341948486974166000522343609283189)) dC dK (λr b hd=>WV dK (part' (k:=256) (a:=2) b68 b hd dC dK dK dK dK) (part' (k:=256) (a:=2) c109 b hd dC dK dK dK dK))
theorem e128:IsP 255515944373312847190720520512484175977:=
 B9 (f:=(107590001*7240687*96557)) dC dK (λr b hd=>WV dK (WV dK (part' (k:=128) (a:=2) x27 b hd dC dK dK dK dK) (part' (k:=128) (a:=2) x23 b hd dC dK dK dK dK)) (part' (k:=128) (a:=2) x16 b hd dC dK dK dK dK))
theorem TD:IsP 205115282021455665897114700593932402728804164701536103180137503955397371:=
 B9 (f:=255515944373312847190720520512484175977) dC dK (λr b hd=>part' (k:=237) (a:=2) e128 b hd dC dK dK dK dK)
theorem pP:IsP 115792089237316195423570985008687907853269984665640564039457584007908834671663:=
 B9 (f:=205115282021455665897114700593932402728804164701536103180137503955397371) dC dK (λr b hd=>part' (k:=256) (a:=2) TD b hd dC dK dK dK dK)
end NT
namespace EC
structure Line{P:Nat}[NeZero P](x1 y1 x2 y2 l:Fin P):Prop where
 go:y2=y1+l*(x2-x1)
 on:l*(y1+y2)=x1^2+x1*x2+x2^2
variable {P:Nat}[NeZero P]
theorem Ce(k d c f l b g:Fin P)(n:d^2=k^3+7)(m:f^2=c^3+7)(i:Line k d c f l)(hx:b=l^2-k-c)(j:g=l*(k-b)-d):g^2=b^3+7:=by
 obtain⟨e,h⟩:=i;subst j hx e
 grobner
theorem Nj(k j d e g i f n b m c l:Fin P)(t:Line k j d f g)(p:Line d f e n i)
 (s:b=g^2-k-d) (q:m=g*(k-b)-j) (o:c=i^2-d-e) (u:l=i*(d-c)-f) :
 ((m-n)^2-(b+e)*(b-e)^2)*(c-k)^2=((l-j)^2-(k+c)*(c-k)^2)*(b-e)^2:=by
 obtain⟨r,w⟩:=t;obtain⟨e3,v⟩:=p;subst q u s o e3 r
 grobner
theorem Ni(c g e k m n j f b i d l:Fin P)(t:Line c g e j m)(p:Line e j k f n)
 (s:b=m^2-c-e) (q:i=m*(c-b)-g) (o:d=n^2-e-k) (u:l=n*(e-d)-j) :
 ((i-f)^2-(k+b)*(b-k)^2)*((l-g)*(b-k)-(i-f)*(d-c))+(b-k)^2*(((i-f)*k-f*(b-k))*(d-c)-((l-g)*c-g*(d-c))*(b-k))=0:=by
 obtain⟨r,w⟩:=t;obtain⟨e3,v⟩:=p;subst q u s o e3 r
 grobner (ringSteps:=100000000)
theorem J9(k j d b g i f e c l:Fin P)(r:Line k j d f g)(n:Line d f b e i)
 (q:b=g^2-k-d) (o:e=g*(k-b)-j) (m:c=i^2-d-b) (s:l=i*(d-c)-f) :
 (9*b^4-8*b*e^2)*(c-k)^2=((l-j)^2-(k+c)*(c-k)^2)*(4*e^2):=by
 obtain⟨p,u⟩:=r;obtain⟨e3,t⟩:=n;subst s m o q p
 grobner (ringSteps:=100000000)
theorem J8(c f d b i j g k e l:Fin P)(r:Line c f d g i)(n:Line d g b k j)
 (q:b=i^2-c-d) (o:k=i*(c-b)-f) (m:e=j^2-d-b) (s:l=j*(d-e)-g) :
 (3*b^2*(b*(4*k^2)-(9*b^4-8*b*k^2))-2*k^2*(4*k^2))*(e-c)=((l-f)*(c*(4*k^2)-(9*b^4-8*b*k^2))-f*(e-c)*(4*k^2))*(2*k):=by
 obtain⟨p,u⟩:=r;obtain⟨e3,t⟩:=n;subst s m o q p
 grobner (ringSteps:=100000000)
end EC
namespace EC
variable {P:Nat}[NeZero P]
theorem val_zero:(0:Fin P).val=0:=by simp
theorem val_one(h:NT.IsP P):(1:Fin P).val=1:=by
 have k:=h.1;show 1%P=1;exact US oM
theorem nzd(h:NT.IsP P){a b:Fin P}(e:a*b=0):a=0\/b=0:=by
 have c:a.val*b.val%P=0:=by
  have:=congrArg yA8 e;rw[XJ,val_zero]at this;exact this
 rcases h.euclid (XM c)with k|k
 ·exact U4 (X8 (by rw[val_zero];exact YV k a.isLt))
 ·exact UX (X8 (by rw[val_zero];exact YV k b.isLt))
theorem cI(h:NT.IsP P){a b:Fin P}(k:a≠0)(c:b≠0):a*b≠0:=λe=>(nzd h e).elim k c
theorem cancel(h:NT.IsP P){a b c:Fin P}(d:a≠0)(e:b*a=c*a):b=c:=by
 have f:(b-c)*a=0:=by grobner
 rcases nzd h f with k|k
 ·grobner
 ·exact absurd k d
def inv(a:Fin P):Fin P:=Fin.ofNat P (a.val^(P-2))
theorem inv_mul(h:NT.IsP P){a:Fin P}(k:a≠0):inv a*a=1:=by
 apply X8;have c:=h.1;have b:¬P ∣ a.val:=λhd=>k (X8 (by rw[val_zero];exact YV hd a.isLt))
 rw[XJ,val_one h];show a.val^(P-2)%P*a.val%P=1;rw[yBm,<-V7,show(P-2).succ=P-1 by omega];exact h.fermat1 _ b
abbrev Pt(P:Nat):=Option (Fin P × Fin P)
def On:Pt P->Prop
 | none=>True
 | some (x,y)=>y^2=x^3+7
def neg:Pt P->Pt P
 | none=>none
 | some (x,y)=>some (x,-y)
def mW(k b c d:Fin P):Fin P:=if k=c then 3*k^2*inv (2*b) else(d-b)*inv (c-k)
def third(k c b l:Fin P):Pt P:=some (l^2-k-b,l*(k-(l^2-k-b))-c)
def add:Pt P->Pt P->Pt P
 | none,b=>b
 | a,none=>a
 | some (x1,y1),some (x2,y2)=>if x1=x2/\y2 = -y1 then none else third x1 y1 x2 (mW x1 y1 x2 y2)
theorem pU(h:NT.IsP P){x b k:Fin P}(d:b^2=x^3+7)(c:k^2=x^3+7)(ho:¬k = -b):k=b:=by
 have e:(k-b)*(k+b)=0:=by grobner
 rcases nzd h e with e|e
 ·grobner
 ·exact absurd (by grobner) ho
theorem v8{x k:Fin P}(h:NT.IsP P)(b:(2:Fin P)≠0)(ho:¬(x=x/\k = -k)):2*k≠0:=λe=>by
 rcases nzd h e with e|e
 ·exact b e
 ·exact ho ⟨rfl,by rw[e];grobner⟩
theorem bR(h:NT.IsP P)(g:(2:Fin P)≠0){k d b c:Fin P}(f:d^2=k^3+7)(i:c^2=b^3+7)(ho:¬(k=b/\c = -d)):Line k d b c (mW k d b c):=by
 unfold mW;by_cases hx:k=b
 ·subst hx;rw[yCj rfl];have j:=pU h f i (λe=>ho ⟨rfl,e⟩);subst j;have l:=inv_mul h (v8 h g ho);exact⟨by grobner,by grobner⟩
 ·rw[yCk hx];have hd:b-k≠0:=λe=>hx (by grobner)
  have l:=inv_mul h hd;refine⟨by grobner,cancel h hd (by grobner)⟩
theorem Cl(h:NT.IsP P)(j:(2:Fin P)≠0){k d b c l m:Fin P}(g:d^2=k^3+7)(i:c^2=b^3+7)(ho:¬(k=b/\c = -d))(L:Line k d b c l)(M:Line k d b c m):l=m:=by
 obtain⟨n,b1⟩:=L;obtain⟨a2,o⟩:=M;by_cases hx:k=b
 ·subst hx;have f:=pU h g i (λe=>ho ⟨rfl,e⟩);subst f;exact cancel h (v8 h j ho) (by grobner)
 ·have hd:b-k≠0:=λe=>hx (by grobner)
  exact cancel h hd (by grobner)
theorem cD(h:NT.IsP P)(f:(2:Fin P)≠0){k c b d l:Fin P}(e:c^2=k^3+7)(g:d^2=b^3+7)(ho:¬(k=b/\d = -c))(L:Line k c b d l):add (some (k,c)) (some (b,d))=third k c b l:=by
 show(if k=b/\d = -c then none else third k c b (mW k c b d))=_;rw[yCk ho,Cl h f e g ho (bR h f e g ho) L]
theorem iW{k c b d:Fin P}(ho:k=b/\d = -c):add (some (k,c)) (some (b,d))=none:=by
 show(if k=b/\d = -c then none else third k c b (mW k c b d))=_;rw[yCj ho]
theorem bK(a:Pt P):add a none=a:=by cases a<;>rfl
theorem Line.swap{k e d c l:Fin P}(L:Line k e d c l):Line d c k e l:=by
 obtain⟨a,b⟩:=L;exact⟨by grobner,by grobner⟩
theorem C9{k e c d l:Fin P}(L:Line k e c d l):third k e c l=third c d k l:=by
 obtain⟨a,b⟩:=L;unfold third;have f:l^2-k-c=l^2-c-k:=by grobner
 have g:l*(k-(l^2-k-c))-e=l*(c-(l^2-c-k))-d:=by grobner
 rw[g,f]
theorem add_comm(h:NT.IsP P)(c:(2:Fin P)≠0)(a b:Pt P)(k:On a)(f:On b):add a b=add b a:=by
 rcases a with _|⟨g,l⟩
 ·rw[bK];rfl
 ·rcases b with _|⟨j,i⟩
  ·rfl
  ·by_cases ho:g=j/\i = -l
   ·rw[iW ho,iW ⟨ho.1.symm,by rw[ho.2];grobner⟩]
   ·have d:¬(j=g/\l = -i):=λe=>ho ⟨e.1.symm,by rw[e.2];grobner⟩
    have L:=bR h c k f ho;rw[cD h c k f ho L,cD h c f k d L.swap,C9 L]
theorem Ek(h:NT.IsP P)(f:(2:Fin P)≠0)(a b:Pt P)(k:On a)(c:On b):On (add a b):=by
 rcases a with _|⟨d,i⟩
 ·exact c
 ·rcases b with _|⟨g,e⟩
  ·exact k
  ·by_cases ho:d=g/\e = -i
   ·rw[iW ho];trivial
   ·have L:=bR h f k c ho;rw[cD h f k c ho L];exact Ce d i g e _ _ _ k c L rfl rfl
theorem cE{a:Pt P}(h:On a):On (neg a):=by
 rcases a with _|⟨x,y⟩
 ·trivial
 ·have k:y^2=x^3+7:=h;show(-y)^2=x^3+7
  grobner
theorem neg_neg'(a:Pt P):neg (neg a)=a:=by
 rcases a with _|⟨x,y⟩
 ·rfl
 ·show some (x,- -y)=some (x,y);have:- -y=y:=by grobner
  rw[this]
theorem add_neg(a:Pt P):add a (neg a)=none:=by
 rcases a with _|⟨x,y⟩
 ·rfl
 ·exact iW ⟨rfl,rfl⟩
theorem Line.neg{k e d c l:Fin P}(L:Line k e d c l):Line k (-e) d (-c) (-l):=by
 obtain⟨a,b⟩:=L;exact⟨by grobner,by grobner⟩
theorem neg_add(h:NT.IsP P)(i:(2:Fin P)≠0){a b:Pt P}(g:On a)(m:On b):neg (add a b)=add (neg a) (neg b):=by
 rcases a with _|⟨k,d⟩
 ·rfl
 ·rcases b with _|⟨c,f⟩
  ·rfl
  ·by_cases ho:k=c/\f = -d
   ·rw[iW ho];exact(iW ⟨ho.1,by rw[ho.2]⟩).symm
   ·have L:=bR h i g m ho;have j:¬(k=c/\-f = - -d):=λe=>ho ⟨e.1,by have:=e.2;grobner⟩
    rw[cD h i g m ho L];refine Eq.trans ?_ (cD h i (cE (a:=some (k,d)) g) (cE (a:=some (c,f)) m) j L.neg).symm;generalize mW k d c f=l;unfold third;show some (l^2-k-c,-(l*(k-(l^2-k-c))-d))=some ((-l)^2-k-c,-l*(k-((-l)^2-k-c)) - -d);have n:(-l)^2=l^2:=by grobner
    rw[n];have o:-(l*(k-(l^2-k-c))-d) = -l*(k-(l^2-k-c)) - -d:=by grobner
    rw[o]
theorem Line.back{k c e i l d f:Fin P}(L:Line k c e i l)(g:d=l^2-k-e)(j:f=l*(k-d)-c):Line k (-c) d f (-l):=by
 obtain⟨a,b⟩:=L;subst j g a;exact⟨by grobner,by grobner (ringSteps:=10000000)⟩
theorem Qd{b c k l:Fin P}(d:k=l^2-b-c):(-l)^2-b-k=c:=by
 subst d
 grobner
theorem Qc{b d k c l:Fin P}(a:c=k+l*(d-b)):-l*(b-d) - -k=c:=by
 subst a
 grobner
theorem O5{x y:Fin P}(z:y=0)(k:y^2=x^3+7):x^3+7=0:=by
 grobner
theorem Cf(h:NT.IsP P)(m:(2:Fin P)≠0)(y:∀x:Fin P,x^3+7≠0){b c:Pt P}(g:On b)(i:On c):add (neg b) (add b c)=c:=by
 rcases b with _|⟨d,f⟩
 ·rfl
 ·rcases c with _|⟨n,s⟩
  ·rw[bK];exact iW ⟨rfl,by grobner⟩
  ·have r:=g;have w:=i;by_cases ho:d=n/\s = -f
   ·rw[iW ho,bK,ho.1,ho.2];rfl
   ·have L:=bR h m g i ho;have k:=Ce d f n s _ _ _ g i L rfl rfl;rw[cD h m g i ho L];generalize mW d f n s=l at L k;obtain⟨j,o⟩:∃j,j=l^2-d-n:=⟨_,rfl⟩
    unfold third;rw[<-o]at k⊢;obtain⟨q,t⟩:∃q,q=l*(d-j)-f:=⟨_,rfl⟩
    rw[<-t]at k⊢;have M:=L.back o t;have a:=L.go;have p:¬(d=j/\q = - -f):=λe=>by
     obtain⟨u,v⟩:=e;have z:2*f=0:=by
      grobner
     rcases nzd h z with z|z
     ·exact m z
     ·exact y d (O5 z r)
    refine(cD h m (cE (a:=some (d,f)) g) k p M).trans ?_;unfold third;rw[Qd o,Qc a]
theorem RZ(h:NT.IsP P){k d b c n j e o i l:Fin P}(f:b-d≠0)(m:c-k≠0)(p:e-j=i*(b-d))(g:o-n=l*(c-k))
 (hx:((e-j)^2-(b+d)*(b-d)^2)*(c-k)^2=((o-n)^2-(k+c)*(c-k)^2)*(b-d)^2):i^2-b-d=l^2-k-c:=by
 rw[p,g]at hx;clear p g;refine cancel h (cI h (cI h f f) (cI h m m)) ?_
 grobner
theorem RY(h:NT.IsP P){d k c j m i l o g p X:Fin P}(n:c-k≠0)(w:j-d≠0)(s:l-i=g*(c-k))(v:o-m=p*(j-d))(r:g^2-c-k=X)
 (f:((l-i)^2-(k+c)*(c-k)^2)*((o-m)*(c-k)-(l-i)*(j-d))+(c-k)^2*(((l-i)*k-i*(c-k))*(j-d)-((o-m)*d-m*(j-d))*(c-k))=0):g*(c-X)-l=p*(d-X)-m:=by
 rw[s,v]at f;have u:l=i+g*(c-k):=by clear f r;grobner
 have q:c+k=g^2-X:=by clear f;grobner
 rw[u];obtain⟨a,x⟩:∃a,c-k=a:=⟨_,rfl⟩
 rw[x]at n f⊢;generalize j-d=b at w f;have t:(p*(d-X)-m-(g*(k-X)-i))*(a*a*a*b)=0:=by
  have y:k+c=g^2-X:=by rw[<-q];clear f;grobner
  rw[y]at f
  grobner
 rcases nzd h t with e|e
 ·have y:c=k+a:=by clear f t e q u r s v;grobner
  rw[y]
  grobner
 ·exact absurd e (cI h (cI h (cI h n n) n) w)
theorem Sx(h:NT.IsP P){k d b l c m f i:Fin P}(n:2*c≠0)(j:b-k≠0)(g:f*(2*c)=3*d^2)(o:m-l=i*(b-k))
 (hx:(9*d^4-8*d*c^2)*(b-k)^2=((m-l)^2-(k+b)*(b-k)^2)*(4*c^2)):f^2-d-d=i^2-k-b:=by
 rw[o]at hx;refine cancel h (cI h (cI h n n) (cI h j j)) ?_;have e:9*d^4=(f*(2*c))*(f*(2*c)):=by rw[g];clear hx g;grobner
 rw[e]at hx
 grobner
theorem Sw(h:NT.IsP P){c b g i k o d m X:Fin P}(l:2*k≠0)(r:g-c≠0)(f:d*(2*k)=3*b^2)(p:o-i=m*(g-c))(n:d^2-b-b=X)
 (j:(3*b^2*(b*(4*k^2)-(9*b^4-8*b*k^2))-2*k^2*(4*k^2))*(g-c)=((o-i)*(c*(4*k^2)-(9*b^4-8*b*k^2))-i*(g-c)*(4*k^2))*(2*k)):d*(b-X)-k=m*(c-X)-i:=by
 rw[p]at j;have e:9*b^4-8*b*k^2=X*(4*k^2):=by
  have q:9*b^4=(d*(2*k))*(d*(2*k)):=by rw[f];clear j f;grobner
  rw[q,<-n]
  grobner
 rw[e,<-f]at j;clear e f n;refine cancel h (cI h (cI h (cI h l l) l) r) ?_
 grobner
theorem pJ{a b:Fin P}(h:¬a=b):a-b≠0:=λe=>h (by grobner)
theorem Line.run{k d c b l:Fin P}(L:Line k d c b l):b-d=l*(c-k)/\d-b=l*(k-c):=by
 obtain⟨a,-⟩:=L;exact⟨by grobner,by grobner⟩
theorem Line.at{x y l:Fin P}(L:Line x y x y l):l*(2*y)=3*x^2:=by
 obtain⟨-,b⟩:=L
 grobner
theorem OC{m l d:Fin P}(s:m^2=l^2):(m*d)^2=(l*d)^2:=by grobner
theorem ML{b k:Fin P}(s:(b - -k)^2=(b-k)^2):4*(b*k)=0:=by grobner
theorem TP{m l k b c:Fin P}(r:m^2-b-k=c)(e:c=l^2-k-b):m^2=l^2:=by grobner
theorem QJ{x l a b:Fin P}(e:x=l^2-a-b):x=l^2-b-a:=by grobner
theorem QI{c k e d b g l:Fin P}(L:Line c k e d l)(f:g=l*(c-b)-k):g=l*(e-b)-d:=by
 obtain⟨a,-⟩:=L
 grobner
theorem four_ne(h:NT.IsP P)(k:(2:Fin P)≠0):(4:Fin P)≠0:=λe=>by
 have:(2:Fin P)*2=0:=by grobner
 rcases nzd h this with e|e<;>exact k e
theorem Cc{y z:Fin P}(e:y = -z):z = -y:=by grobner
theorem An(h:NT.IsP P)(r:(2:Fin P)≠0){b f d l j i m n k o c g:Fin P}(G:i^2=j^3+7)(I:f^2=b^3+7)
 (z:Line b f d l m) (v:Line d l j i n) (y:k=m^2-b-d) (w:o=m*(b-k)-f) (u:c=n^2-d-j) (a:g=n*(d-c)-l)
 (F:o^2=k^3+7) (J:g^2=c^3+7) (s:¬(k=j/\i = -o)) (H:¬(b=c/\g = -f)) (hx:¬c=b) :
 add (some (k,o)) (some (j,i))=add (some (b,f)) (some (c,g)):=by
 have p:=bR h r F G s;have q:=bR h r I J H;rw[cD h r F G s p,cD h r I J H q];unfold third;by_cases hd:k=j
 ·have K:=pU h F (hd ▸ G) (λe=>s ⟨hd,e⟩);subst hd K;have t:=v8 (x:=k) h r s;have D:=Sx h t (pJ hx) p.at q.run.1 (J9 b f d k m n l i c g z v y w u a);have E:=Sw h t (pJ hx) p.at q.run.1 rfl (J8 b f d k m n l i c g z v y w u a);rw[E,D]
 ·have D:=RZ h (pJ hd) (pJ hx) p.run.2 q.run.1 (Nj b f d j m n l i k o c g z v y w u a);have E:=RY h (pJ hd) (pJ hx) p.run.2 q.run.1 rfl (Ni b f d j m n l i k o c g z v y w u a);rw[E,D]
theorem add_assoc(h:NT.IsP P)(l:(2:Fin P)≠0)(h7:∀x:Fin P,x^3+7≠0)(a b c:Pt P)(g:On a)(k:On b)(n:On c):add (add a b) c=add a (add b c):=by
 have comm:=λ(a b:Pt P) (g:On a) (k:On b)=>add_comm h l a b g k
 have f:=Ek h l a b g k;have i:=Ek h l b c k n;have H:∀ {u v:Pt P},On u->On v->add (neg u) (add u v)=v:=λhu hv=>Cf h l h7 hu hv
 by_cases z1:b=neg a
 ·subst z1;rw[add_neg];have:=H k n;rw[neg_neg']at this;exact this.symm
 by_cases Y:c=neg b
 ·subst Y;rw[add_neg,bK,comm _ _ f n,comm a b g k];exact H k g
 by_cases w:c=neg (add a b)
 ·subst w;rw[add_neg];have e:add b (neg (add a b))=neg a:=by
   rw[comm a b g k,neg_add h l k g];have:=H (cE k) (cE g);rw[neg_neg']at this;exact this
  rw[e,add_neg]
 by_cases r:add b c=neg a
 ·rw[r,add_neg];have e:a=neg (add b c):=by rw[r,neg_neg']
  have j:add a b=neg c:=by
   rw[comm a b g k,e,neg_add h l k n];have:=H (cE k) (cE n);rw[neg_neg']at this;exact this
  rw[j,comm _ _ (cE n) n,add_neg]
 rcases a with _|⟨p,t⟩
 ·rfl
 rcases b with _|⟨j,q⟩
 ·rfl
 rcases c with _|⟨A,K⟩
 ·rw[bK,bK]
 have V:¬(p=j/\q = -t):=λe=>z1 (by rw[e.1,e.2];rfl)
 have w2:¬(j=A/\K = -q):=λe=>Y (by rw[e.1,e.2];rfl)
 have D:=bR h l g k V;have G:=bR h l k n w2;have C:=cD h l g k V D;have B:=cD h l k n w2 G;rw[C]at f w⊢;rw[B]at i r⊢;generalize mW p t j q=Z at D C f w⊢;generalize mW j q A K=l2 at G B i r⊢;unfold third at f i w r C B⊢;obtain⟨E,I⟩:∃E,E=Z^2-p-j:=⟨_,rfl⟩
 obtain⟨J,Q⟩:∃J,J=l2^2-j-A:=⟨_,rfl⟩
 rw[<-I]at f w C⊢;rw[<-Q]at i r B⊢;obtain⟨O,R⟩:∃O,O=Z*(p-E)-t:=⟨_,rfl⟩
 obtain⟨N,X⟩:∃N,N=l2*(j-J)-q:=⟨_,rfl⟩
 rw[<-R]at f w C⊢;rw[<-X]at i r B⊢;have U:¬(E=A/\K = -O):=λe=>w (by rw[e.2,<-e.1];rfl)
 have W:¬(p=J/\N = -t):=λe=>r (by rw[e.2,<-e.1];rfl)
 by_cases hx:J=p
 ·have hy:N=t:=by
   have s:=i;rw[hx]at s;exact pU h g s (λe=>W ⟨hx.symm,e⟩)
  by_cases hd:E=A
  ·exfalso;have T:K=O:=by
    have s:=f;exact pU h s (hd ▸ n) (λe=>U ⟨hd,e⟩)
   have L:=H k n;rw[B,hx,hy]at L;rw[hd,<-T]at C;have S:¬p=j:=λe=>by
    subst e;have s:=pU h g k (λe=>V ⟨rfl,e⟩);subst s;rw[comm _ _ (cE k) g,add_neg]at L;cases L
   have u1:¬(j=p/\t = - -q):=λe=>S e.1.symm
   have M:=bR h l (cE (a:=some (j,q)) k) g u1;have r2:=cD h l (cE (a:=some (j,q)) k) g u1 M;have F:third j (-q) p (mW j (-q) p t)=some (A,K):=r2.symm.trans L;generalize mW j (-q) p t=m at M F;unfold third at F;have r4:m^2-j-p=A:=by injection F with F;injection F
   have k1:=M.run.1;have k2:=D.run.2;rw[hd]at I;have s2:=OC (d:=p-j) (TP r4 I);rw[<-k1,<-k2]at s2;have k3:=ML s2;have s:∀ {x y:Fin P},y^2=x^3+7->y≠0:=λo z=>h7 _ (O5 z o)
   rcases nzd h k3 with e|e
   ·exact four_ne h l e
   ·rcases nzd h e with e|e
    ·exact s g e
    ·exact s k e
  ·-- the same,from the other side
   have s:=An h l g n G.swap D.swap (QJ Q) (QI G X) (QJ I) (QI D R) i f (λe=>W ⟨e.1.symm,Cc e.2⟩) (λe=>U ⟨e.1.symm,Cc e.2⟩) hd;rw[comm _ _ f n,comm _ _ g i];exact s.symm
 ·exact An h l n g D G I R Q X f i U W hx
structure Cur(P:Nat)[NeZero P]:Prop where
 pr:NT.IsP P
 two:(2:Fin P)≠0
 sev:∀x:Fin P,x^3+7≠0
theorem Cur.y_ne(C:Cur P){a b:Fin P}(h:On (some (a,b))):b≠0:=λe=>C.sev a (O5 e h)
theorem Cur.opp_ne(C:Cur P){a b:Fin P}(h:On (some (a,b))):¬(a=a/\b = -b):=λe=>by
 have k:2*b=0:=by
  have:=e.2
  grobner
 exact cI C.pr C.two (C.y_ne h) k
def Jac(x y z:Fin P):Pt P->Prop
 | none=>z=0
 | some (a,b)=>z≠0/\x=a*z^2/\y=b*z^3
def Pair(x y:Fin P):Pt P->Prop
 | none=>x=0/\y=0
 | some (a,b)=>x=a/\y=b
def dbl(n:Fin P):Fin P:=n+n
def twB(x y:Fin P):Fin P:=dbl (dbl (x*(y*y)))
def twS(x:Fin P):Fin P:=dbl (x*x)+x*x
def twX(x y:Fin P):Fin P:=twS x*twS x-dbl (twB x y)
def twY(x y:Fin P):Fin P:=twS x*(twB x y-twX x y)-dbl (dbl (dbl (y*y*(y*y))))
def twZ(y z:Fin P):Fin P:=dbl (y*z)
theorem Ti{a b l x y z:Fin P}(g:l*(2*b)=3*a^2)(c:x=a*z^2)(k:y=b*z^3):twX x y=(l^2-a-a)*twZ y z^2:=by
 subst c k;unfold twX twS twB twZ dbl
 grobner (ringSteps:=100000000)
theorem Tg{a b l x y z X:Fin P}(g:l*(2*b)=3*a^2)(d:x=a*z^2)(k:y=b*z^3)(c:twX x y=X*twZ y z^2):twY x y=(l*(a-X)-b)*twZ y z^3:=by
 subst d k;unfold twY;rw[c];unfold twS twB twZ dbl
 grobner (ringSteps:=100000000)
theorem Tf(C:Cur P){b y z:Fin P}(f:b≠0)(k:z≠0)(c:y=b*z^3):twZ y z≠0:=λe=>by
 have d:2*b*(z*z*(z*z))=0:=by
  unfold twZ dbl at e;subst c
  grobner
 exact cI C.pr (cI C.pr C.two f) (cI C.pr (cI C.pr k k) (cI C.pr k k)) d
theorem Jac.twice(C:Cur P){x y z:Fin P}{p:Pt P}(h:Jac x y z p)(k:On p):Jac (twX x y) (twY x y) (twZ y z) (add p p):=by
 match p,h,k with
 | none,h,_ =>
  have c:=h;show twZ y z=0;subst c;unfold twZ dbl
  grobner
 | some (a,b),h,k =>
  obtain⟨e,d,c⟩:=h;have ho:=C.opp_ne k;have L:=bR C.pr C.two k k ho;rw[cD C.pr C.two k k ho L];have hx:=Ti L.at d c;exact⟨Tf C (C.y_ne k) e c,hx,Tg L.at d c hx⟩
def cN(b k:Fin P):Fin P:=b*(k*k)
def eK(b k:Fin P):Fin P:=b*(k*k)*k
def plX(k c bx b:Fin P):Fin P:=(b-c)*(b-c)-(bx-k)*(bx-k)*(bx-k)-dbl ((bx-k)*(bx-k)*k)
def plY(k b bx c:Fin P):Fin P:=(c-b)*((bx-k)*(bx-k)*k-plX k b bx c)-(bx-k)*(bx-k)*(bx-k)*b
def plZ(b k c bx:Fin P):Fin P:=b*k*(bx-c)
theorem TG{a b c d l t k f bx e Z:Fin P}(g:d-b=l*(c-a))(j:k=a*t^2)(n:f=b*t^3)(e3:bx=c*t^2)(o:e=d*t^3)(i:Z=t*(bx-k)):plX k f bx e=(l^2-a-c)*Z^2:=by
 have m:d=b+l*(c-a):=by grobner
 subst m j n e3 o i;unfold plX dbl
 grobner (ringSteps:=100000000)
theorem TF{a b c d l t k f bx e Z X:Fin P}(g:d-b=l*(c-a))(p:k=a*t^2)(m:f=b*t^3)(e3:bx=c*t^2)(n:e=d*t^3)(o:Z=t*(bx-k))(j:plX k f bx e=X*Z^2):plY k f bx e=(l*(a-X)-b)*Z^3:=by
 unfold plY;rw[j];have i:d=b+l*(c-a):=by grobner
 subst i p m e3 n o
 grobner (ringSteps:=100000000)
theorem AP(C : Cur P){a c t : Fin P}{k : Nat}(ht : t ≠ 0)(e : a * t ^ k = c * t ^ k): a = c := by
  have hk : ∀k : Nat, t ^ k ≠ 0 := λk => by
    induction k with
    | zero => intro h; exact ht (by have h2 : (1 : Fin P) = 0 := by { rw [← h]; grind }; calc t = t * 1 := by grobner
                                    _ = 0 := by rw [h2]; grobner)
    | succ k ih => intro h; exact cI C.pr ih ht (by rw [<-h]; grind)
  exact cancel C.pr (hk k) e
theorem Jac.plus(C:Cur P){j o f l n e:Fin P}{p q:Pt P}(h:Jac j o f p)(m:On p)(w:Jac l n e q)(i:On q)(E:f≠0)(F:e≠0):
 (cN j e=cN l f/\eK o e=eK n f/\add p q=add p p) \/
 (¬(cN j e=cN l f/\eK o e=eK n f)/\Jac (plX (cN j e) (eK o e) (cN l f) (eK n f)) (plY (cN j e) (eK o e) (cN l f) (eK n f)) (plZ f e (cN j e) (cN l f)) (add p q)):=by
 match p,q,h,m,w,i with
 | none,_,h,_,_,_=>exact absurd h E
 | some (a,b),none,_,_,h,_=>exact absurd h F
 | some (a,b),some (c,d),h,m,w,i =>
  obtain⟨-,z,A⟩:=h;obtain⟨-,B,y⟩:=w;have u:=cI C.pr E F;have s:cN j e=a*(f*e)^2:=by subst z;unfold cN;clear m i;grobner
  have t:eK o e=b*(f*e)^3:=by subst A;unfold eK;clear m i;grobner
  have e3:cN l f=c*(f*e)^2:=by subst B;unfold cN;clear m i;grobner
  have v:eK n f=d*(f*e)^3:=by subst y;unfold eK;clear m i;grobner
  by_cases r:cN j e=cN l f/\eK o e=eK n f
  ·refine U4 ⟨r.1,r.2,?_⟩;have D:a=c:=AP C u (by rw[<-s,<-e3];exact r.1);have g:b=d:=AP C u (by rw[<-t,<-v];exact r.2);rw[D,g]
  ·refine UX ⟨r,?_⟩;by_cases g:a=c
   ·have hd:d = -b:=Wt λD=>r ⟨by rw[s,e3,g],by
     have:=pU C.pr (x:=a) m (by rw[g];exact i) D;rw[t,v,this]⟩
    rw[iW ⟨g,hd⟩];show plZ _ _ _ _=0;rw[s,e3,g];unfold plZ
    grobner
   ·have ho:¬(a=c/\d = -b):=λh=>g h.1
    have L:=bR C.pr C.two m i ho;rw[cD C.pr C.two m i ho L];have D:plZ f e (cN j e) (cN l f)=f*e*(cN l f-cN j e):=rfl;have hx:=TG L.run.1 s t e3 v D;refine⟨?_,hx,TF L.run.1 s t e3 v D hx⟩;rw[D];refine cI C.pr u (λh=>g ?_);exact AP C (k:=2) u (by rw[<-s,<-e3];clear m i L hx;grobner)
theorem Jac.zero(C:Cur P){x y z:Fin P}{p:Pt P}(h:Jac x y z p)(k:z=0):p=none:=by
 match p,h with
 | none,_=>rfl
 | some (a,b),h=>exact absurd k h.1
theorem Jac.neg{x y z:Fin P}{p:Pt P}(h:Jac x y z p):Jac x (0-y) z (neg p):=by
 match p,h with
 | none,h=>exact h
 | some (a,b),h=>exact⟨h.1,h.2.1,by have:=h.2.2;show 0-y = -b*z^3;grobner⟩
theorem inv_zero(C:Cur P):inv (0:Fin P)=0:=by
 apply X8;have k:=C.pr.1;show(0:Fin P).val^(P-2)%P=_;rw[val_zero];by_cases h:P=2
 ·exact absurd (X8 (by rw[val_zero];show 2%P=0;rw[h])) C.two
 ·rw[yBI oM,Nat.zero_mod]
theorem Jac.pair(C:Cur P){x y z:Fin P}{p:Pt P}(h:Jac x y z p):Pair (x*(inv z*inv z)) (y*(inv z*inv z)*inv z) p:=by
 match p,h with
 | none,h =>
  have k:=h;subst k;rw[inv_zero C];exact⟨by grobner,by grobner⟩
 | some (a,b),h =>
  have d:=inv_mul C.pr h.1;obtain⟨-,c,k⟩:=h;subst c k;exact⟨by grobner,by grobner⟩
theorem Pair.jac(C:Cur P){x y:Fin P}{p:Pt P}(h:Pair x y p)(k:¬(x=0/\y=0)):Jac x y 1 p:=by
 match p,h with
 | none,h=>exact absurd h k
 | some (a,b),h =>
  obtain⟨d,c⟩:=h;subst d c;refine⟨λe=>?_,by grobner,by grobner⟩;have:=congrArg yA8 e;rw[val_zero,val_one C.pr]at this;omega
theorem Pair.nothing(C:Cur P){x y:Fin P}{p:Pt P}(h:Pair x y p)(k:On p)(c:x=0/\y=0):p=none:=by
 match p,h,k with
 | none,_,_=>rfl
 | some (a,b),h,k =>
  obtain⟨e,d⟩:=h;exact absurd (by rw[<-d];exact c.2) (C.y_ne k)
def mul:Nat->Pt P->Pt P
 | 0,_=>none
 | n+1,a=>add (mul n a) a
theorem iN:On (none:Pt P):=trivial
theorem jJ(a:Pt P):add none a=a:=rfl
theorem Cur.on(C:Cur P){a b:Pt P}(k:On a)(c:On b):On (add a b):=Ek C.pr C.two a b k c
theorem Cur.comm(C:Cur P){a b:Pt P}(k:On a)(c:On b):add a b=add b a:=add_comm C.pr C.two a b k c
theorem Cur.assoc(C:Cur P){a b c:Pt P}(d:On a)(e:On b)(k:On c):add (add a b) c=add a (add b c):=add_assoc C.pr C.two C.sev a b c d e k
theorem Cur.neg_l(C:Cur P){a:Pt P}(k:On a):add (neg a) a=none:=by
 rw[C.comm (cE k) k,add_neg]
theorem Cur.swap(C:Cur P){a b c d:Pt P}(f:On a)(e:On b)(k:On c)(hd:On d):add (add a b) (add c d)=add (add a c) (add b d):=by
 rw[C.assoc f e (C.on k hd),<-C.assoc e k hd,C.comm e k,C.assoc k e hd,<-C.assoc f k (C.on e hd)]
theorem cG(C:Cur P){a:Pt P}(k:On a):∀n,On (mul n a)
 | 0=>iN
 | n+1=>C.on (cG C k n) k
theorem mul_add(C:Cur P){a:Pt P}(k:On a)(m:Nat):∀n,mul (m+n) a=add (mul m a) (mul n a)
 | 0=>(bK _).symm
 | n+1=>by
  show add (mul (m+n) a) a=add (mul m a) (add (mul n a) a);rw[mul_add C k m n,C.assoc (cG C k m) (cG C k n) k]
def eF:Int->Pt P->Pt P
 | .ofNat n,a=>mul n a
 | .negSucc n,a=>neg (mul (n+1) a)
theorem iM(C:Cur P){a:Pt P}(k:On a):∀n,On (eF n a)
 | .ofNat n=>cG C k n
 | .negSucc n=>cE (cG C k (n+1))
theorem nP(C:Cur P){a:Pt P}(k:On a):∀n,eF (n+1) a=add (eF n a) a
 | .ofNat n=>rfl
 | .negSucc 0=>by
  show(none:Pt P)=add (neg (add none a)) a;rw[jJ,C.neg_l k]
 | .negSucc (n+1)=>by
  show neg (mul (n+1) a)=add (neg (add (mul (n+1) a) a)) a;have b:=cG C k (n+1);rw[neg_add C.pr C.two b k,C.assoc (cE b) (cE k) k,C.neg_l k,bK]
theorem rQ(C:Cur P){a:Pt P}(k:On a)(n:Int):eF (n-1) a=add (eF n a) (neg a):=by
 have h:=nP C k (n-1);rw[Int.sub_add_cancel]at h;rw[h,C.assoc (iM C k _) k (cE k),add_neg,bK]
theorem Bz(C:Cur P){a:Pt P}(k:On a)(m:Int):∀n:Nat,eF (m+n) a=add (eF m a) (eF n a)
 | 0=>by rw[WH,ZR];exact(bK _).symm
 | n+1=>by
  rw[show m+((n+1:Nat):Int)=(m+n)+1 by omega,nP C k,Bz C k m n,show((n+1:Nat):Int)=(n:Int)+1 by omega,nP C k,
   C.assoc (iM C k _) (iM C k _) k]
theorem Bw(C:Cur P){a:Pt P}(k:On a):∀n:Nat,eF (-(n:Int)) a=neg (eF n a)
 | 0=>rfl
 | n+1=>by
  have b:eF (((n+1:Nat):Int)) a=add (eF n a) a:=by rw[show((n+1:Nat):Int)=(n:Int)+1 by omega,nP C k]
  rw[b,neg_add C.pr C.two (iM C k _) k,<-Bw C k n,show -((n+1:Nat):Int) = -(n:Int)-1 by omega,rQ C k]
theorem Bu(C:Cur P){a:Pt P}(k:On a)(m:Int):∀n:Nat,eF (m-n) a=add (eF m a) (eF (-(n:Int)) a)
 | 0=>by rw[WH,Int.sub_zero];exact(bK _).symm
 | n+1=>by
  rw[show m-((n+1:Nat):Int)=(m-n)-1 by omega,rQ C k,Bu C k m n,show -((n+1:Nat):Int) = -(n:Int)-1 by omega,rQ C k,
   C.assoc (iM C k _) (iM C k _) (cE k)]
theorem vU(C:Cur P){a:Pt P}(b:On a)(m n:Int):eF (m+n) a=add (eF m a) (eF n a):=by
 rcases Int.le_total 0 n with h|h
 ·obtain⟨k,rfl⟩:=yAk h;exact Bz C b m k
 ·obtain⟨k,c⟩:=yAk (show 0<=-n by omega);obtain rfl:n = -(k:Int):=oM;rw[<-Bu C b m k,Int.sub_eq_add_neg]
theorem Bv(a:Pt P):eF 1 a=a:=jJ a
theorem Gg(a:Pt P):eF 0 a=none:=rfl
def tot(a:Nat->Pt P):Nat->(Nat->Int)->Pt P
 | 0,_=>none
 | k+1,f=>add (tot a k f) (eF (f k) (a k))
theorem C6(C:Cur P){a:Nat->Pt P}(f:Nat->Int):∀k,(∀i,i<k->On (a i))->On (tot a k f)
 | 0,_=>iN
 | k+1,h=>C.on (C6 C f k λi b=>h i oM) (iM C (h k oM) _)
theorem eJ{a:Nat->Pt P}{f g:Nat->Int}:∀k,(∀i,i<k->f i=g i)->tot a k f=tot a k g
 | 0,_=>rfl
 | k+1,h=>by
  show add (tot a k f) _=add (tot a k g) _;rw[eJ k (λi b=>h i oM),h k oM]
theorem v9(a:Nat->Pt P){f:Nat->Int}:∀k,(∀i,i<k->f i=0)->tot a k f=none
 | 0,_=>rfl
 | k+1,h=>by
  show add (tot a k f) _=none;rw[v9 a k (λi b=>h i oM),h k oM];rfl
theorem AC(C:Cur P){a:Nat->Pt P}(f g:Nat->Int):∀k,(∀i,i<k->On (a i))->tot a k (λj=>f j+g j)=add (tot a k f) (tot a k g)
 | 0,_=>rfl
 | k+1,h=>by
  have c:∀i,i<k->On (a i):=λi d=>h i oM
  have b:=h k oM;show add (tot a k _) (eF (f k+g k) (a k))=add (add (tot a k f) (eF (f k) (a k))) (add (tot a k g) (eF (g k) (a k)));rw[AC C f g k c,vU C b,C.swap (C6 C f k c) (C6 C g k c) (iM C b _) (iM C b _)]
theorem Eu(C:Cur P){a:Nat->Pt P}(i:Nat)(d:Int):∀k,i<k->(∀i,i<k->On (a i))->tot a k (λj=>if j=i then d else 0)=eF d (a i)
 | k+1,hi,h=>by
  show add (tot a k _) (eF (if k=i then d else 0) (a k))=_;by_cases b:k=i
  ·subst b;rw[yCj rfl,v9 a k (λj c=>yCk oM)];rfl
  ·rw[yCk b,Eu C i d k oM (λj c=>h j oM)];exact bK _
theorem Lh(C:Cur P){a:Nat->Pt P}(f:Nat->Int)(i:Nat)(d:Int)(k:Nat)(c:i<k)(h:∀i,i<k->On (a i)):
 tot a k (λj=>if j=i then f j+d else f j)=add (tot a k f) (eF d (a i)):=by
 rw[<-Eu C i d k c h,<-AC C f _ k h];refine eJ k λj _=>?_
 by_cases b:j=i
 ·rw[yCj b,yCj b]
 ·rw[yCk b,yCk b,ZR]
theorem Gl(C:Cur P){a:Nat->Pt P}(f:Nat->Int)(k:Nat)(h:∀i,i<k->On (a i)):tot a k (λj=>2*f j)=add (tot a k f) (tot a k f):=by
 rw[<-AC C f f k h];exact eJ k λj _=>oM
end EC
namespace EC
theorem LI{P c:Nat}(f:NT.IsP P)(l:P=3*c+1)(m:7<P)(i:(P-7)^c%P≠1)(x:Nat):(x*x*x+7)%P≠0:=λe=>by
 have hx:¬P ∣ x:=λhd=>by
  have b:P ∣ x*x*x:=Nat.dvd_mul_left_of_dvd hd _;have k:P ∣ 7:=(Nat.dvd_add_right b).1 (XM e);have:=Yc dC k;omega
 have b:=f.fermat1 x hx;have k:x*x*x%P=P-7:=by
  have g:x*x*x%P<P:=V5 _ oM;have d:(x*x*x%P+7)%P=0:=by rw[yBn];exact e
  by_cases j:x*x*x%P+7<P
  ·rw[US j]at d;omega
  ·rw[yAL oM,US oM]at d;omega
 apply i;rw[<-k,<-yAw];rw[<-b]
 congr 1
 rw[show P-1=3*c by omega,ZO]
 congr 1
 rw[V7,V7,YR]
theorem PY{P c:Nat}[NeZero P](b:NT.IsP P)(d:P=3*c+1)(i:7<P)(g:(P-7)^c%P≠1):Cur P:=by
 refine⟨b,λe=>?_,λx e=>?_⟩
 ·have:=congrArg yA8 e;rw[val_zero]at this;have k:(2:Fin P).val=2%P:=rfl;rw[k,US oM]at this;omega
 ·have f:x*x*x+7=0:=by rw[<-e];grobner
  have:=congrArg yA8 f;rw[val_zero,Fin.val_add,XJ,XJ]at this;have k:(7:Fin P).val=7%P:=rfl;rw[k,yBm,yBn,Nat.add_mod_mod]at this;exact LI b d i g x.val this
theorem My:NT.pm 115792089237316195423570985008687907853269984665640564039457584007908834671663 256 (115792089237316195423570985008687907853269984665640564039457584007908834671663-7) 38597363079105398474523661669562635951089994888546854679819194669302944890554 1≠1:=dK
theorem Q9{P c k:Nat}(b:c<2^k)(d:1<P)(h:NT.pm P k (P-7) c 1≠1):(P-7)^c%P≠1:=λe=>h (by rw[NT.EL P k _ c 1 b d,Xi];exact e)
theorem cur:∃(P:Nat) (_:NeZero P),P=115792089237316195423570985008687907853269984665640564039457584007908834671663/\Cur P:=by
 have f:=NT.pP;have e:=My;have b:115792089237316195423570985008687907853269984665640564039457584007908834671663=3*38597363079105398474523661669562635951089994888546854679819194669302944890554+1:=dK;have d:38597363079105398474523661669562635951089994888546854679819194669302944890554<2^256:=dK;have g:7<115792089237316195423570985008687907853269984665640564039457584007908834671663:=dK;generalize 38597363079105398474523661669562635951089994888546854679819194669302944890554=c at *;generalize 115792089237316195423570985008687907853269984665640564039457584007908834671663=P at *;have k:NeZero P:=⟨oM⟩
 exact⟨P,k,rfl,PY f b g (Q9 d oM e)⟩
end EC
section
structure At4(w:Ur)(k a b c d:Nat):Prop where
 c0:w.cell? ⟨k,0,none⟩=some (uZ a)
 c1:w.cell? ⟨k,1,none⟩=some (uZ b)
 c2:w.cell? ⟨k,2,none⟩=some (uZ c)
 c3:w.cell? ⟨k,3,none⟩=some (uZ d)
 f:∀o,w.frozen? ⟨k,o,none⟩=false
variable {w w1:Ur}{k a b c d:Nat}
theorem At4.lt(h:At4 w k a b c d):k<w.heap.size:=Xo _ _ h.c0
theorem At4.below{B:Nat}(h:At4 w k a b c d)(e:Below B w w1)(f:k<B):At4 w1 k a b c d:=
 ⟨by rw[e.cell (p:=⟨k,0,none⟩) f];exact h.c0,by rw[e.cell (p:=⟨k,1,none⟩) f];exact h.c1,by rw[e.cell (p:=⟨k,2,none⟩) f];exact h.c2,by rw[e.cell (p:=⟨k,3,none⟩) f];exact h.c3,
  λo=>by rw[e.frozen (p:=⟨k,o,none⟩) f];exact h.f o⟩
theorem At4.call(h:At4 w k a b c d)(e:kZ w w1):At4 w1 k a b c d:=h.below e h.lt
theorem At4.alloc(h:At4 w k a b c d)(o:Obj):At4 (w.alloc o) k a b c d:=h.call (aC w o)
theorem At4.drewN(h:At4 w k a b c d)(q:Nat):At4 (w.drewN q) k a b c d:=⟨h.c0,h.c1,h.c2,h.c3,h.f⟩
theorem At4.new(w:Ur)(t:U8)(a b c d:Nat):At4 (w.alloc (.cells #[uZ a,uZ b,uZ c,uZ d] t)) w.heap.size a b c d:=
 ⟨by rw[Vd];rfl,by rw[Vd];rfl,by rw[Vd];rfl,by rw[Vd];rfl,λo=>Wv _ _ _ _⟩
theorem At4.made(w:Ur)(t:U8)(a b c d:Nat){k:Nat}(e:w.heap.size=k):At4 (w.alloc (.cells #[uZ a,uZ b,uZ c,uZ d] t)) k a b c d:=
 e ▸ At4.new w t a b c d
theorem bH{i j:Nat}{o k:Nat}(h:i≠j\/o≠k):(⟨i,o,none⟩:Addr)≠⟨j,k,none⟩:=by
 intro e;simp only[Addr.mk.injEq,and_true]at e;omega
theorem At4.other{j o : Nat}(h : At4 w k a b c d)(hj : j ≠ k)(v : Ut): At4 (w.setCell ⟨j, o, none⟩ v) k a b c d :=
  ⟨by rw [UU _ _ _ _ (bH (U4 hj))]; exact h.c0, by rw [UU _ _ _ _ (bH (U4 hj))]; exact h.c1,
   by rw [UU _ _ _ _ (bH (U4 hj))]; exact h.c2, by rw [UU _ _ _ _ (bH (U4 hj))]; exact h.c3, λo => by rw [VM]; exact h.f o⟩
theorem At4.set0(h : At4 w k a b c d)(x : Nat): At4 (w.setCell (aZ k) (uZ (x : Int))) k x b c d :=
  ⟨VV _ _ _ h.c0, by rw [UU _ _ _ _ (bH (UX dC))]; exact h.c1,
   by rw [UU _ _ _ _ (bH (UX dC))]; exact h.c2, by rw [UU _ _ _ _ (bH (UX dC))]; exact h.c3, λo => by rw [VM]; exact h.f o⟩
theorem At4.set1(h : At4 w k a b c d)(x : Nat): At4 (w.setCell ⟨k, 1, none⟩ (uZ (x : Int))) k a x c d :=
  ⟨by rw [UU _ _ _ _ (bH (UX dC))]; exact h.c0, VV _ _ _ h.c1,
   by rw [UU _ _ _ _ (bH (UX dC))]; exact h.c2, by rw [UU _ _ _ _ (bH (UX dC))]; exact h.c3, λo => by rw [VM]; exact h.f o⟩
theorem At4.set2(h : At4 w k a b c d)(x : Nat): At4 (w.setCell ⟨k, 2, none⟩ (uZ (x : Int))) k a b x d :=
  ⟨by rw [UU _ _ _ _ (bH (UX dC))]; exact h.c0, by rw [UU _ _ _ _ (bH (UX dC))]; exact h.c1,
   VV _ _ _ h.c2, by rw [UU _ _ _ _ (bH (UX dC))]; exact h.c3, λo => by rw [VM]; exact h.f o⟩
theorem At4.set3(h : At4 w k a b c d)(x : Nat): At4 (w.setCell ⟨k, 3, none⟩ (uZ (x : Int))) k a b c x :=
  ⟨by rw [UU _ _ _ _ (bH (UX dC))]; exact h.c0, by rw [UU _ _ _ _ (bH (UX dC))]; exact h.c1,
   by rw [UU _ _ _ _ (bH (UX dC))]; exact h.c2, VV _ _ _ h.c3, λo => by rw [VM]; exact h.f o⟩
theorem At4.drew(h:At4 w k a b c d):At4 w.drew k a b c d:=⟨h.c0,h.c1,h.c2,h.c3,h.f⟩
def set4(w:Ur)(k:Nat)(x y z t:Ut):Ur:=(((w.setCell (aZ k) x).setCell ⟨k,1,none⟩ y).setCell ⟨k,2,none⟩ z).setCell ⟨k,3,none⟩ t
theorem At4.self4(h:At4 w k a b c d)(x y z t:Nat):At4 (set4 w k (uZ x) (uZ y) (uZ z) (uZ t)) k x y z t:=(((h.set0 x).set1 y).set2 z).set3 t
theorem At4.other4{j:Nat}(h:At4 w k a b c d)(e:j≠k)(x y z t:Ut):At4 (set4 w j x y z t) k a b c d:=(((h.other e x).other e y).other e z).other e t
theorem aL{B j:Nat}{b:Ur}(h:Below B b w)(k:B<=j)(x y z t:Ut):Below B b (set4 w j x y z t):=
 (((h.setCell (p:=⟨j,0,none⟩) k x).setCell (p:=⟨j,1,none⟩) k y).setCell (p:=⟨j,2,none⟩) k z).setCell (p:=⟨j,3,none⟩) k t
end
section
variable {P:Nat}[NeZero P]{N:Nat}
structure FoldI(w wr:Ur)(g0 g1 g2 a b c d p q r s:Nat):Prop where
 bl:kZ w wr
 pr:At4 wr w.heap.size g0 g1 g2 0
 lo:At4 wr (w.heap.size+1) a b c d
 hi:At4 wr (w.heap.size+1+1) p q r s
 re:At4 wr (w.heap.size+1+1+1) 0 0 0 0
 ha:a<18446744073709551616
 hb:b<18446744073709551616
 hc:c<18446744073709551616
 hd:d<18446744073709551616
 hp:p<18446744073709551616
 hq:q<18446744073709551616
 hr:r<18446744073709551616
 hs:s<18446744073709551616
theorem Jv{a b c d p q r s g i f t k P gk:Nat}(v:P+val g i f 0=top)(n:top<2*P)(j:val a b c d<top)(m:gk=val a b c d+top*val 0 0 0 0)
 (u:t+top*k=val a b c d+val g i f 0) (e:k<=1) (l:t=val p q r s) (o:t<top):(k=0->val a b c d=gk%P)/\(k=1->val p q r s=gk%P):=by
 have e:gk=val a b c d:=by rw[m];rfl
 rw[e];refine⟨λh=>?_,λh=>?_⟩
 ·subst h;rw[US oM]
 ·subst h;rw[<-l,yAL oM,US oM];omega
theorem KY{p q r s:Nat}(h:¬(p=0/\q=0/\r=0/\s=0)):0<val p q r s:=by unfold val;omega
theorem GK{x h g P gk:Nat}(k:0<h)(b:P+g=top)(d:top<2*P)(c:gk=x+top*h):x+g*h<gk/\(x+g*h)%P=gk%P:=by
 have e:gk=x+g*h+P*h:=by rw[c,<-b,XF];omega
 rw[e,YQ];have:0<P*h:=Nat.mul_pos oM k;exact⟨oM,rfl⟩
theorem Cs{l t a b c d g h x:Nat}(f:g*h+x=l+18446744073709551616*t)(k:t=val a b c d):val l a b c+top*val d 0 0 0=x+val g 0 0 0*h:=by
 have e:val g 0 0 0=g:=by unfold val;omega
 rw[e];unfold val at *;unfold top;omega
theorem val_mul(c k b h:Nat):val c k b 0*h=c*h+18446744073709551616*(k*h)+340282366920938463463374607431768211456*(b*h):=by
 unfold val;rw[XF,XF,XF,X1,X1];omega
theorem xT{i l p r n j h x a b c d q m o s f e g k:Nat}(v:i+18446744073709551616*val a b c d=r*h+x)
 (u:l+18446744073709551616*val q m o s=n*h+val a b c d) (t:p+18446744073709551616*val f e g k=j*h+val q m o s) :
 val i l p f+top*val e g k 0=x+val r n j 0*h:=by
 rw[val_mul];unfold val at *;unfold top;omega
theorem xU(g0 g1 g2:Nat)(x y:Ut)(m n P:Nat)(hj:g0<18446744073709551616)(kc:g1<18446744073709551616)(k6:g2<18446744073709551616)
 (hor:(g1=0/\g2=0)\/∃o:Nat,bits .or .u64 (g1:Int) (g2:Int)=(o:Int)/\o≠0) (hP:P+val g0 g1 g2 0=top) (k9:top<2*P) (hx:Four x m) (hy:Four y n) (w:Ur) :
 UH prog 235 #[.agg #[uZ g0,uZ g1,uZ g2,uZ 0],x,y] w (rZ w λe w'=>Four e ((m+top*n)%P)):=by
 obtain⟨a,b,c,d,rfl,ha,hb,hc,hd,em⟩:=hx;obtain⟨p,q,r,s,rfl,hp,hq,hr,hs,en⟩:=hy;go_enter func235,ntmps235;go_wp2;go_loopg [] (val a b c d+top*val p q r s) (λg wr=>∃(a b c d p q r s:Nat),FoldI w wr g0 g1 g2 a b c d p q r s/\g=val a b c d+top*val p q r s/\Hid (g%P=(m+top*n)%P))
 case atStart =>
  have f:=Ee w (.cells #[uZ g0,uZ g1,uZ g2,uZ 0] 120) (.cells #[uZ a,uZ b,uZ c,uZ d] 118) (.cells #[uZ p,uZ q,uZ r,uZ s] 118) (.cells #[uZ 0,uZ 0,uZ 0,uZ 0] 118);refine⟨a,b,c,d,p,q,r,s,⟨f,?_,?_,?_,?_,ha,hb,hc,hd,hp,hq,hr,hs⟩,rfl,?_⟩
  ·exact(((At4.new w 120 g0 g1 g2 0).alloc _).alloc _).alloc _
  ·exact((At4.made (w.alloc _) 118 a b c d (UB _ _)).alloc _).alloc _
  ·exact(At4.made ((w.alloc _).alloc _) 118 p q r s (by simp)).alloc _
  ·exact At4.made (((w.alloc _).alloc _).alloc _) 118 0 0 0 0 (by simp)
  ·rw[em,en];rfl
 case round =>
  obtain⟨a,b,c,d,p,q,r,s,hI,hg,HE⟩:=hrel;clear em en ha hb hc hd hp hq hr hs;obtain⟨bl,pr,lo,hi,re,ha,hb,hc,hd,hp,hq,hr,hs⟩:=hI;have HB:Hid (Below w.heap.size w wr):=bl;clear bl;generalize F:w.heap.size+1+1+1=C at re⊢;generalize J:w.heap.size+1+1=k2 at hi⊢;generalize E:w.heap.size+1=k1 at lo⊢;have H:Hid (w.heap.size+1=k1/\w.heap.size+1+1=k2/\w.heap.size+1+1+1=C):=⟨E,J,F⟩
  generalize L:w.heap.size=B at pr HB⊢;have H0:Hid (w.heap.size=B):=L;have kg:Hid (B<=k1):=by unfold Hid;omega
  have T:B≠k1:=oM;have kh:B≠k2:=oM;have kv:B≠C:=oM;have n12:k1≠k2:=oM;have W:k1≠C:=oM;have kf:k2≠C:=oM;have z0:=pr.lt;have z1:=lo.lt;have z2:=hi.lt;have z3:=re.lt;clear L E J F;by_cases hz:p=0/\q=0/\r=0/\s=0
  ·obtain⟨rfl,rfl,rfl,rfl⟩:=hz;obtain⟨p0,p1,p2,p3,pf⟩:=id pr;obtain⟨l0,l1,l2,l3,lf⟩:=id lo;obtain⟨L,E,J,F,hf⟩:=id hi;obtain⟨r0,r1,r2,K,rf⟩:=id re;go_wp2_with fail
   refine(qV _ _ _ _ (Four.mk ha hb hc hd rfl) (Four.mk hj kc k6 dC rfl) _).mono ?_;rintro e w1 ⟨v,rfl,f,v4,t,k,rfl,⟨V,S,U,R,rfl,Q,X,Z,Y,D⟩,hk,N⟩;have z:=Jv hP k9 (mO ha hb hc hd) hg N hk D (D ▸ mO Q X Z Y);rw[HE.out]at z;have I:Hid _:=z;clear z;clear p0 p1 p2 p3 pf l0 l1 l2 l3 lf L E J F hf r0 r1 r2 K rf N D hg HE;have j:=lo.call f;have i:=re.call f;have z3:=i.lt;have z1:=j.lt;have G:Hid (Below B w w1):=HB.trans (f.mono oM);obtain⟨l0,l1,l2,l3,lf⟩:=id j;obtain⟨r0,r1,r2,K,rf⟩:=id i;have A:k=0\/k=1:=oM;rcases A with rfl|rfl
   ·go_wp2;have u:=((((i.set0 a).set1 b).set2 c).set3 d).alloc (.cells #[uZ V,uZ S,uZ U,uZ R] 118);refine UE (v:=?v0) ?hr0 rfl ?hR0
    case hr0=>simp[results,Tryz.results235,go_sem,u.c0,u.c1,u.c2,u.c3];rfl
    refine⟨_,rfl,?_,Four.mk ha hb hc hd (I.1 trivial).symm⟩;rw[H0.out];have O:B<=C:=by have:=H.out;have:=H0.out;omega
    have q1:=(((G.setCell (p:=⟨C,0,none⟩) O (uZ a)).setCell (p:=⟨C,1,none⟩) O (uZ b)).setCell (p:=⟨C,2,none⟩) O (uZ c)).setCell (p:=⟨C,3,none⟩) O (uZ d);exact q1.alloc (by simp;omega) _
   ·go_wp2;have u:=((((i.set0 V).set1 S).set2 U).set3 R).alloc (.cells #[uZ V,uZ S,uZ U,uZ R] 118);refine UE (v:=?v1) ?hr1 rfl ?hR1
    case hr1=>simp[results,Tryz.results235,go_sem,u.c0,u.c1,u.c2,u.c3];rfl
    refine⟨_,rfl,?_,Four.mk Q X Z Y (I.2 trivial).symm⟩;rw[H0.out];have O:B<=C:=by have:=H.out;have:=H0.out;omega
    have q1:=(((G.setCell (p:=⟨C,0,none⟩) O (uZ V)).setCell (p:=⟨C,1,none⟩) O (uZ S)).setCell (p:=⟨C,2,none⟩) O (uZ U)).setCell (p:=⟨C,3,none⟩) O (uZ R);exact q1.alloc (by simp;omega) _
  ·go_upto_region 1 with fail
   go_cut [12] from 10 to 72 (λc wx=>c=.bool true/\wr=wx)
   case first =>
    obtain⟨L,E,J,F,hf⟩:=id hi;go_wp2_with fail
    all_goals (go_meet;exact⟨rfl,rfl⟩)
   case rest =>
    obtain⟨rfl,rfl⟩:=hcut;have h5:=GK (KY hz) hP k9 hg;clear hz;obtain⟨p0,p1,p2,p3,pf⟩:=id pr;obtain⟨l0,l1,l2,l3,lf⟩:=id lo;obtain⟨L,E,J,F,hf⟩:=id hi;rcases hor with⟨rfl,rfl⟩|⟨o,ho,ku⟩
    ·have hor:bits .or .u64 0 0=0:=dK;go_wp2_with fail
     refine(jX g0 _ _ _ _ hj (Four.mk hp hq hr hs rfl) (Four.mk ha hb hc hd rfl) _).mono ?_;rintro e w1 ⟨v,rfl,f,l,v4,t,rfl,hl,⟨V,S,U,R,rfl,Q,X,Z,Y,D⟩,N⟩;have j:=(lo.alloc _).call f;have z:=(hi.alloc _).call f;have A:=(pr.alloc _).call f;have i:=(re.alloc _).call f;have u:=(At4.new wr 118 0 0 0 0).call f;have G:Hid (Below B w w1):=(HB.alloc oM _).trans (f.mono (by simp;omega));clear f p0 p1 p2 p3 pf l0 l1 l2 l3 lf L E J F hf lo hi pr re;generalize hm:wr.heap.size=k4 at u z0 z1 z2 z3⊢;clear hm;have m0:B≠k4:=oM;have m1:k1≠k4:=oM;have m2:k2≠k4:=oM;have m3:C≠k4:=oM;have M:Hid (B<k4):=z0;clear z0 z1 z2 z3;have z0:=A.lt;have z1:=j.lt;have z2:=z.lt;have z3:=i.lt;have z4:=u.lt;have I:Hid (g0*val p q r s+val a b c d=l+18446744073709551616*t/\t=val V S U R):=⟨N.symm,D⟩
     have HL:Hid (_/\_):=h5;clear N D h5 hg;obtain⟨p0,p1,p2,p3,pf⟩:=id A;obtain⟨l0,l1,l2,l3,lf⟩:=id j;obtain⟨L,E,J,F,hf⟩:=id z;obtain⟨t0,t1,t2,t3,tf⟩:=id u;go_wp2;go_region
     go_wp2;obtain⟨q1,q2,q3⟩:=H.out;have O:=H0.out;subst q1 q2 q3 O;go_roundg (val l V S U+top*val R 0 0 0)
     case measure=>rw[Cs I.1 I.2];exact HL.1
     case rel =>
      refine⟨l,V,S,U,R,0,0,0,⟨?_,?_,?_,?_,?_,hl,Q,X,Z,Y,dC,dC,dC⟩,rfl,?_⟩
      ·have s1:=(G.setCell (p:=⟨w.heap.size+1,0,none⟩) (Zl _) (uZ l))
       exact(aL (aL (aL s1 (XK M.out) _ _ _ _) (Zl _) _ _ _ _) oM _ _ _ _).drew
      ·exact((((A.other T.symm _).other4 m0.symm _ _ _ _).other4 T.symm _ _ _ _).other4 kh.symm _ _ _ _).drew
      ·exact((((j.set0 l).other4 m1.symm _ _ _ _).self4 l V S U).other4 n12.symm _ _ _ _).drew
      ·exact((((z.other n12 _).other4 m2.symm _ _ _ _).other4 n12 _ _ _ _).self4 R 0 0 0).drew
      ·exact((((i.other W _).other4 m3.symm _ _ _ _).other4 W _ _ _ _).other4 kf _ _ _ _).drew
      ·unfold Hid;rw[Cs I.1 I.2,<-HE.out];exact HL.2
    ·go_wp2_with fail
     refine(jX g0 _ _ _ _ hj (Four.mk hp hq hr hs rfl) (Four.mk ha hb hc hd rfl) _).mono ?_;rintro e w1 ⟨v,rfl,f,l,v4,t,rfl,hl,⟨V,S,U,R,rfl,Q,X,Z,Y,D⟩,N⟩;have j:=(lo.alloc _).call f;have z:=(hi.alloc _).call f;have A:=(pr.alloc _).call f;have i:=(re.alloc _).call f;have u:=(At4.new wr 118 0 0 0 0).call f;have G:Hid (Below B w w1):=(HB.alloc oM _).trans (f.mono (by simp;omega));clear f p0 p1 p2 p3 pf l0 l1 l2 l3 lf L E J F hf lo hi pr re;generalize hm:wr.heap.size=k4 at u z0 z1 z2 z3⊢;clear hm;have m0:B≠k4:=oM;have m1:k1≠k4:=oM;have m2:k2≠k4:=oM;have m3:C≠k4:=oM;have M:Hid (B<k4):=z0;clear z0 z1 z2 z3;have kb:Hid (l+18446744073709551616*val V S U R=g0*val p q r s+val a b c d):=by unfold Hid;rw[<-D];exact N
     have HL:Hid (_/\_):=h5;clear N D h5 hg;have z0:=A.lt;have z1:=j.lt;have z2:=z.lt;have z3:=i.lt;have z4:=u.lt;obtain⟨p0,p1,p2,p3,pf⟩:=id A;obtain⟨l0,l1,l2,l3,lf⟩:=id j;obtain⟨L,E,J,F,hf⟩:=id z;obtain⟨t0,t1,t2,t3,tf⟩:=id u;go_wp2_with fail
     refine(jX g1 _ _ _ _ kc (Four.mk hp hq hr hs rfl) (Four.mk Q X Z Y rfl) _).mono ?_;rintro e w2 ⟨v,rfl,K,l',v5,t,rfl,ko,⟨a2,b2,c2,d2,rfl,km,ki,kt,kk,D⟩,N⟩;have h9:=((j.set0 l).other4 m1.symm _ _ _ _).call K;have h7:=((z.other n12 _).other4 m2.symm _ _ _ _).call K;have h8:=((A.other T.symm _).other4 m0.symm _ _ _ _).call K;have ht:=((i.other W _).other4 m3.symm _ _ _ _).call K;have h6:=((u.other m1 _).self4 V S U R).call K;have kj:Hid (Below B w w2):=((aL (G.setCell (p:=⟨k1,0,none⟩) kg.out _) (XK M.out) _ _ _ _).trans (K.mono (by simp;omega)))
     clear K p0 p1 p2 p3 pf l0 l1 l2 l3 lf L E J F hf t0 t1 t2 t3 tf j z A i u G z0 z1 z2 z3 z4;have ke:Hid (l'+18446744073709551616*val a2 b2 c2 d2=g1*val p q r s+val V S U R):=by unfold Hid;rw[<-D];exact N
     clear N D;have z0:=h8.lt;have z1:=h9.lt;have z2:=h7.lt;have z3:=ht.lt;have z4:=h6.lt;obtain⟨p0,p1,p2,p3,pf⟩:=id h8;obtain⟨l0,l1,l2,l3,lf⟩:=id h9;obtain⟨L,E,J,F,hf⟩:=id h7;obtain⟨t0,t1,t2,t3,tf⟩:=id h6;go_wp2_with fail
     refine(jX g2 _ _ _ _ k6 (Four.mk hp hq hr hs rfl) (Four.mk km ki kt kk rfl) _).mono ?_;rintro e w3 ⟨v,rfl,I,h4,v6,t,rfl,ka,⟨a3,b3,c3,d3,rfl,kr,k8,kn,kp,D⟩,N⟩;have hu:=((h9.set1 l').other4 m1.symm _ _ _ _).call I;have hn:=((h7.other n12 _).other4 m2.symm _ _ _ _).call I;have k5:=((h8.other T.symm _).other4 m0.symm _ _ _ _).call I;have hw:=((ht.other W _).other4 m3.symm _ _ _ _).call I;have k7:=((h6.other m1 _).self4 a2 b2 c2 d2).call I;have kl:Hid (Below B w w3):=((aL (kj.setCell (p:=⟨k1,1,none⟩) kg.out _) (XK M.out) _ _ _ _).trans (I.mono (by simp;omega)))
     clear I p0 p1 p2 p3 pf l0 l1 l2 l3 lf L E J F hf t0 t1 t2 t3 tf h9 h7 h8 ht h6 kj z0 z1 z2 z3 z4;have kd:Hid (h4+18446744073709551616*val a3 b3 c3 d3=g2*val p q r s+val a2 b2 c2 d2):=by unfold Hid;rw[<-D];exact N
     clear N D;have z0:=k5.lt;have z1:=hu.lt;have z2:=hn.lt;have z3:=hw.lt;have z4:=k7.lt;obtain⟨l0,l1,l2,l3,lf⟩:=id hu;obtain⟨L,E,J,F,hf⟩:=id hn;obtain⟨t0,t1,t2,t3,tf⟩:=id k7;go_wp2;go_region
     go_wp2;clear l0 l1 l2 l3 lf L E J F hf t0 t1 t2 t3 tf;obtain⟨q1,q2,q3⟩:=H.out;have O:=H0.out;subst q1 q2 q3 O;go_roundg (val l l' h4 a3+top*val b3 c3 d3 0)
     case measure=>rw[xT kb.out ke.out kd.out];exact HL.1
     case rel =>
      refine⟨l,l',h4,a3,b3,c3,d3,0,⟨?_,?_,?_,?_,?_,hl,ko,ka,kr,k8,kn,kp,dC⟩,rfl,?_⟩
      ·have s1:=(kl.setCell (p:=⟨w.heap.size+1,2,none⟩) (Zl _) (uZ h4))
       have s2:=(aL s1 (XK M.out) (uZ a3) (uZ b3) (uZ c3) (uZ d3))
       exact(aL (s2.setCell (p:=⟨w.heap.size+1,3,none⟩) (Zl _) (uZ a3)) oM _ _ _ _).drew
      ·exact((((k5.other T.symm _).other4 m0.symm _ _ _ _).other T.symm _).other4 kh.symm _ _ _ _).drew
      ·exact((((hu.set2 h4).other4 m1.symm _ _ _ _).set3 a3).other4 n12.symm _ _ _ _).drew
      ·exact((((hn.other n12 _).other4 m2.symm _ _ _ _).other n12 _).self4 b3 c3 d3 0).drew
      ·exact((((hw.other W _).other4 m3.symm _ _ _ _).other W _).other4 kf _ _ _ _).drew
      ·unfold Hid;rw[xT kb.out ke.out kd.out,<-HE.out];exact HL.2
end
section
structure At8(w:Ur)(k a b c d e f g h:Nat):Prop where
 c0:w.cell? ⟨k,0,none⟩=some (uZ a)
 c1:w.cell? ⟨k,1,none⟩=some (uZ b)
 c2:w.cell? ⟨k,2,none⟩=some (uZ c)
 c3:w.cell? ⟨k,3,none⟩=some (uZ d)
 c4:w.cell? ⟨k,4,none⟩=some (uZ e)
 c5:w.cell? ⟨k,5,none⟩=some (uZ f)
 c6:w.cell? ⟨k,6,none⟩=some (uZ g)
 c7:w.cell? ⟨k,7,none⟩=some (uZ h)
 fz:∀o,w.frozen? ⟨k,o,none⟩=false
variable {w w1:Ur}{k a b c d e f g h:Nat}
theorem At8.made(w:Ur)(t:U8)(a b c d e f g h:Nat){k:Nat}(i:w.heap.size=k):At8 (w.alloc (.cells #[uZ a,uZ b,uZ c,uZ d,uZ e,uZ f,uZ g,uZ h] t)) k a b c d e f g h:=by
 subst i;exact⟨by rw[Vd];rfl,by rw[Vd];rfl,by rw[Vd];rfl,by rw[Vd];rfl,by rw[Vd];rfl,by rw[Vd];rfl,by rw[Vd];rfl,by rw[Vd];rfl,λo=>Wv _ _ _ _⟩
theorem mK{B:Nat}{k:Ur}(H:Below B k w)(q:Nat):Below B k (w.drewN q):=⟨H.os,H.tape,H.output,H.size,H.block⟩
end
section
variable {P:Nat}[NeZero P]{N:Nat}
structure Gap(g0 g1 g2 P:Nat):Prop where
 h0:g0<18446744073709551616
 h1:g1<18446744073709551616
 h2:g2<18446744073709551616
 hor:(g1=0/\g2=0)\/∃o:Nat,bits .or .u64 (g1:Int) (g2:Int)=(o:Int)/\o≠0
 hP:P+val g0 g1 g2 0=top
 hP2:top<2*P
 hg:0<val g0 g1 g2 0
theorem yP{k a b c d:Nat}{w W e:Ur}(h:Hid (Below k w W))(pr:At4 W k a b c d)(f:kZ W e):Hid (Below k w e):=h.trans (f.mono (XK pr.lt))
end
section
structure Blk where
 k:Nat
 o:Nat
 a:Nat
 b:Nat
 c:Nat
 d:Nat
structure Blk.at(x:Blk)(w:Ur):Prop where
 c0:w.cell? ⟨x.k,x.o,none⟩=some (uZ (x.a:Int))
 c1:w.cell? ⟨x.k,x.o+1,none⟩=some (uZ (x.b:Int))
 c2:w.cell? ⟨x.k,x.o+2,none⟩=some (uZ (x.c:Int))
 c3:w.cell? ⟨x.k,x.o+3,none⟩=some (uZ (x.d:Int))
 f:∀o,w.frozen? ⟨x.k,o,none⟩=false
structure Kept(w:Ur)(k0:Nat)(l:List Blk)(W:Ur):Prop where
 bl:Below k0 w W
 le:k0<=W.heap.size
 at':∀x∈l,x.at W
variable {w W w1:Ur}{k0:Nat}{l:List Blk}{x:Blk}
theorem Blk.at.lt(h:x.at W):x.k<W.heap.size:=Xo _ _ h.c0
theorem Blk.at.call(h:x.at W)(k:kZ W w1):x.at w1:=
 ⟨by rw[k.cell (p:=⟨x.k,x.o,none⟩) h.lt];exact h.c0,by rw[k.cell (p:=⟨x.k,x.o+1,none⟩) h.lt];exact h.c1,by rw[k.cell (p:=⟨x.k,x.o+2,none⟩) h.lt];exact h.c2,by rw[k.cell (p:=⟨x.k,x.o+3,none⟩) h.lt];exact h.c3,
  λo=>by rw[k.frozen (p:=⟨x.k,o,none⟩) h.lt];exact h.f o⟩
theorem Blk.at.other{j i : Nat}(h : x.at W)(hj : j ≠ x.k)(v : Ut): x.at (W.setCell ⟨j, i, none⟩ v) :=
  ⟨by rw [UU _ _ _ _ (bH (U4 hj))]; exact h.c0, by rw [UU _ _ _ _ (bH (U4 hj))]; exact h.c1,
   by rw [UU _ _ _ _ (bH (U4 hj))]; exact h.c2, by rw [UU _ _ _ _ (bH (U4 hj))]; exact h.c3, λo => by rw [VM]; exact h.f o⟩
theorem Kept.call(h:Kept w k0 l W)(k:kZ W w1):Kept w k0 l w1:=
 ⟨h.bl.trans (k.mono h.le),UC h.le k.size,λx hx=>(h.at' x hx).call k⟩
theorem Kept.drew(h:Kept w k0 l W):Kept w k0 l W.drew:=⟨h.bl.drew,h.le,λx hx=>⟨(h.at' x hx).c0,(h.at' x hx).c1,(h.at' x hx).c2,(h.at' x hx).c3,(h.at' x hx).f⟩⟩
theorem Kept.undrew(h:Kept w k0 l W.drew):Kept w k0 l W:=
 ⟨⟨h.bl.os,h.bl.tape,h.bl.output,h.bl.size,h.bl.block⟩,h.le,λx hx=>⟨(h.at' x hx).c0,(h.at' x hx).c1,(h.at' x hx).c2,(h.at' x hx).c3,(h.at' x hx).f⟩⟩
theorem Kept.alloc(h:Kept w k0 l W)(o:Obj):Kept w k0 l (W.alloc o):=h.call (aC W o)
theorem Kept.set{j i:Nat}(h:Kept w k0 l W)(b:k0<=j)(k:∀x∈l,j≠x.k)(v:Ut):Kept w k0 l (W.setCell ⟨j,i,none⟩ v):=
 ⟨h.bl.setCell (p:=⟨j,i,none⟩) b v,by simpa using h.le,λx hx=>(h.at' x hx).other (k x hx) v⟩
theorem Kept.set4{j:Nat}(h:Kept w k0 l W)(b:k0<=j)(k:∀x∈l,j≠x.k)(p q r s:Ut):Kept w k0 l (Go.Proofs.YtdoammpgchejcaaGreat.set4 W j p q r s):=
 (((h.set b k p).set b k q).set b k r).set b k s
theorem Kept.set4'{j:Nat}(h:Kept w k0 l W)(b:k0<=j)(k:∀x∈l,j≠x.k)(p q r s:Ut):
 Kept w k0 l ((((W.setCell (aZ j) p).setCell ⟨j,1,none⟩ q).setCell ⟨j,2,none⟩ r).setCell ⟨j,3,none⟩ s):=h.set4 b k p q r s
theorem Kept.lts(h:Kept w k0 l W):∀x∈l,x.k<W.heap.size:=λx hx=>(h.at' x hx).lt
theorem Kept.head(h:Kept w k0 (x :: l) W):x.at W:=h.at' x (Vu)
theorem Kept.tail(h:Kept w k0 (x :: l) W):Kept w k0 l W:=⟨h.bl,h.le,λy k=>h.at' y (Vb _ k)⟩
theorem At4.blk{k a b c d:Nat}(h:At4 W k a b c d):(Blk.mk k 0 a b c d).at W:=⟨h.c0,h.c1,h.c2,h.c3,h.f⟩
theorem Blk.at.at4{k a b c d:Nat}(h:(Blk.mk k 0 a b c d).at W):At4 W k a b c d:=⟨h.c0,h.c1,h.c2,h.c3,h.f⟩
theorem Kept.mk1(b:Below k0 w W)(k:k0<=W.heap.size):Kept w k0 [] W:=⟨b,k,λ_ h=>by cases h⟩
theorem Kept.cons(h:Kept w k0 l W)(hx:x.at W):Kept w k0 (x :: l) W:=
 ⟨h.bl,h.le,λy b=>by rcases VX.1 b with rfl|k;exact hx;exact h.at' y k⟩
theorem Kept.put{j a b c d:Nat}(h:Kept w k0 (⟨j,0,a,b,c,d⟩ :: l) W)(e:k0<=j)(k:∀x∈l,j≠x.k)(x y z t:Nat):
 Kept w k0 (⟨j,0,x,y,z,t⟩ :: l) ((((W.setCell (aZ j) (uZ x)).setCell ⟨j,1,none⟩ (uZ y)).setCell ⟨j,2,none⟩ (uZ z)).setCell ⟨j,3,none⟩ (uZ t)):=
 (h.tail.set4' e k _ _ _ _).cons (h.head.at4.self4 x y z t).blk
end
end Go.Proofs.YtdoammpgchejcaaGreat
