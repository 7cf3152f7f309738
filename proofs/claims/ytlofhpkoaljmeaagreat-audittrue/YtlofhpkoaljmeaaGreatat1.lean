import Derived.KernelRfl
import Derived.Below
import Derived.Deep.MidRow
import Derived.WalkKit
import Derived.Test.YtlofhpkoaljmeaaGreatRows
import Derived.Lib.Mul64
import Derived.Laws.Bits64b
import Derived.Laws.Externs
import Derived.Sort.Row
import Derived.Deep.LoopGhost
import Derived.Deep.QuietTactic
import Derived.StillTailTactics
import Derived.BigRegion
import Derived.BigQuiet
import Derived.WalkSpells
import Derived.WalkLawsBesides
import Derived.OrdersHeld
import Derived.Orders
import Derived.Deep.CutRange
import Derived.Deep.Draws
set_option linter.unusedVariables false
set_option linter.constructorNameAsVariable false
set_option linter.unusedSimpArgs false
set_option maxRecDepth 1000000
set_option maxHeartbeats 4000000
namespace Go.Proofs.YtlofhpkoaljmeaaGreat
theorem yES{c:Prop}{h:Decidable c}(hc:c){α:Sort _}{t e:α}:ite c t e=t:=if_pos hc
theorem yET{c:Prop}{h:Decidable c}(hc:¬c){α:Sort _}{t e:α}:ite c t e=e:=if_neg hc
theorem yEU:True:=True.intro
open _root_.Array renaming all_eq_true'->ZF,any_eq_true'->yAr,getD_eq_getD_getElem?->XI,getElem?_eq_getElem->X4,getElem?_eq_none->ZL,getElem?_eq_some_iff->XY,getElem?_replicate->yAQ,getElem?_setIfInBounds->Zv,getElem?_toList->Yz,mapM_eq_mapM_toList->ZP,replicate->XL,size_setIfInBounds->YJ
open _root_.Bool renaming and_eq_true->XO,or_false->ZC,true_or->yAI
open _root_.Classical renaming byContradiction->Zm
open _root_.Fin renaming ext->yAH,val->yDM,val_mul->yAk
open _root_.Go renaming Calls->XH,Exit->yAL,FuncId->ZY,Oper->Yo,Operand->yAf,Program->YG,Tmp->Zs,TypeId->Yd,Value->Xu,World->Xs,bodyPost_ret->XE,execOp->Yb,run_loadVar_mid->yAA,undef->Zp
open _root_.Go.Code renaming region->Zd
open _root_.Go.Instr renaming alloc->yEi,indexAt->Yi,loadAt->yCe,sliceAt->Zk,storeAt->yA6,sureAddr->yAC
open _root_.Go.IntKind renaming u64->Yn,wrap_u64->ZK
open _root_.Go.Lib renaming half_mul_le->yCy
open _root_.Go.Next renaming value->ZN
open _root_.Go.Oper renaming upon_enter->ZI,wp->YV
open _root_.Go.Region renaming binds->YT,ready->Yf,wanted->YS
open _root_.Go.Result renaming andThen->yCx
open _root_.Go.RowKit renaming Below->yC7
open _root_.Go.Sem renaming run_bind->XT
open _root_.Go.Value renaming pointer->yD4,slice->yAe
open _root_.Go.World renaming block_lt_of_cell?->ZZ,cell?->YO,cell?_alloc_new->Yp,cell?_of_block->XW,cell?_setCell_other->XZ,cell?_setCell_same->Y1,frozen?_alloc_new->Zn,frozen?_setCell->YN,setCells->yBl,size_alloc->XF
open _root_.Int renaming add_zero->yCw,eq_ofNat_of_zero_le->yCZ,natCast_zero->Zy
open _root_.List renaming all_eq_true->Yj,append_nil->yAh,countP_cons->yDG,find?_some->yAO,getD_eq_getElem?_getD->Zb,getElem?_append_left->XQ,getElem?_append_right->XR,getElem?_cons_succ->Ya,getElem?_cons_zero->Yc,getElem?_drop->yBZ,getElem?_eq_getElem->XJ,getElem?_eq_none->ZG,getElem?_eq_some_iff->XG,getElem?_map->Ys,getElem?_of_mem->Zz,getElem?_take->Zt,length_append->XC,length_cons->Yq,length_drop->yCo,length_map->XV,length_nil->Zr,length_take->Z7,mapM_cons->yA3,mapM_nil->yBc,map_append->YU,map_cons->Z6,map_inj_left->yB8,mem_cons->YX,mem_cons_of_mem->Ym,mem_cons_self->YC,mem_of_find?_eq_some->ZA,mem_of_getElem?->YK,mem_range->YZ,mem_zipIdx_iff_getElem?->yBa,not_mem_nil->X5,range->Yt,size_toArray->YD
open _root_.Nat renaming Coprime->yCv,add_mod->yBY,add_mul->yAn,add_mul_mod_self_left->yBr,add_sub_cancel_left->ZM,add_zero->yAi,ble_eq->yEH,dvd_of_mod_eq_zero->yAp,dvd_trans->yBX,eq_zero_of_dvd_of_lt->yBy,gcd->yDA,gcd_dvd_left->yCr,gcd_dvd_right->yCg,le_of_ble_eq_true->Yy,le_of_dvd->yAN,le_of_lt->yAl,le_refl->Xx,le_succ->yBW,le_total->yEl,le_trans->XB,lt_of_lt_of_le->Xz,lt_of_succ_le->ZW,mod_add_mod->yD0,mod_eq_of_lt->XX,mod_eq_sub_mod->yDq,mod_eq_zero_of_dvd->yAZ,mod_lt->Y9,mod_mod->yEx,mod_mod_of_dvd->yB4,mod_mul_mod->yDZ,mul_add->yAY,mul_assoc->yAB,mul_comm->YF,mul_le_mul->ZB,mul_left_comm->yCf,mul_mod->Z8,mul_one->Z5,one_mul->ZU,pow_add->yAX,pow_dvd_pow->yDY,pow_mod->yDc,pow_mul->yCt,pow_one->yBt,pow_succ->Zf,pow_zero->yBo,strongRecOn->yDX,zero_add->XD,zero_le->Zh,zero_mul->yEk,zero_pow->yEj
open _root_.Nat.Coprime renaming mul_dvd_of_dvd_of_dvd->ZD
open _root_.Option renaming isSome_iff_exists->YB,map_eq_some_iff->XA,some->XS
open _root_.Or renaming inl->X9,inr->X0
open _root_.Prod renaming mk->Ze
open Go.Proofs.Tryz
open Go.RowKit Go.Sort
abbrev uZ(n:Int):Xu:=.int .u64 n
abbrev iZ(n:Int):Xu:=.int .i64 n
abbrev aZ(k:Nat):Go.Addr:=⟨k,0,none⟩
abbrev jZ(k:Nat):Xu:=.pointer (some ⟨k,0,none⟩)
abbrev sZ(k n c:Nat):Xu:=.slice (some ⟨k,0,none⟩) n c
abbrev oZ(k o:Nat):Xu:=.pointer (some ⟨k,o,none⟩)
section
variable {P:Nat}[NeZero P]{N:Nat}
theorem oM{p:Prop}(h:p:=by omega):p:=h
theorem kR{p:Prop}(h:p:=by kernel_rfl):p:=h
theorem dC{p:Prop}(h:p:=by decide):p:=h
theorem dK{p:Prop}(h:p:=by decide +kernel):p:=h
end
section
theorem hE{α:Sort _}(x:α):∃y,Hid (x=y):=⟨x,rfl⟩
theorem mk1{p:Prop}(h:p):Hid p:=h
theorem mk2{p0 p1:Prop}(b:p0)(k:p1):Hid (p0/\p1):=⟨b,k⟩
theorem mk3{p0 p1 p2:Prop}(c:p0)(k:p1)(b:p2):Hid (p0/\p1/\p2):=⟨c,k,b⟩
theorem mk4{p0 p1 p2 k:Prop}(e:p0)(b:p1)(c:p2)(d:k):Hid (p0/\p1/\p2/\k):=⟨e,b,c,d⟩
theorem mk5{p0 p1 p2 b k:Prop}(g:p0)(d:p1)(e:p2)(f:b)(c:k):Hid (p0/\p1/\p2/\b/\k):=⟨g,d,e,f,c⟩
theorem mk6{p0 p1 p2 c k b:Prop}(j:p0)(e:p1)(f:p2)(i:c)(d:k)(g:b):Hid (p0/\p1/\p2/\c/\k/\b):=⟨j,e,f,i,d,g⟩
theorem mk7{p0 p1 p2 c k b p6:Prop}(l:p0)(e:p1)(f:p2)(j:c)(d:k)(g:b)(i:p6):Hid (p0/\p1/\p2/\c/\k/\b/\p6):=⟨l,e,f,j,d,g,i⟩
theorem mk8{p0 p1 p2 c k b p6 p7:Prop}(m:p0)(e:p1)(f:p2)(l:c)(d:k)(g:b)(j:p6)(i:p7):Hid (p0/\p1/\p2/\c/\k/\b/\p6/\p7):=⟨m,e,f,l,d,g,j,i⟩
section
variable {P:YG}{ops:Array Yo}{rest:List Yo}{op:Yo}{a:Act}{w w':Xs}{Q:yAL->Act->Xs->Prop}{T:Yd}{y:yAf}{g o:Nat}{cs:List Xu}{v:Xu}{ob:Obj}
theorem stR(t:Zs)(d:Hid (w.setCells g o cs=w'))(hv:Hid (.agg cs.toArray=v))(th:w.there g o cs.toArray.size)(c:(P.info? T).map (·.size)=some cs.toArray.size)(b:cs.toArray.all (·.oneCell')=true)(h:wpList P ops Q rest (a.put op.dst Zp) w')(k:op.guard=none:=by rfl)(ho:op.op=.store T (.tmp t) y:=by rfl)(hx:a.eval (.tmp t)=oZ g o:=by rfl)(e:a.eval y=v:=by rfl):wpList P ops Q (op :: rest) a w:=
 wpList_store_mid k T (.tmp t) y ho g o cs.toArray hx (e.trans hv.out.symm) th c b (by rw[show cs.toArray.toList=cs from rfl,d.out];exact h)
theorem ldR(t:Zs)(i:w.rangeAt g o cs)(hv:Hid (.agg cs.toArray=v))(c:(P.underlying T).map (·.isRow)=some true)(e:(P.info? T).map (·.size)=some cs.length)(h:wpList P ops Q rest (a.put op.dst v) w)(k:op.guard=none:=by rfl)(ho:op.op=.load T (.tmp t):=by rfl)(hx:a.eval (.tmp t)=oZ g o:=by rfl):wpList P ops Q (op :: rest) a w:=by
 obtain⟨d,b,f⟩:=XA.1 c;exact wpList_load_mid k T (.tmp t) ho g o hx cs d i b f e (by rw[hv.out];exact h)
theorem alR(t:Zs)(c:Hid (w.heap.size=g))(d:Hid (w.alloc ob=w'))(h:wpList P ops Q rest (a.put op.dst (jZ g)) w')(hd:op.dst=some t:=by rfl)(k:op.guard=none:=by rfl)(e:(Yb a.eval op).run P w=.ok (.value (jZ w.heap.size)) (w.alloc ob):=by kernel_rfl):wpList P ops Q (op :: rest) a w:=
 wpList_plain k λK b=>by
  unfold YV;rw[e,c.out,d.out];exact b _ _ h
end
end
section
variable {P:Nat}[NeZero P]{N:Nat}
def val(a b c d:Nat):Nat:=a+18446744073709551616*b+340282366920938463463374607431768211456*c+6277101735386680763835789423207666416102355444464034512896*d
def Four(v:Xu)(n:Nat):Prop:=∃a b c d:Nat,v=.agg #[uZ a,uZ b,uZ c,uZ d] /\
 a<18446744073709551616/\b<18446744073709551616/\c<18446744073709551616/\d<18446744073709551616/\n=val a b c d
def top:Nat:=115792089237316195423570985008687907853269984665640564039457584007913129639936
theorem nI{a b c d:Nat}(f:a<18446744073709551616)(e:b<18446744073709551616)(k:c<18446744073709551616)(hd:d<18446744073709551616):val a b c d<top:=by
 unfold val top;omega
theorem Four.lt{v:Xu}{n:Nat}(h:Four v n):n<top:=by
 obtain⟨a,b,c,d,-,f,e,k,hd,rfl⟩:=h;exact nI f e k hd
theorem val_inj{a b c d p q r s:Nat}(j:a<18446744073709551616)(g:b<18446744073709551616)(k:c<18446744073709551616)
 (e:p<18446744073709551616) (f:q<18446744073709551616) (i:r<18446744073709551616) (h:val a b c d=val p q r s):a=p/\b=q/\c=r/\d=s:=by
 unfold val at h;omega
theorem Four.inj{v k:Xu}{n:Nat}(h:Four v n)(i:Four k n):v=k:=by
 obtain⟨a,b,c,d,rfl,l,g,f,hd,e⟩:=h;obtain⟨p,q,r,s,rfl,o,m,j,t,e'⟩:=i;obtain⟨rfl,rfl,rfl,rfl⟩:=val_inj l g f o m j (e.symm.trans e');rfl
theorem Four.num{v:Xu}{n m:Nat}(h:Four v n)(k:Four v m):n=m:=by
 obtain⟨a,b,c,d,rfl,j,g,f,hd,rfl⟩:=h;obtain⟨p,q,r,s,e,t,o,i,l,rfl⟩:=k;simp only[Value.agg.injEq,Array.mk.injEq,List.cons.injEq,Value.int.injEq,true_and,and_true,Int.ofNat_inj]at e;obtain⟨rfl,rfl,rfl,rfl⟩:=e;rfl
theorem Four.mk{a b c d n:Nat}(g:a<18446744073709551616)(f:b<18446744073709551616)(e:c<18446744073709551616)(hd:d<18446744073709551616)(k:n=val a b c d):
 Four (.agg #[uZ a,uZ b,uZ c,uZ d]) n:=⟨a,b,c,d,rfl,g,f,e,hd,k⟩
theorem ret_int{k:IntKind}{a b:Int}(h:a=b):Ending.returned (.int k a)=.returned (.int k b):=by rw[h]
theorem mixed:prog.follows .mixedOrders=true:=kR
theorem Hk(x y c:Nat)(hx:x<18446744073709551616)(d:y<18446744073709551616)(b:c<=1):
 ∃s k:Nat,(∀w,(callFunc 102 #[uZ x,uZ y,uZ c]).run prog w=.ok (.value (.tuple #[uZ s,uZ k])) w) /\
  s<18446744073709551616/\k<=1/\s+18446744073709551616*k=x+y+c:=by
 refine⟨(x+y+c)%18446744073709551616,(x+y+c)/18446744073709551616,λw=>?_,oM,oM,oM⟩;rw[run_callFunc_extern func102 kR kR kR (e:=add64Entry) kR,run_add64 x y c oM oM oM oM];simp only[yCx]
 congr 5<;>omega
theorem FK(x y c:Nat)(hx:x<18446744073709551616)(d:y<18446744073709551616)(b:c<=1):
 ∃s k:Nat,(∀w,(callFunc 214 #[uZ x,uZ y,uZ c]).run prog w=.ok (.value (.tuple #[uZ s,uZ k])) w) /\
  s<18446744073709551616/\k<=1/\s+y+c=x+18446744073709551616*k:=by
 refine⟨(x+18446744073709551616-y-c)%18446744073709551616,if x<y+c then 1 else 0,λw=>?_,oM,by split<;>omega,by split<;>omega⟩;rw[run_callFunc_extern func214 kR kR kR (e:=(Extern.MathBitsCarry.rows[1]).2) kR];have:c=0\/c=1:=oM;rcases this with rfl|rfl<;>rfl
theorem zU(x y:Nat)(hx:x<18446744073709551616)(b:y<18446744073709551616):
 ∃s k:Nat,(∀w,(callFunc 102 #[uZ x,uZ y,uZ 0]).run prog w=.ok (.value (.tuple #[uZ s,uZ k])) w) /\
  s<18446744073709551616/\k<=1/\s+18446744073709551616*k=x+y:=Hk x y 0 hx b (Zh 1)
theorem QJ(x y:Nat)(hx:x<18446744073709551616)(b:y<18446744073709551616):
 ∃s k:Nat,(∀w,(callFunc 214 #[uZ x,uZ y,uZ 0]).run prog w=.ok (.value (.tuple #[uZ s,uZ k])) w) /\
  s<18446744073709551616/\k<=1/\s+y=x+18446744073709551616*k:=FK x y 0 hx b (Zh 1)
theorem maskN(a:Nat)(k:a<18446744073709551616):bits .and .u64 (a:Int) 4294967295=((a%4294967296:Nat):Int):=by
 have h:=bits_and_u64_nat a 4294967295 k oM;rw[show a &&& 4294967295=a%4294967296 from Nat.and_two_pow_sub_one_eq_mod a 32]at h;exact h
theorem divN(a:Nat):(a:Int)/4294967296=((a/4294967296:Nat):Int):=oM
theorem mulN(a b:Nat):(a:Int)*(b:Int)=((a*b:Nat):Int):=(Int.natCast_mul a b).symm
theorem addN(a b:Nat):(a:Int)+(b:Int)=((a+b:Nat):Int):=(Int.natCast_add a b).symm
theorem wrapN(a:Nat)(k:a<18446744073709551616):Yn.wrap (a:Int)=(a:Int):=by rw[ZK];omega
theorem wrapM(a:Nat):Yn.wrap (a:Int)=((a%18446744073709551616:Nat):Int):=by rw[ZK];omega
theorem RR(x y:Nat)(hx:x<18446744073709551616)(f:y<18446744073709551616)(w:Xs):
 XH prog 208 #[uZ x,uZ y] w λe w'=>e=.returned (.tuple #[uZ ((x*y/18446744073709551616:Nat):Int),uZ ((x*y%18446744073709551616:Nat):Int)])/\w'=w:=by
 obtain⟨j,d,bw,k⟩:=Lib.mul64_hi x y hx f;have m:=yCy (a:=x/4294967296) (b:=y/4294967296) oM oM;have o:=yCy (a:=x/4294967296) (b:=y%4294967296) oM oM;have n:=yCy (a:=x%4294967296) (b:=y/4294967296) oM oM;have b1:x/4294967296*(y/4294967296)<18446744073709551616:=oM;have l:x/4294967296*(y%4294967296)<18446744073709551616:=oM;have i:x%4294967296*(y/4294967296)<18446744073709551616:=oM;have c:x/4294967296*(y/4294967296)+(x/4294967296*(y%4294967296)+x%4294967296*(y%4294967296)/4294967296)/4294967296<18446744073709551616:=oM;have g:x/4294967296*(y/4294967296)+(x/4294967296*(y%4294967296)+x%4294967296*(y%4294967296)/4294967296)/4294967296+((x/4294967296*(y%4294967296)+x%4294967296*(y%4294967296)/4294967296)%4294967296+x%4294967296*(y/4294967296))/4294967296<18446744073709551616:=oM;go_enter func208,ntmps208;go_wp2;simp only[maskN x hx,maskN y f,divN,mulN,addN,wrapN _ j,wrapN _ l,wrapN _ d,maskN _ d,wrapN _ i,wrapN _ bw,wrapN _ b1,wrapN _ c,wrapN _ g,wrapM (x*y)];rw[k]
 go_ret2
 exact⟨rfl,rfl⟩
theorem Ks(x y:Nat)(hx:x<18446744073709551616)(b:y<18446744073709551616):
 ∃h l:Nat,(∀w,XH prog 208 #[uZ x,uZ y] w λe w'=>e=.returned (.tuple #[uZ h,uZ l])/\w'=w) /\
  h<18446744073709551616/\l<18446744073709551616/\l+18446744073709551616*h=x*y:=by
 have k:x*y<=18446744073709551615*18446744073709551615:=ZB oM oM;exact⟨_,_,λw=>RR x y hx b w,oM,oM,oM⟩
theorem Us(x y:Nat)(hx:x<18446744073709551616)(f:y<18446744073709551616)(w:Xs):
 XH prog 208 #[uZ x,uZ y] w λe w'=>w'=w/\∃h l:Nat,e=.returned (.tuple #[uZ h,uZ l]) /\
  h<18446744073709551616/\l<18446744073709551616/\l+18446744073709551616*h=x*y:=by
 obtain⟨h,l,d,b,c,g⟩:=Ks x y hx f;exact(d w).mono λe w' k=>⟨k.2,h,l,k.1,b,c,g⟩
theorem VK(x y o c:Nat)(hx:x<18446744073709551616)(s:y<18446744073709551616)(ho:o<18446744073709551616)(j:c<18446744073709551616):
 ∃h l s1 k s2 b g d:Nat,(∀w,XH prog 208 #[uZ x,uZ y] w λe w'=>e=.returned (.tuple #[uZ h,uZ l])/\w'=w) /\
  (∀w,(callFunc 102 #[uZ l,uZ c,uZ 0]).run prog w=.ok (.value (.tuple #[uZ s1,uZ k])) w) /\
  (∀w,(callFunc 102 #[uZ o,uZ s1,uZ 0]).run prog w=.ok (.value (.tuple #[uZ s2,uZ b])) w) /\
  Yn.wrap ((h:Int)+(k:Int))=(g:Int)/\Yn.wrap ((g:Int)+(b:Int))=(d:Int) /\
  s2<18446744073709551616/\d<18446744073709551616/\s2+18446744073709551616*d=x*y+o+c:=by
 have p:x*y<=18446744073709551615*18446744073709551615:=ZB oM oM;obtain⟨h,l,q,hh,i,t⟩:=Ks x y hx s;obtain⟨s1,k,m,f,r,u⟩:=zU l c i j;obtain⟨s2,b,a2,d,n,e3⟩:=zU o s1 ho f;refine⟨h,l,s1,k,s2,b,h+k,h+k+b,q,m,a2,?_,?_,d,oM,oM⟩
 ·rw[addN];exact wrapN _ oM
 ·rw[addN];exact wrapN _ oM
theorem sJ(x y o c:Nat)(hx:x<18446744073709551616)(n:y<18446744073709551616)(ho:o<18446744073709551616)(g:c<18446744073709551616)(w:Xs):
 XH prog 195 #[uZ x,uZ y,uZ o,uZ c] w λe w'=>w'=w/\∃l h:Nat,e=.returned (.tuple #[uZ l,uZ h]) /\
  h<18446744073709551616/\l<18446744073709551616/\l+18446744073709551616*h=x*y+o+c:=by
 have j:x*y<=18446744073709551615*18446744073709551615:=ZB oM oM;go_enter func195,ntmps195;go_wp2_with fail
 refine(Us x y hx n _).mono ?_;rintro e q ⟨rfl,h,l,rfl,hh,f,r⟩;obtain⟨s1,k,s,b,m,u⟩:=zU l o f ho;obtain⟨s2,d,a2,p,i,e3⟩:=zU s1 c b g;have q:Yn.wrap ((h:Int)+(k:Int))=((h+k:Nat):Int):=by rw[addN];exact wrapN _ oM
 have t:Yn.wrap (((h+k:Nat):Int)+(d:Int))=((h+k+d:Nat):Int):=by rw[addN];exact wrapN _ oM
 go_wp2
 go_ret2
 refine⟨rfl,s2,h+k+d,?_,oM,oM,oM⟩;rfl
def Ret(Q:Xu->Xs->Prop)(e:Ending)(w:Xs):Prop:=∃v,e=.returned v/\Q v w
abbrev rZ(w:Xs)(Q:Xu->Xs->Prop):Go.Ending->Xs->Prop:=Ret λe w'=>yC7 w.heap.size w w'/\Q e w'
abbrev kZ(w W:Xs):Prop:=yC7 w.heap.size w W
theorem aC(w:Xs)(k:Obj):kZ w (w.alloc k):=(Below.refl _ _).alloc (Xx _) k
theorem below2(w:Xs)(k b:Obj):kZ w ((w.alloc k).alloc b):=(aC w k).alloc (by simp) b
theorem below3(w:Xs)(k c b:Obj):kZ w (((w.alloc k).alloc c).alloc b):=(below2 w k c).alloc (by simp;omega) b
theorem E9(w:Xs)(c b k d:Obj):kZ w ((((w.alloc c).alloc b).alloc k).alloc d):=(below3 w c b k).alloc (by simp;omega) d
theorem rL(x y:Xu)(m n:Nat)(hx:Four x m)(F:Four y n)(w:Xs):
 XH prog 54 #[x,y] w (rZ w λe w'=>∃(v:Xu) (s k:Nat),e=.tuple #[v,uZ k]/\Four v s/\k<=1/\s+top*k=m+n):=by
 obtain⟨a,b,c,d,rfl,G,D,B,hd,N⟩:=hx;obtain⟨p,q,r,s,rfl,L,I,hr,H,M⟩:=F;obtain⟨s0,C,a0,l,t,P⟩:=zU a p G L;obtain⟨s1,A,E,u,j,O⟩:=Hk b q C D I t;obtain⟨s2,K,a2,o,g,Q⟩:=Hk c r A B hr j;obtain⟨s3,z,J,i,f,e3⟩:=Hk d s K hd H g;have hv:val s0 s1 s2 s3+top*z=m+n:=by rw[N,M];unfold val top;omega
 go_enter func54,ntmps54;go_wp2_with (first|simp only[a0]|simp only[E]|simp only[a2]|simp only[J])
 refine XE (v:=?v) ?hr rfl ?hR
 case hr=>simp[results,Tryz.results54,go_sem];rfl
 exact⟨_,rfl,below3 _ _ _ _,_,_,z,rfl,Four.mk l u o i rfl,f,hv⟩
theorem tW(x y:Xu)(m n:Nat)(hx:Four x m)(F:Four y n)(w:Xs):
 XH prog 202 #[x,y] w (rZ w λe w'=>∃(v:Xu) (s k:Nat),e=.tuple #[v,uZ k]/\Four v s/\k<=1/\s+n=m+top*k):=by
 obtain⟨a,b,c,d,rfl,G,D,B,hd,N⟩:=hx;obtain⟨p,q,r,s,rfl,L,I,hr,H,M⟩:=F;obtain⟨s0,C,a0,l,t,P⟩:=QJ a p G L;obtain⟨s1,A,E,u,j,O⟩:=FK b q C D I t;obtain⟨s2,K,a2,o,g,Q⟩:=FK c r A B hr j;obtain⟨s3,z,J,i,f,e3⟩:=FK d s K hd H g;have hv:val s0 s1 s2 s3+n=m+top*z:=by rw[N,M];unfold val top;omega
 go_enter func202,ntmps202;go_wp2_with (first|simp only[a0]|simp only[E]|simp only[a2]|simp only[J])
 refine XE (v:=?v) ?hr rfl ?hR
 case hr=>simp[results,Tryz.results202,go_sem];rfl
 exact⟨_,rfl,below3 _ _ _ _,_,_,z,rfl,Four.mk l u o i rfl,f,hv⟩
theorem jV(x:Xu)(m:Nat)(hx:Four x m)(w:Xs):
 XH prog 55 #[x] w (rZ w λe w'=>e=x):=by
 obtain⟨a,b,c,d,rfl,i,f,k,hd,g⟩:=hx;go_enter func55,ntmps55;go_wp2;refine XE (v:=?v) ?hr rfl ?hR
 case hr=>simp[results,Tryz.results55,go_sem];rfl
 exact⟨_,rfl,below2 _ _ _,rfl⟩
theorem jR(x:Xu)(m:Nat)(hx:Four x m)(w:Xs):
 XH prog 99 #[x] w (rZ w λe w'=>e=x):=by
 obtain⟨a,b,c,d,rfl,i,f,k,hd,g⟩:=hx;go_enter func99,ntmps99;go_wp2;refine XE (v:=?v) ?hr rfl ?hR
 case hr=>simp[results,Tryz.results99,go_sem];rfl
 exact⟨_,rfl,below2 _ _ _,rfl⟩
theorem Gn(x a b c d:Nat):x*val a b c d=val (x*a) (x*b) (x*c) (x*d):=by
 unfold val;rw[yAY,yAY,yAY,yCf x _ b,yCf x _ c,yCf x _ d]
theorem NH{x a b c d p q r s i e k f j l o g m n:Nat}(u:m=val a b c d)(t:n=val p q r s)
 (w:i+18446744073709551616*j=x*a+p+0) (v:e+18446744073709551616*l=x*b+q+j)
 (y:k+18446744073709551616*o=x*c+r+l) (e3:f+18446744073709551616*g=x*d+s+o) :
 i+18446744073709551616*val e k f g=x*m+n:=by
 rw[u,t,Gn x a b c d];unfold val;omega
theorem kF(x:Nat)(y z:Xu)(m n:Nat)(hx:x<18446744073709551616)(F:Four y m)(E:Four z n)(w:Xs):
 XH prog 154 #[uZ x,y,z] w (rZ w λe w'=>∃(l:Nat) (v:Xu) (s:Nat),e=.tuple #[uZ l,v]/\l<18446744073709551616/\Four v s/\l+18446744073709551616*s=x*m+n):=by
 obtain⟨a,b,c,d,rfl,H,C,B,hd,R⟩:=F;obtain⟨p,q,r,s,rfl,P,L,hr,K,Q⟩:=E;go_enter func154,ntmps154;go_wp2_with fail
 refine(sJ x a p 0 hx H P dC _).mono ?_;rintro e t ⟨rfl,I,M,rfl,o,f,G⟩;go_wp2_with fail
 refine(sJ x b q M hx C L o _).mono ?_;rintro e t ⟨rfl,T,N,rfl,k,u,D⟩;go_wp2_with fail
 refine(sJ x c r N hx B hr k _).mono ?_;rintro e t ⟨rfl,S,O,rfl,i,A,J⟩;go_wp2_with fail
 refine(sJ x d s O hx hd K i _).mono ?_;rintro e t ⟨rfl,U,V,rfl,g,j,e3⟩;go_wp2;refine XE (v:=?v) ?hr rfl ?hR
 case hr=>simp[results,Tryz.results154,go_sem];rfl
 exact⟨_,rfl,below3 _ _ _ _,I,_,_,rfl,f,Four.mk u A j g rfl,NH R Q G D J e3⟩
end
namespace RG
inductive SV where
 | v (x:Xu)
 | p (b o:Nat)
 | s (b n c:Nat)
 | t (b n c:Nat) (y:Xu)
def SV.at(μ:Nat->Nat):SV->Xu
 | .v x=>x
 | .p b o=>.pointer (some ⟨μ b,o,none⟩)
 | .s b n c=>.slice (some ⟨μ b,0,none⟩) n c
 | .t b n c y=>.tuple #[.slice (some ⟨μ b,0,none⟩) n c,y]
def SV.blk:SV->Option Nat
 | .v _=>none
 | .p b _=>some b
 | .s b _ _=>some b
 | .t b _ _ _=>some b
theorem SV.at_congr{μ ν:Nat->Nat}{s:SV}(h:∀b,s.blk=some b->μ b=ν b):s.at μ=s.at ν:=by
 cases s with
 | v x=>rfl
 | p b o=>show yD4 (some ⟨μ b,o,none⟩)=.pointer (some ⟨ν b,o,none⟩);rw[h b rfl]
 | s b n c=>show yAe (some ⟨μ b,0,none⟩) n c=.slice (some ⟨ν b,0,none⟩) n c;rw[h b rfl]
 | t b n c y=>show Value.tuple #[.slice (some ⟨μ b,0,none⟩) n c,y]=.tuple #[.slice (some ⟨ν b,0,none⟩) n c,y];rw[h b rfl]
inductive Kind where
 | stay
 | pass
 | call
 | make (b:Nat)
 | put (b:Nat)
structure It where
 dst:Option Zs
 need:List (Zs × Nat)
 out:SV
 kind:Kind
structure Bl where
 before:List Xu
 after:List Xu
 al:Option Nat
 st:Option Nat
def on(L:Array Bool)(i:Nat):Bool:=L.getD i false
def Bl.live(e:Bl)(L:Array Bool):Bool:=(e.al.map (on L)).getD true
def Bl.put(e:Bl)(L:Array Bool):Bool:=(e.st.map (on L)).getD false
def Bl.now(e:Bl)(L:Array Bool):List Xu:=if e.put L=true then e.after else e.before
theorem eD{L:Array Bool}{i j:Nat}(h:i<L.size):on (L.setIfInBounds i true) j=(on L j || i == j):=by
 unfold on;simp only[XI,Zv];by_cases k:i=j
 ·subst k;simp[h]
 ·simp[k]
theorem iM{e:Bl}{L:Array Bool}{i:Nat}(h:i<L.size):e.live (L.setIfInBounds i true)=(e.live L || e.al == some i):=by
 unfold Bl.live;cases d:e.al with
 | none=>rfl
 | some j =>
  show on _ j=(on L j || _);rw[eD h];by_cases k:i=j
  ·subst k;simp
  ·have b:(i == j)=false:=by simpa using k
   have c:(some j == some i)=false:=by simpa using λh=>k h.symm
   rw[b,c]
theorem kJ{e:Bl}{L:Array Bool}{i:Nat}(h:i<L.size):e.put (L.setIfInBounds i true)=(e.put L || e.st == some i):=by
 unfold Bl.put;cases d:e.st with
 | none=>rfl
 | some j =>
  show on _ j=(on L j || _);rw[eD h];by_cases k:i=j
  ·subst k;simp
  ·have b:(i == j)=false:=by simpa using k
   have c:(some j == some i)=false:=by simpa using λh=>k h.symm
   rw[b,c]
theorem range_below{B k o:Nat}{w w':Xs}{cs:List Xu}(h:w.rangeAt k o cs)(c:Below B w w')(b:k<B):w'.rangeAt k o cs:=λj v hv=>by
 rw[c.cell (p:=⟨k,o+j,none⟩) b];exact h j v hv
theorem dH{B k o n:Nat}{w w':Xs}(h:w.there k o n)(c:Below B w w')(b:k<B):w'.there k o n:=λj d=>by
 rw[c.cell (p:=⟨k,o+j,none⟩) b,c.frozen (p:=⟨k,o+j,none⟩) b];exact h j d
theorem below_setCells{B k:Nat}{c:Xs}(b:B<=k):∀(vs:List Xu) (o:Nat) (w:Xs),Below B c w->Below B c (w.setCells k o vs)
 | [],_,_,h=>h
 | v :: r,o,w,h=>below_setCells b r (o+1) _ (h.setCell (p:=⟨k,o,none⟩) b v)
theorem setCells_size(k:Nat):∀(vs:List Xu) (o:Nat) (w:Xs),(w.setCells k o vs).heap.size=w.heap.size
 | [],_,_=>rfl
 | v :: r,o,w=>by
  rw[yBl,setCells_size k r (o+1)];simp[World.setCell]
theorem there_setCells{k b o n:Nat}:∀(vs:List Xu) (i:Nat) (w:Xs),w.there b o n->(w.setCells k i vs).there b o n
 | [],_,_,h=>h
 | v :: r,i,w,h=>there_setCells r (i+1) _ λj c=>⟨World.isSome_setCells k [v] i w _ (h j c).1,by rw[YN];exact(h j c).2⟩
structure BelX(k0:Nat)(X:List Nat)(w w':Xs):Prop where
 os:w'.os=w.os
 tape:w'.tape=w.tape
 output:w'.output=w.output
 size:w.heap.size<=w'.heap.size
 block:∀j,j<k0->j ∉ X->w'.heap[j]? = w.heap[j]?
theorem BelX.below{k:Nat}{w w':Xs}(h:BelX k [] w w'):Below k w w':=⟨h.os,h.tape,h.output,h.size,λj b=>h.block j b X5⟩
theorem BelX.drew{k:Nat}{X:List Nat}{w w':Xs}(h:BelX k X w w'):BelX k X w w'.drew:=⟨h.os,h.tape,h.output,h.size,h.block⟩
theorem BelX.refl(k:Nat)(X:List Nat)(w:Xs):BelX k X w w:=⟨rfl,rfl,rfl,Xx _,λ_ _ _=>rfl⟩
theorem BelX.trans{d:Nat}{X:List Nat}{a b c:Xs}(h:BelX d X a b)(k:BelX d X b c):BelX d X a c:=
 ⟨k.os.trans h.os,k.tape.trans h.tape,k.output.trans h.output,XB h.size k.size,λi e hx=>(k.block i e hx).trans (h.block i e hx)⟩
structure Wd(w0:Xs)(k0:Nat)(X:List Nat)(bl:List Bl)(L:Array Bool)(μ:Nat->Nat)(w:Xs):Prop where
 bel:BelX k0 X w0 w
 le:k0<=w.heap.size
 has:∀(b:Nat) (e:Bl),bl[b]? = some e->e.live L=true->w.rangeAt (μ b) 0 (e.now L)/\w.there (μ b) 0 e.before.length/\μ b<w.heap.size/\(k0<=μ b\/μ b∈X)
 inj:∀(b c:Nat) (e f:Bl),bl[b]? = some e->bl[c]? = some f->e.live L=true->f.live L=true->b≠c->μ b≠μ c
variable {w0 w w':Xs}{k0:Nat}{X:List Nat}{bl:List Bl}{L:Array Bool}{μ:Nat->Nat}
theorem Wd.same{g:Array Bool}(h:Wd w0 k0 X bl L μ w)(d:∀(b:Nat) (e:Bl),bl[b]? = some e->e.live g=e.live L/\e.put g=e.put L):Wd w0 k0 X bl g μ w:=by
 refine⟨h.bel,h.le,λb e k hv=>?_,λb c e f k i j hf=>h.inj b c e f k i ((d b e k).1 ▸ j) ((d c f i).1 ▸ hf)⟩;have:=h.has b e k ((d b e k).1 ▸ hv);unfold Bl.now at this⊢;rw[(d b e k).2];exact this
theorem Wd.call(h:Wd w0 k0 X bl L μ w)(c:kZ w w'):Wd w0 k0 X bl L μ w':=by
 refine⟨h.bel.trans ⟨c.os,c.tape,c.output,c.size,λk g _=>c.block k (Xz g h.le)⟩,XB h.le c.size,λb e d hv=>?_,h.inj⟩;obtain⟨j,l,f,i⟩:=h.has b e d hv;exact⟨range_below j c f,dH l c f,Xz f c.size,i⟩
def upd(μ:Nat->Nat)(b k:Nat):Nat->Nat:=λc=>if c=b then k else μ c
structure Made(w:Xs)(k:Nat)(c:List Xu)(w':Xs):Prop where
 bel:kZ w w'
 le:w.heap.size<=k
 lt:k<w'.heap.size
 range:w'.rangeAt k 0 c
 there:w'.there k 0 c.length
theorem Made.alloc(w:Xs)(c:List Xu)(t:Yd):Made w w.heap.size c (w.alloc (.cells c.toArray t)):=by
 refine⟨aC w _,Xx _,by rw[XF];omega,λj v k=>?_,λj k=>⟨?_,Zn _ _ _ _⟩⟩
 ·rw[XD,Yp];simpa using k
 ·rw[XD,Yp];simp[k]
theorem Wd.make{i b k:Nat}{e:Bl}(h:Wd w0 k0 X bl L μ w)(z:i<L.size)(y:bl[b]? = some e)(D:e.al=some i)(v:∀(c:Nat) (f:Bl),bl[c]? = some f->c≠b->f.al≠some i)
 (j:∀(c:Nat) (f:Bl),bl[c]? = some f->f.st≠some i) (u:e.put L=false) (t:Made w k e.before w') :
 Wd w0 k0 X bl (L.setIfInBounds i true) (upd μ b k) w':=by
 have o:∀(c:Nat) (f:Bl),bl[c]? = some f->f.put (L.setIfInBounds i true)=f.put L:=λc f m=>by
  rw[kJ z,show(f.st == some i)=false by simpa using j c f m,ZC]
 have n:∀(c:Nat) (f:Bl),bl[c]? = some f->c≠b->f.live (L.setIfInBounds i true)=f.live L:=λc f m j=>by
  rw[iM z,show(f.al == some i)=false by simpa using v c f m j,ZC]
 have p:∀(c:Nat) (f:Bl),bl[c]? = some f->c≠b->f.live (L.setIfInBounds i true)=true->μ c<w.heap.size:=λc f m j hv=>(h.has c f m (n c f m j ▸ hv)).2.2.1
 have l:=t.bel;have q:=t.le;refine⟨h.bel.trans ⟨l.os,l.tape,l.output,l.size,λk A _=>l.block k (Xz A h.le)⟩,XB h.le l.size,λc f m hv=>?_,λc d f g m hd hf x r=>?_⟩
 ·by_cases j:c=b
  ·subst j;rw[y]at m;obtain rfl:e=f:=XS.inj m;have s:e.now (L.setIfInBounds i true)=e.before:=by unfold Bl.now;rw[o c e y,u];rfl
   rw[s];unfold upd;rw[yES rfl];exact⟨t.range,t.there,t.lt,X9 (XB h.le q)⟩
  ·obtain⟨B,C,u,a⟩:=h.has c f m (n c f m j ▸ hv);unfold upd;rw[yET j];have s:f.now (L.setIfInBounds i true)=f.now L:=by unfold Bl.now;rw[o c f m]
   rw[s];exact⟨range_below B l u,dH C l u,Xz u l.size,a⟩
 ·unfold upd;by_cases j:c=b
  ·subst j;rw[yES rfl,yET (λh=>r h.symm)];exact Nat.ne_of_gt (Xz (p d g hd (λh=>r h.symm) x) q)
  ·by_cases s:d=b
   ·subst s;rw[yES rfl,yET j];exact Nat.ne_of_lt (Xz (p c f m j hf) q)
   ·rw[yET j,yET s];exact h.inj c d f g m hd (n c f m j ▸ hf) (n d g hd s ▸ x) r
structure PutTo(k n:Nat)(cs:List Xu)(w w':Xs):Prop where
 os:w'.os=w.os
 tape:w'.tape=w.tape
 output:w'.output=w.output
 size:w.heap.size<=w'.heap.size
 block:∀j,j<w.heap.size->j≠k->w'.heap[j]? = w.heap[j]?
 range:w'.rangeAt k 0 cs
 there:w'.there k 0 n
theorem aE(k:Nat):∀(vs:List Xu) (o:Nat) (w:Xs) (j:Nat),j≠k->(w.setCells k o vs).heap[j]? = w.heap[j]?
 | [],_,_,_,_=>rfl
 | v :: r,o,w,j,h=>by
  rw[yBl,aE k r (o+1) _ j h,Below.heap_setCell _ _ _ _ h]
theorem nR(k:Nat):∀(vs:List Xu) (o:Nat) (w:Xs),(w.setCells k o vs).os=w.os/\(w.setCells k o vs).tape=w.tape/\(w.setCells k o vs).output=w.output
 | [],_,_=>⟨rfl,rfl,rfl⟩
 | v :: r,o,w=>by rw[yBl];exact nR k r (o+1) _
theorem PutTo.store{k n o:Nat}{b c vs:List Xu}(g:w.there k 0 n)(l:w.rangeAt k 0 b)(x:o+vs.length<=n)(q:∀j,c[j]? = if o<=j/\j<o+vs.length then vs[j-o]? else b[j]?):PutTo k n c w (w.setCells k o vs):=by
 obtain⟨r,s,p⟩:=nR k vs o w;refine⟨r,s,p,by rw[setCells_size];exact Xx _,λj _ d=>aE k vs o w j d,λj v hv=>?_,there_setCells _ _ _ g⟩;have e:w.there k o vs.length:=λj d=>by have:=g (o+j) oM;rwa[XD]at this
 rw[q j]at hv;rw[XD];by_cases d:o<=j/\j<o+vs.length
 ·rw[yES d]at hv;have:=World.rangeAt_setCells_same w k o vs e (j-o) v hv;rwa[show o+(j-o)=j by omega]at this
 ·rw[yET d]at hv;have t:w.rangeAt k j [v]:=λi u f=>by
   cases i with
   | zero =>
    obtain rfl:v=u:=by simpa using f
    have:=l j v hv;rwa[XD]at this
   | succ i=>simp at f
  have m:=World.rangeAt_setCells_apart t k o vs (X0 (by simp only[Yq,Zr];omega));have:=m 0 v rfl;exact this
theorem PutTo.whole{k:Nat}{b c:List Xu}(e:w.there k 0 b.length)(f:w.rangeAt k 0 b)(g:c.length=b.length):PutTo k b.length c w (w.setCells k 0 c):=
 PutTo.store e f oM (λj=>by
  by_cases d:0<=j/\j<0+c.length
  ·rw[yES d];rfl
  ·rw[yET d,ZG oM,ZG oM])
theorem Wd.put{i b:Nat}{e:Bl}(h:Wd w0 k0 X bl L μ w)(s:i<L.size)(r:bl[b]? = some e)(A:e.st=some i)(hv:e.live L=true)(n:PutTo (μ b) e.before.length e.after w w')
 (k:∀(c:Nat) (f:Bl),bl[c]? = some f->c≠b->f.st≠some i) (o:∀(c:Nat) (f:Bl),bl[c]? = some f->f.al≠some i) :
 Wd w0 k0 X bl (L.setIfInBounds i true) μ w':=by
 have m:∀(c:Nat) (f:Bl),bl[c]? = some f->f.live (L.setIfInBounds i true)=f.live L:=λc f l=>by
  rw[iM s,show(f.al == some i)=false by simpa using o c f l,ZC]
 obtain⟨E,F,G,z⟩:=h.has b e r hv;have C:=h.le;refine⟨h.bel.trans ⟨n.os,n.tape,n.output,n.size,λj q hx=>n.block j oM (λe=>z.elim (λh=>oM) (λh=>hx (e ▸ h)))⟩,XB h.le n.size,λc f l p=>?_,λc d f g l hd hf y=>h.inj c d f g l hd (m c f l ▸ hf) (m d g hd ▸ y)⟩;rw[m c f l]at p;obtain⟨B,D,u,x⟩:=h.has c f l p;by_cases o:c=b
 ·subst o;rw[r]at l;obtain rfl:e=f:=XS.inj l;have t:e.now (L.setIfInBounds i true)=e.after:=by
   unfold Bl.now;rw[kJ s,A];simp
  rw[t];exact⟨n.range,n.there,Xz u n.size,x⟩
 ·have t:f.now (L.setIfInBounds i true)=f.now L:=by
   unfold Bl.now;rw[kJ s,show(f.st == some i)=false by simpa using k c f l o,ZC]
  rw[t];have k:=n.block (μ c) u (h.inj c b f e l r p hv o);refine⟨λj v q=>?_,λj q=>?_,Xz u n.size,x⟩
  ·rw[XW (w:=w) (a:=⟨μ c,0+j,none⟩) k];exact B j v q
  ·rw[XW (w:=w) (a:=⟨μ c,0+j,none⟩) k,World.frozen?_of_block (w:=w) (a:=⟨μ c,0+j,none⟩) k];exact D j q
end RG
namespace RG
variable {P:YG}{ops:Array Yo}{Q:yAL->Act->Xs->Prop}{w0 w:Xs}{k0:Nat}{X:List Nat}{its:List It}{bl:List Bl}{olds:List (Zs × SV)}{a0:Act}{L:Array Bool}{μ μ' μ0:Nat->Nat}
structure Ac(its:List It)(bl:List Bl)(a0:Act)(L:Array Bool)(μ:Nat->Nat)(a:Act):Prop where
 defers:a.defers=a0.defers
 size:a.tmps.size=a0.tmps.size
 got:∀(i:Nat) (it:It) (d:Zs),its[i]? = some it->on L i=true->it.dst=some d->a.tmps[d]? = some (it.out.at μ)/\∀b,it.out.blk=some b->∃e:Bl,bl[b]? = some e/\e.live L=true
 rest:∀t:Zs,(∀(i:Nat) (it:It),its[i]? = some it->on L i=true->it.dst≠some t)->a.tmps[t]? = a0.tmps[t]?
def cQ(o:Yo)(j:Nat):Bool:=o.after.any (λe=>YT .any e && e.on == j)
def GI(b:Array Yo)(k:List It)(i:Nat)(t:Zs):Bool:=k.zipIdx.all (λx=>x.1.dst != some t || (match b[x.2]? with|some o=>cQ o i|none=>false))
def Known(c:Array Yo)(i:Nat)(k:List It)(olds:List (Zs × SV))(b:List (Zs × Nat))(μ:Nat->Nat)(a:Act):Prop:=
 (∀(t:Zs) (j:Nat) (it:It),(t,j)∈b->k[j]? = some it->a.eval (.tmp t)=it.out.at μ)/\(∀(t:Zs) (s:SV),(t,s)∈olds->GI c k i t=true->a.eval (.tmp t)=s.at μ)
def readB(k:Array Yo)(i:Nat)(e:Bl):Bool:=match e.st with|none=>true|some s=>match k[s]? with|some o=>cQ o i|none=>false
def Reads(k:Array Yo)(i:Nat)(c:List Bl)(μ:Nat->Nat)(w:Xs):Prop:=∀(b:Nat) (e:Bl),c[b]? = some e->(e.al=none\/∃(o:Yo) (j:Nat),k[i]? = some o/\e.al=some j/\cQ o j=true)->readB k i e=true->w.rangeAt (μ b) 0 e.before
def Does(P:YG)(Q:yAL->Act->Xs->Prop)(c:List Bl)(o:Yo)(it:It)(μ:Nat->Nat)(a:Act)(w:Xs)(K:Act->Xs->Prop):Kind->Prop
 | .stay=>K (a.put o.dst (it.out.at μ)) w->o.wp P a w K Q
 | .pass=>it.out=.v Zp
 | .call=>(∀w',kZ w w'->K (a.put o.dst (it.out.at μ)) w')->o.wp P a w K Q
 | .make b=>∀e:Bl,c[b]? = some e->(∀(k:Nat) (w':Xs),Made w k e.before w'->K (a.put o.dst (it.out.at (upd μ b k))) w')->o.wp P a w K Q
 | .put b=>∀e:Bl,c[b]? = some e->w.there (μ b) 0 e.before.length->w.rangeAt (μ b) 0 e.before->(∀w',PutTo (μ b) e.before.length e.after w w'->K (a.put o.dst (it.out.at μ)) w')->o.wp P a w K Q
def Cert(P:YG)(Q:yAL->Act->Xs->Prop)(e:Xs)(d:Nat)(X:List Nat)(b:Array Yo)(i:Nat)(k:List It)(c:List Bl)(olds:List (Zs × SV))(o:Yo)(it:It):Prop:=
 ∀(μ:Nat->Nat) (a:Act) (w:Xs) (K:Act->Xs->Prop),Known b i k olds it.need μ a->Reads b i c μ w->BelX d X e w->Does P Q c o it μ a w K it.kind
def Ky(k:List It)(c:List Bl)(o:Yo)(it:It)(b:Nat):Bool:=
 (match c[b]? with|some e=>(match e.al with|none=>true|some j=>cQ o j)|none=>false) || it.need.any (λx=>cQ o x.2 && (match k[x.2]? with|some jt=>jt.dst.isSome && jt.out.blk == some b|none=>false))
def AK(d:List It)(k:List Bl)(i:Nat)(o:Yo)(it:It):Kind->Bool
 | .stay | .pass | .call=>k.all (λe=>e.al != some i && e.st != some i) && (match it.out.blk with|none=>true|some b=>Ky d k o it b)
 | .make b=>(match it.out.blk with|some c=>c == b|none=>false) && k.zipIdx.all (λx=>x.1.st != some i && (x.1.al == some i) == (x.2 == b)) && (k[b]?).isSome
 | .put b=>(match it.out with | .v _=>true|_=>false) && k.zipIdx.all (λx=>x.1.al != some i && (x.1.st == some i) == (x.2 == b)) && (match k[b]? with|some e=>(match e.al with|none=>true|some j=>cQ o j)|none=>false)
def Kind.isPass:Kind->Bool
 | .pass=>true
 | _=>false
def Li(k:List It)(o:Yo)(it:It):Bool:=
 match o.guard with
 | none=>!it.kind.isPass
 | some (j,want)=>cQ o j && (match k[j]? with|some jt=>jt.dst.isSome && (match jt.out with | .v (.bool b)=>(b == want) == !it.kind.isPass|_=>false)|none=>false)
def okB(k:List It)(c:List Bl)(i:Nat)(o:Yo)(it:It):Bool:=
 (o.dst == it.dst) && Li k o it && o.after.all (λe=>!YT .any e || e.on<i) && it.need.all (λb=>cQ o b.2 && ((k[b.2]?).bind (·.dst)) == some b.1) && AK k c i o it it.kind
def Ad:List It->Bool
 | []=>true
 | it :: r=>(match it.dst with|none=>true|some d=>r.all (λk=>k.dst != some d)) && Ad r
def Wy(k:List Bl)(olds:List (Zs × SV)):Bool:=
 olds.all (λx=>(match x.2.blk with|none=>true|some b=>match k[b]? with|some e=>e.al.isNone|none=>false))
def allB(b:Array Yo)(k:List It)(c:List Bl)(olds:List (Zs × SV))(n:Nat):Bool:=
 b.size == k.length && Ad k && Wy c olds && k.all (λit=>match it.dst with|none=>true|some d=>d<n) &&
 (Yt k.length).all (λi=>match b[i]?,k[i]? with|some o,some it=>okB k c i o it|_,_=>false)
theorem LL:∀ {k:List It},Ad k=true->∀(i j:Nat) (it b:It) (d:Zs),k[i]? = some it->k[j]? = some b->it.dst=some d->b.dst=some d->i=j
 | [],_,i,_,_,_,_,h,_,_,_=>by simp at h
 | x :: r,h,i,j,it,b,d,hi,hj,di,dj=>by
  simp only[Ad,XO]at h;match i,j with
  | 0,0=>rfl
  | 0,j+1 =>
   simp only[Yc,XS.injEq]at hi;simp only[Ya]at hj;subst hi;rw[di]at h;have:=Yj.1 h.1 b (YK hj);rw[dj]at this;simp at this
  | i+1,0 =>
   simp only[Yc,XS.injEq]at hj;simp only[Ya]at hi;subst hj;rw[dj]at h;have:=Yj.1 h.1 it (YK hi);rw[di]at this;simp at this
  | i+1,j+1 =>
   simp only[Ya]at hi hj;rw[LL h.2 i j it b d hi hj di dj]
theorem pJ{e:Bl}{i:Nat}(k:i<L.size)(h:e.live L=true):e.live (L.setIfInBounds i true)=true:=by rw[iM k,h,yAI]
theorem Ac.put{a:Act}{i:Nat}{it:It}(h:Ac its bl a0 L μ a)(hd:Ad its=true)(p:i<L.size)(n:its[i]? = some it)(hμ:∀(b:Nat) (e:Bl),bl[b]? = some e->e.live L=true->μ' b=μ b)
 (r:∀d,it.dst=some d->d<a0.tmps.size) (o:∀d,it.dst=some d->∀b,it.out.blk=some b->∃e:Bl,bl[b]? = some e/\e.live (L.setIfInBounds i true)=true)
 (v:Xu) (hv:∀d,it.dst=some d->v=it.out.at μ'):Ac its bl a0 (L.setIfInBounds i true) μ' (a.put it.dst v):=by
 have m:∀(j:Nat) (f:It) (d:Zs),its[j]? = some f->on L j=true->f.dst=some d->a.tmps[d]? = some (f.out.at μ')/\∀b,f.out.blk=some b->∃e:Bl,bl[b]? = some e/\e.live (L.setIfInBounds i true)=true:=λj f d g ho c=>by
  obtain⟨u,q⟩:=h.got j f d g ho c;refine⟨?_,λb k=>?_⟩
  ·rw[u]
   congr 1
   refine SV.at_congr λb s=>?_
   obtain⟨e,l,o⟩:=q b s;rw[hμ b e l o]
  ·obtain⟨e,l,o⟩:=q b k;exact⟨e,l,pJ p o⟩
 cases k:it.dst with
 | none =>
  show Ac its bl a0 _ μ' a;refine⟨h.defers,h.size,λj f d g ho c=>?_,λt q=>h.rest t λj f g ho=>q j f g (by rw[eD p,ho,yAI])⟩;rw[eD p]at ho;by_cases l:i=j
  ·subst l;rw[n]at g;obtain rfl:it=f:=XS.inj g;rw[k]at c;cases c
  ·exact m j f d g (by simpa[l]using ho) c
 | some d0 =>
  have u:=r d0 k;refine⟨h.defers,?_,λj f d g ho c=>?_,λt q=>?_⟩
  ·show(a.tmps.setIfInBounds d0 v).size=_;rw[YJ];exact h.size
  ·show(a.tmps.setIfInBounds d0 v)[d]? = _/\_;rw[Zv];rw[eD p]at ho;by_cases l:i=j
   ·subst l;rw[n]at g;obtain rfl:it=f:=XS.inj g;rw[k]at c;obtain rfl:d0=d:=XS.inj c;rw[yES rfl,yES (by rw[h.size];exact u),hv d0 k];exact⟨rfl,o d0 k⟩
   ·have o:d0≠d:=λs=>l (LL hd i j it f d0 n g k (s ▸ c))
    rw[yET o];exact m j f d g (by simpa[l]using ho) c
  ·show(a.tmps.setIfInBounds d0 v)[t]? = _;have o:d0≠t:=λl=>q i it n (by rw[eD p];simp) (by rw[k,l])
   rw[Zv,yET o];exact h.rest t λj f g ho=>q j f g (by rw[eD p,ho,yAI])
structure Inv(ops:Array Yo)(its:List It)(bl:List Bl)(a0:Act)(w0:Xs)(k0:Nat)(X:List Nat)(μ0:Nat->Nat)(L:Array Bool)(a:Act)(w:Xs):Prop where
 size:L.size=its.length
 cl:∀(i:Nat) (o:Yo),ops[i]? = some o->on L i=true->∀e∈o.after,YT .any e=true->on L e.on=true
 all:∃μ,(∀(b:Nat) (e:Bl),bl[b]? = some e->e.al=none->μ b=μ0 b)/\Ac its bl a0 L μ a/\Wd w0 k0 X bl L μ w/\∀(b:Nat) (e:Bl),bl[b]? = some e->e.put L=true->e.live L=true
theorem Ce{o:Yo}(h:o.guard=none)(y:Nat->Option Bool):YS o y=true:=by unfold YS;rw[h]
theorem jY{p:Bl × Nat->Bool}(h:bl.zipIdx.all p=true)(b:Nat)(e:Bl)(k:bl[b]? = some e):p (e,b)=true:=
 Yj.1 h (e,b) (by rw[yBa];exact k)
theorem two{s t:Option Nat}{i c b:Nat}(h:(s != some i && (t == some i) == (c == b))=true):s≠some i/\(t=some i↔c=b):=by
 rw[XO]at h;refine⟨by simpa using h.1,?_⟩;have k:(t == some i)=(c == b):=by simpa using h.2
 constructor
 ·intro d;rw[d]at k;simpa using k.symm
 ·intro d;rw[d]at k;simpa using k
theorem step{i:Nat}{o:Yo}{it:It}{a:Act}(hd:Ad its=true)(ho:ops[i]? = some o)(R:its[i]? = some it)(hr:okB its bl i o it=true)(V:∀d,it.dst=some d->d<a0.tmps.size)
 (holds:∀(t:Zs) (s:SV),(t,s)∈olds->a0.tmps[t]? = some (s.at μ0)/\∀b,s.blk=some b->∃e:Bl,bl[b]? = some e/\e.al=none)
 (l:∀(j:Nat) (Z:Yo) (H:It),ops[j]? = some Z->its[j]? = some H->Z.dst=H.dst) (F:ops.size=its.length) (B:Cert P Q w0 k0 X ops i its bl olds o it) (h7:on L i=false) (M:∀e∈o.after,YT .any e=true->on L e.on=true) (h:Inv ops its bl a0 w0 k0 X μ0 L a w) :
 wpOp P ops Q i (Inv ops its bl a0 w0 k0 X μ0 (L.setIfInBounds i true)) a w:=by
 obtain⟨hu,h8,μ,hμ,hA,hW,hO⟩:=h;have E:i<L.size:=by rw[hu];exact(XG.1 R).1
 simp only[okB,XO]at hr;obtain⟨⟨⟨⟨ht,Y⟩,k2⟩,hn⟩,g⟩:=hr;have C:o.dst=it.dst:=by simpa using ht
 have r:∀j,cQ o j=true->on L j=true:=λj J=>by
  obtain⟨e,T,m⟩:=yAr.1 J;simp only[XO,beq_iff_eq]at m;rw[<-m.2];exact M e T m.1
 have h9:YS o (yielded ops a.tmps) = !it.kind.isPass:=by
  unfold YS;unfold Li at Y;cases K:o.guard with
  | none=>rw[K]at Y;dsimp only at Y⊢;rw[Y]
  | some jw =>
   obtain⟨j,q⟩:=jw;rw[K]at Y;dsimp only at Y⊢;rw[XO]at Y;cases J:its[j]? with
   | none=>rw[J]at Y;cases Y.2
   | some H =>
    rw[J]at Y;obtain⟨h1,A⟩:=Y;dsimp only at A;rw[XO]at A;obtain⟨d,I⟩:=YB.1 A.1;have N:j<its.length:=(XG.1 J).1;have D:ops[j]? = some (ops[j]'(by rw[F];exact N)):=X4 _;have G:=(hA.got j H d J (r j h1) I).1;have O:yielded ops a.tmps j=match H.out.at μ with | .bool b=>some b|_=>none:=by
     unfold yielded;rw[D];show(match (ops[j]'(by rw[F];exact N)).dst.bind (a.tmps[·]?) with|some (.bool b)=>some b|_=>none)=_;rw[l j _ H D J,I];show(match a.tmps[d]? with|some (.bool b)=>some b|_=>none)=_;rw[G];cases H.out.at μ<;>rfl
    rw[O];have l:=A.2;cases n:H.out with
    | p b x=>rw[n]at l;cases l
    | s b x y=>rw[n]at l;cases l
    | t b x y z=>rw[n]at l;cases l
    | v x =>
     rw[n]at l;cases x with
     | bool b =>
      show(some b == some q)=_;dsimp only at l;have:(b == q) = !it.kind.isPass:=by simpa using l
      rw[<-this];cases b<;>cases q<;>rfl
     | _=>cases l
 have hK:Known ops i its olds it.need μ a:=by
  refine⟨λt j H hm J=>?_,λt s hm K=>?_⟩
  ·have h1:=Yj.1 hn (t,j) hm;simp only[XO,J]at h1;have A:H.dst=some t:=by simpa using h1.2
   have G:=(hA.got j H t J (r j h1.1) A).1;show a.tmps.getD t Zp=_;rw[XI,G];rfl
  ·obtain⟨A,G⟩:=holds t s hm;have O:=hA.rest t (λj H J S I=>by
    have l:=Yj.1 K (H,j) (by rw[yBa];exact J);dsimp only at l;rw[I]at l;cases D:ops[j]? with
    | none=>rw[D]at l;simp at l
    | some Z =>
     rw[D]at l;have q:cQ Z i=true:=by simpa using l
     obtain⟨e',N,F⟩:=yAr.1 q;simp only[XO,beq_iff_eq]at F;have:=h8 j Z D S e' N F.1;rw[F.2,h7]at this;cases this)
   show a.tmps.getD t Zp=_;rw[XI,O,A];show s.at μ0=s.at μ;refine SV.at_congr λb m=>?_
   obtain⟨e,T,q⟩:=G b m;rw[hμ b e T q]
 have hR:Reads ops i bl μ w:=λb e m q K=>by
  have:=(hW.has b e m (by
   unfold Bl.live;rcases q with q|⟨I,j,l,q,hd⟩
   ·rw[q];rfl
   ·rw[q];show on L j=true;rw[ho]at l;obtain rfl:=XS.inj l;exact r j hd)).1
  unfold Bl.now Bl.put at this;unfold readB at K;cases hs:e.st with
  | none=>rw[hs]at this;exact this
  | some s =>
   rw[hs]at this K;dsimp only at K;cases l:ops[s]? with
   | none=>rw[l]at K;cases K
   | some os =>
    rw[l]at K;have I:on L s=false:=by
     cases S:on L s with
     | false=>rfl
     | true =>
      obtain⟨e',N,F⟩:=yAr.1 K;simp only[XO,beq_iff_eq]at F;have:=h8 s os l S e' N F.1;rw[F.2,h7]at this;cases this
    rw[show(Option.map (on L) (some s)).getD false=on L s from rfl,I]at this;exact this
 have h0:∀b,Ky its bl o it b=true->∃e:Bl,bl[b]? = some e/\e.live L=true:=λb m=>by
  unfold Ky at m;rw[Bool.or_eq_true]at m;rcases m with A|A
  ·cases T:bl[b]? with
   | none=>rw[T]at A;cases A
   | some e =>
    rw[T]at A;dsimp only at A;refine⟨e,rfl,?_⟩;unfold Bl.live;cases q:e.al with
    | none=>rfl
    | some j=>rw[q]at A;exact r j A
  ·obtain⟨x,hx,G⟩:=List.any_eq_true.1 A;rw[XO]at G;cases J:its[x.2]? with
   | none=>rw[J]at G;cases G.2
   | some H =>
    rw[J]at G;dsimp only at G;rw[XO]at G;obtain⟨d,l⟩:=YB.1 G.2.1;exact(hA.got x.2 H d J (r x.2 G.1) l).2 b (by simpa using G.2.2)
 have G:∀(j:Nat) (Z:Yo),ops[j]? = some Z->on (L.setIfInBounds i true) j=true->∀e∈Z.after,YT .any e=true->on (L.setIfInBounds i true) e.on=true:=λj Z D S e T m=>by
  rw[eD E]at S⊢;by_cases l:i=j
  ·subst l;rw[ho]at D;obtain rfl:o=Z:=XS.inj D;rw[M e T m,yAI]
  ·rw[h8 j Z D (by simpa[l]using S) e T m,yAI]
 have H:(L.setIfInBounds i true).size=its.length:=by rw[YJ];exact hu
 have hC:=B μ a w (Inv ops its bl a0 w0 k0 X μ0 (L.setIfInBounds i true)) hK hR hW.bel;unfold wpOp;rw[ho];dsimp only;rw[h9];cases hk:it.kind with
 | pass =>
  rw[hk]at hC g;simp only[AK,XO]at g;have I:∀(b:Nat) (e:Bl),bl[b]? = some e->e.al≠some i/\e.st≠some i:=λb e m=>by simpa using Yj.1 g.1 e (YK m)
  have l:∀(b:Nat) (e:Bl),bl[b]? = some e->e.live (L.setIfInBounds i true)=e.live L/\e.put (L.setIfInBounds i true)=e.put L:=λb e m =>
   ⟨by rw[iM E,show(e.al == some i)=false by simpa using(I b e m).1,ZC],by rw[kJ E,show(e.st == some i)=false by simpa using(I b e m).2,ZC]⟩
  show Inv ops its bl a0 w0 k0 X μ0 (L.setIfInBounds i true) (a.put o.dst Zp) w;refine⟨H,G,μ,hμ,?_,hW.same l,λb e m=>by rw[(l b e m).1,(l b e m).2];exact hO b e m⟩;rw[C];have n:it.out=.v Zp:=hC;refine hA.put hd E R (λ_ _ _ _=>rfl) V (λ_ _ b M=>?_) _ (λ_ _=>by rw[n];rfl);rw[n]at M;cases M
 | stay =>
  rw[hk]at hC g;simp only[AK,XO]at g;show o.wp P a w _ Q\/_;left;refine hC ?_;have I:∀(b:Nat) (e:Bl),bl[b]? = some e->e.al≠some i/\e.st≠some i:=λb e m=>by simpa using Yj.1 g.1 e (YK m)
  have l:∀(b:Nat) (e:Bl),bl[b]? = some e->e.live (L.setIfInBounds i true)=e.live L/\e.put (L.setIfInBounds i true)=e.put L:=λb e m =>
   ⟨by rw[iM E,show(e.al == some i)=false by simpa using(I b e m).1,ZC],by rw[kJ E,show(e.st == some i)=false by simpa using(I b e m).2,ZC]⟩
  refine⟨H,G,μ,hμ,?_,hW.same l,λb e m=>by rw[(l b e m).1,(l b e m).2];exact hO b e m⟩;rw[C];refine hA.put hd E R (λ_ _ _ _=>rfl) V (λ_ _ b M=>?_) _ (λ_ _=>rfl);have A:=g.2;rw[M]at A;obtain⟨e,T,hl⟩:=h0 b A;exact⟨e,T,pJ E hl⟩
 | call =>
  rw[hk]at hC g;simp only[AK,XO]at g;show o.wp P a w _ Q\/_;left;refine hC λw' F=>?_
  have I:∀(b:Nat) (e:Bl),bl[b]? = some e->e.al≠some i/\e.st≠some i:=λb e m=>by simpa using Yj.1 g.1 e (YK m)
  have l:∀(b:Nat) (e:Bl),bl[b]? = some e->e.live (L.setIfInBounds i true)=e.live L/\e.put (L.setIfInBounds i true)=e.put L:=λb e m =>
   ⟨by rw[iM E,show(e.al == some i)=false by simpa using(I b e m).1,ZC],by rw[kJ E,show(e.st == some i)=false by simpa using(I b e m).2,ZC]⟩
  refine⟨H,G,μ,hμ,?_,(hW.call F).same l,λb e m=>by rw[(l b e m).1,(l b e m).2];exact hO b e m⟩;rw[C];refine hA.put hd E R (λ_ _ _ _=>rfl) V (λ_ _ b M=>?_) _ (λ_ _=>rfl);have A:=g.2;rw[M]at A;obtain⟨e,T,hl⟩:=h0 b A;exact⟨e,T,pJ E hl⟩
 | make b =>
  rw[hk]at hC g;simp only[AK,XO]at g;obtain⟨⟨n,hz⟩,M⟩:=g;obtain⟨e,l⟩:=YB.1 M;have ha:e.al=some i:=(two (jY hz b e l)).2.2 rfl;have F:∀(c:Nat) (f:Bl),bl[c]? = some f->f.st≠some i:=λc f B=>(two (jY hz c f B)).1
  have O:∀(c:Nat) (f:Bl),bl[c]? = some f->c≠b->f.al≠some i:=λc f B U h=>U ((two (jY hz c f B)).2.1 h)
  have I:e.live L=false:=by unfold Bl.live;rw[ha];exact h7
  have hpt:e.put L=false:=by
   cases hp:e.put L with
   | false=>rfl
   | true=>have:=hO b e l hp;rw[I]at this;cases this
  have hq:it.out.blk=some b:=by
   cases N:it.out.blk with
   | none=>rw[N]at n;cases n
   | some c =>
    rw[N]at n;rw[show c=b by simpa using n]
  show o.wp P a w _ Q\/_;left;refine hC e l λk w' hm=>?_
  have hμb:∀(c:Nat) (f:Bl),bl[c]? = some f->f.live L=true->upd μ b k c=μ c:=λc f B hl=>by
   unfold upd;rw[yET];rintro rfl;rw[l]at B;obtain rfl:e=f:=XS.inj B;rw[I]at hl;cases hl
  refine⟨H,G,upd μ b k,λc f B q=>?_,?_,hW.make E l ha O F hpt hm,λc f B=>?_⟩
  ·rw[hμb c f B (by unfold Bl.live;rw[q];rfl)];exact hμ c f B q
  ·rw[C];refine hA.put hd E R hμb V (λ_ _ c W=>?_) _ (λ_ _=>rfl);rw[hq]at W;have h1:b=c:=XS.inj W;subst h1;exact⟨e,l,by rw[iM E,ha];simp⟩
  ·rw[kJ E,show(f.st == some i)=false by simpa using F c f B,ZC];exact λhp=>pJ E (hO c f B hp)
 | put b =>
  rw[hk]at hC g;simp only[AK,XO]at g;obtain⟨⟨n,hz⟩,M⟩:=g;cases l:bl[b]? with
  | none=>rw[l]at M;cases M
  | some e =>
   rw[l]at M;dsimp only at M;have hs:e.st=some i:=(two (jY hz b e l)).2.2 rfl;have O:∀(c:Nat) (f:Bl),bl[c]? = some f->f.al≠some i:=λc f B=>(two (jY hz c f B)).1
   have F:∀(c:Nat) (f:Bl),bl[c]? = some f->c≠b->f.st≠some i:=λc f B U h=>U ((two (jY hz c f B)).2.1 h)
   have I:e.live L=true:=by
    unfold Bl.live;cases q:e.al with
    | none=>rfl
    | some j =>
     have A:=M;rw[q]at A;exact r j A
   show o.wp P a w _ Q\/_;left;have k1:e.put L=false:=by unfold Bl.put;rw[hs];exact h7
   have A:e.now L=e.before:=by unfold Bl.now;rw[k1];rfl
   refine hC e l (hW.has b e l I).2.1 (A ▸ (hW.has b e l I).1) λw' hw=>?_
   refine⟨H,G,μ,hμ,?_,hW.put E l hs I hw F O,λc f B hp=>?_⟩
   ·rw[C];refine hA.put hd E R (λ_ _ _ _=>rfl) V (λd hy c W=>?_) _ (λd hy=>rfl);cases N:it.out with
    | v x=>rw[N]at W;cases W
    | p x y=>rw[N]at n;cases n
    | s x y z=>rw[N]at n;cases n
    | t x y z u=>rw[N]at n;cases n
   ·rw[iM E,show(f.al == some i)=false by simpa using O c f B,ZC];rw[kJ E]at hp;by_cases U:c=b
    ·subst U;rw[l]at B;obtain rfl:e=f:=XS.inj B;exact I
    ·rw[show(f.st == some i)=false by simpa using F c f B U,ZC]at hp;exact hO c f B hp
end RG
namespace RG
variable {P:YG}{ops:Array Yo}{Q:yAL->Act->Xs->Prop}{w0 w:Xs}{k0:Nat}{X:List Nat}{its:List It}{bl:List Bl}{olds:List (Zs × SV)}{a0:Act}{L:Array Bool}{μ μ0:Nat->Nat}
def puts(μ:Nat->Nat):List It->Act->Act
 | [],a=>a
 | it :: r,a=>puts μ r (a.put it.dst (it.out.at μ))
theorem nW(μ:Nat->Nat):∀(k:List It) (a:Act),(puts μ k a).defers=a.defers
 | [],_=>rfl
 | it :: r,a=>by
  rw[puts,nW μ r];cases it.dst<;>rfl
theorem rH(a:Act)(d:Option Zs)(v:Xu):(a.put d v).tmps.size=a.tmps.size:=by
 cases d with
 | none=>rfl
 | some d=>exact YJ ..
theorem As(μ:Nat->Nat):∀(k:List It) (a:Act),(puts μ k a).tmps.size=a.tmps.size
 | [],_=>rfl
 | it :: r,a=>by rw[puts,As μ r,rH]
theorem oW(a:Act){d:Option Zs}(v:Xu){t:Zs}(h:d≠some t):(a.put d v).tmps[t]? = a.tmps[t]?:=by
 cases d with
 | none=>rfl
 | some d =>
  show(a.tmps.setIfInBounds d v)[t]? = _;rw[Zv,yET (λe=>h (by rw[e]))]
theorem mQ(μ:Nat->Nat):∀(k:List It) (a:Act) (t:Zs),(∀it∈k,it.dst≠some t)->(puts μ k a).tmps[t]? = a.tmps[t]?
 | [],_,_,_=>rfl
 | it :: r,a,t,h=>by
  rw[puts,mQ μ r _ t (λx hx=>h x (Ym _ hx)),oW a _ (h it YC)]
theorem tH(μ:Nat->Nat):∀(k:List It) (a:Act) (i:Nat) (it:It) (d:Zs),Ad k=true->k[i]? = some it->it.dst=some d->d<a.tmps.size->(puts μ k a).tmps[d]? = some (it.out.at μ)
 | [],_,i,_,_,_,h,_,_=>by simp at h
 | x :: r,a,0,it,d,hB,h,hd,hs=>by
  obtain rfl:x=it:=by simpa using h
  simp only[Ad,XO,hd]at hB;rw[puts,mQ μ r _ d (λy b=>by simpa using Yj.1 hB.1 y b),hd];show(a.tmps.setIfInBounds d _)[d]? = _;rw[Zv,yES rfl,yES hs]
 | x :: r,a,i+1,it,d,hB,h,hd,hs=>by
  simp only[Ad,XO]at hB;rw[puts];exact tH μ r _ i it d hB.2 (by simpa using h) hd (by rw[rH];exact hs)
theorem Act.ext'{a b:Act}(c:a.tmps=b.tmps)(k:a.defers=b.defers):a=b:=by
 cases a;cases b;subst c;subst k;rfl
theorem Ac.done{a:Act}(h:Ac its bl a0 L μ a)(g:Ad its=true)(c:∀it∈its,∀d,it.dst=some d->d<a0.tmps.size)(b:∀i,i<its.length->on L i=true):a=puts μ its a0:=by
 refine Act.ext' ?_ (by rw[nW];exact h.defers);apply Array.ext_getElem?;intro t;by_cases e:∃(i:Nat) (it:It),its[i]? = some it/\it.dst=some t
 ·obtain⟨i,it,k,hd⟩:=e;rw[(h.got i it t k (b i (XG.1 k).1) hd).1,tH μ its a0 i it t g k hd (c it (YK k) t hd)]
 ·rw[h.rest t (λi it k _ hd=>e ⟨i,it,k,hd⟩),mQ μ its a0 t (λit f hd=>?_)];obtain⟨i,k⟩:=Zz f;exact e ⟨i,it,k,hd⟩
def unl(L:Array Bool):Nat:=L.toList.countP (λb=>!b)
theorem count_set:∀(l:List Bool) (i:Nat),l[i]? = some false->(l.set i true).countP (λb=>!b)+1=l.countP (λb=>!b)
 | [],i,h=>by simp at h
 | x :: r,0,h=>by
  obtain rfl:x=false:=by simpa using h
  simp
 | x :: r,i+1,h=>by
  have:=count_set r i (by simpa using h);rw[List.set_cons_succ,yDG,yDG];omega
theorem mH{i:Nat}(h:L.getD i true=false):unl (L.setIfInBounds i true)+1=unl L:=by
 unfold unl;rw[Array.toList_setIfInBounds];refine count_set _ _ ?_;rw[Yz];rw[XI]at h;cases hh:L[i]? with
 | none=>rw[hh]at h;cases h
 | some b=>rw[hh]at h;rw[show b=false from h]
theorem kY(h:unl L=0)(i:Nat)(b:i<L.size):on L i=true:=by
 have k:=List.countP_eq_zero.1 h;have c:=k L[i] (by simp);unfold on;rw[XI,X4 b];simpa using c
structure Reg(P:YG)(ops:Array Yo)(Q:yAL->Act->Xs->Prop)(w0:Xs)(k0:Nat)(X:List Nat)(its:List It)(bl:List Bl)(olds:List (Zs × SV))(a0:Act)(μ0:Nat->Nat):Prop where
 chk:allB ops its bl olds a0.tmps.size=true
 old:∀(t:Zs) (s:SV),(t,s)∈olds->a0.tmps[t]? = some (s.at μ0)
 cert:∀(i:Nat) (o:Yo) (it:It),ops[i]? = some o->its[i]? = some it->Cert P Q w0 k0 X ops i its bl olds o it
theorem Reg.step{i:Nat}{o:Yo}{a:Act}(R:Reg P ops Q w0 k0 X its bl olds a0 μ0)(ho:ops[i]? = some o)(v:on L i=false)(n:∀e∈o.after,YT .any e=true->on L e.on=true)(h:Inv ops its bl a0 w0 k0 X μ0 L a w):
 wpOp P ops Q i (Inv ops its bl a0 w0 k0 X μ0 (L.setIfInBounds i true)) a w:=by
 have z:=R.chk;simp only[allB,XO,beq_iff_eq]at z;obtain⟨⟨⟨⟨f,hd⟩,l⟩,r⟩,g⟩:=z;have x:i<its.length:=by rw[<-f];exact(XY.1 ho).1
 obtain⟨it,k⟩:∃it,its[i]? = some it:=⟨its[i],XJ x⟩
 have A:=Yj.1 g i (YZ.2 x);rw[ho,k]at A;refine RG.step (olds:=olds) hd ho k A (λd u=>?_) (λt s y=>?_) (λj D E q m=>?_) f (R.cert i o it ho k) v n h
 ·have:=Yj.1 r it (YK k);rw[u]at this;simpa using this
 ·have C:=Yj.1 l (t,s) y;refine⟨R.old t s y,λb p=>?_⟩;have c:=C;dsimp only at c;rw[p]at c;dsimp only at c;cases B:bl[b]? with
  | none=>rw[B]at c;cases c
  | some e=>rw[B]at c;exact⟨e,rfl,by simpa using c⟩
 ·have c:=Yj.1 g j (YZ.2 (XG.1 m).1);rw[q,m]at c;simp only[okB,XO]at c;simpa using c.1.1.1.1
theorem Reg.back{i:Nat}{o:Yo}(R:Reg P ops Q w0 k0 X its bl olds a0 μ0)(ho:ops[i]? = some o):i<its.length/\∀e∈o.after,YT .any e=true->e.on<i:=by
 have f:=R.chk;simp only[allB,XO,beq_iff_eq]at f;obtain⟨⟨⟨⟨b,hd⟩,g⟩,j⟩,k⟩:=f;have d:i<its.length:=by rw[<-b];exact(XY.1 ho).1
 have c:=Yj.1 k i (YZ.2 d);rw[ho,XJ d]at c;simp only[okB,XO]at c;refine⟨d,λe m l=>?_⟩;have:=ZF.1 c.1.1.2 e m;simpa[l]using this
theorem Reg.size(R:Reg P ops Q w0 k0 X its bl olds a0 μ0):ops.size=its.length:=by
 have k:=R.chk;simp only[allB,XO,beq_iff_eq]at k;exact k.1.1.1.1
theorem Reg.full{a:Act}(R:Reg P ops Q w0 k0 X its bl olds a0 μ0)(h:Inv ops its bl a0 w0 k0 X μ0 L a w)(d:Yf .any ops L=[]):∀i,i<its.length->on L i=true:=by
 intro i;induction i using yDX with
 | ind i ih =>
  intro c;have ho:ops[i]? = some (ops[i]'(by rw[R.size];exact c)):=X4 _;cases k:on L i with
  | true=>rfl
  | false =>
   have:i∈Yf .any ops L:=mem_ready.2 ⟨?_,_,ho,λe g f=>?_⟩
   ·rw[d]at this;cases this
   ·unfold on at k;rw[XI,X4 (by rw[h.size];exact c)]at k⊢;exact k
   ·have b:=(R.back ho).2 e g f;exact ih e.on b (Nat.lt_trans b c)
def ad(ks:List Nat)(b:Nat):Nat:=ks.getD b 0
structure St(w0:Xs)(k0:Nat)(X:List Nat)(cs:List (List Xu))(ks:List Nat)(w:Xs):Prop where
 bel:BelX k0 X w0 w
 le:k0<=w.heap.size
 len:ks.length=cs.length
 has:∀(b:Nat) (c:List Xu),cs[b]? = some c->w.rangeAt (ad ks b) 0 c/\w.there (ad ks b) 0 c.length/\ad ks b<w.heap.size/\(k0<=ad ks b\/ad ks b∈X)
 inj:∀(b c:Nat),b<cs.length->c<cs.length->b≠c->ad ks b≠ad ks c
theorem St.drew{cs:List (List Xu)}{ks:List Nat}(h:St w0 k0 X cs ks w):St w0 k0 X cs ks w.drew:=⟨h.bel.drew,h.le,h.len,h.has,h.inj⟩
def Bl.fin(e:Bl):List Xu:=if e.st.isSome=true then e.after else e.before
def nN(k:List Bl)(n:Nat):Bool:=k.zipIdx.all (λx=>x.1.al.isNone == decide (x.2<n)) && decide (n<=k.length)
theorem Ao{t:Array Yo}{cs:List (List Xu)}{ks:List Nat}(q:St w0 k0 X cs ks w)(v:nN bl cs.length=true)(s:(bl.map (·.before)).take cs.length=cs):
 Inv t its bl a0 w0 k0 X (ad ks) (XL its.length false) a0 w:=by
 simp only[nN,XO]at v;have g:∀i,on (XL its.length false) i=false:=λi=>by
  unfold on;rw[XI,yAQ];by_cases h:i<its.length
  ·rw[yES h];rfl
  ·rw[yET h];rfl
 have k:∀(b:Nat) (e:Bl),bl[b]? = some e->e.live (XL its.length false)=true->b<cs.length:=λb e l n=>by
  have p:=jY v.1 b e l;unfold Bl.live at n;cases m:e.al with
  | none=>simpa[m]using p
  | some j=>rw[m]at n;have:on (XL its.length false) j=true:=n;rw[g]at this;cases this
 have m:∀e:Bl,e.put (XL its.length false)=false:=λe=>by
  unfold Bl.put;cases e.st with
  | none=>rfl
  | some j=>exact g j
 have p:∀(b:Nat) (e:Bl),bl[b]? = some e->b<cs.length->cs[b]? = some e.before:=λb e l u=>by
  rw[<-s,Zt,yES u,Ys,l];rfl
 refine⟨Array.size_replicate,(λi o _ h=>by rw[g]at h;cases h),ad ks,λ_ _ _ _=>rfl,⟨rfl,rfl,λi it d a ho=>?_,λ_ _=>rfl⟩,⟨q.bel,q.le,λb e l n=>?_,λb c e f l y z hf r=>q.inj b c (k b e l z) (k c f y hf) r⟩,λb e l x=>?_⟩
 ·rw[g]at ho;cases ho
 ·unfold Bl.now;rw[m e];exact q.has b e.before (p b e l (k b e l n))
 ·rw[m e]at x;cases x
theorem Inv.done{a:Act}{cs:List (List Xu)}{ks:List Nat}(R:Reg P ops Q w0 k0 X its bl olds a0 (ad ks))(h:Inv ops its bl a0 w0 k0 X (ad ks) L a w)(n:ks.length=cs.length)(B:nN bl cs.length=true)(k:∀i,i<its.length->on L i=true)
 (p:∀e∈bl,∀j,e.al=some j\/e.st=some j->j<its.length) (s:∀e∈bl,e.fin.length=e.before.length)
 (J:∀(new:List Nat) (w':Xs),new.length=bl.length-cs.length->St w0 k0 X (bl.map Bl.fin) (ks++new) w'->Q .normal (puts (ad (ks++new)) its a0) w'):Q .normal a w:=by
 obtain⟨E,-,μ,hμ,G,A,N⟩:=h;have I:=R.chk;simp only[allB,XO,beq_iff_eq]at I;obtain⟨⟨⟨⟨u,hd⟩,z⟩,y⟩,D⟩:=I;have M:=B;simp only[nN,XO,decide_eq_true_eq]at B;have f:∀(b:Nat) (e:Bl),bl[b]? = some e->e.live L=true:=λb e l=>by
  unfold Bl.live;cases g:e.al with
  | none=>rfl
  | some j=>exact k j (p e (YK l) j (X9 g))
 have v:∀(b:Nat) (e:Bl),bl[b]? = some e->e.now L=e.fin:=λb e l=>by
  unfold Bl.now Bl.put Bl.fin;cases g:e.st with
  | none=>rfl
  | some j =>
   have:=k j (p e (YK l) j (X0 g));simp[this]
 have g:∀b,b<bl.length->ad (ks++(Yt (bl.length-cs.length)).map (λj=>μ (cs.length+j))) b=μ b:=λb l=>by
  unfold ad;rw[Zb];by_cases o:b<cs.length
  ·rw[XQ (by rw[n];exact o)];obtain⟨e,m⟩:∃e,bl[b]? = some e:=⟨bl[b],XJ l⟩
   have t:=jY B.1 b e m;have q:e.al=none:=by simpa[o]using t
   rw[hμ b e m q];unfold ad;rw[Zb]
  ·rw[XR (by rw[n];omega),Ys,n,List.getElem?_range oM];show μ (cs.length+(b-cs.length))=μ b
   congr 1
   omega
 have q:=G.done hd (λit F d o=>by
  have:=Yj.1 y it F;rw[o]at this;simpa using this) k
 have H:puts μ its a0=puts (ad (ks++(Yt (bl.length-cs.length)).map (λj=>μ (cs.length+j)))) its a0:=by
  have key:∀it∈its,∀d,it.dst=some d->it.out.at μ=it.out.at (ad (ks++(Yt (bl.length-cs.length)).map (λj=>μ (cs.length+j)))):=λit F d o=>by
   obtain⟨i,C⟩:=Zz F;have K:=(G.got i it d C (k i (XG.1 C).1) o).2;refine SV.at_congr λb l=>?_
   obtain⟨e,m,-⟩:=K b l;rw[g b (XG.1 m).1]
  clear G q z D y hd u E R k p J;generalize a0=C;induction its generalizing C with
  | nil=>rfl
  | cons it r ih =>
   rw[puts,puts];have t:C.put it.dst (it.out.at μ)=C.put it.dst (it.out.at (ad (ks++(Yt (bl.length-cs.length)).map (λj=>μ (cs.length+j))))):=by
    cases o:it.dst with
    | none=>rfl
    | some d=>rw[key it YC d o]
   rw[t];exact ih (λx hx=>key x (Ym _ hx)) _
 rw[q,H];refine J _ w (by simp) ⟨A.bel,A.le,?_,λb c p=>?_,λb c l p C=>?_⟩
 ·simp only[XC,XV,List.length_range];omega
 ·rw[Ys]at p;cases m:bl[b]? with
  | none=>rw[m]at p;cases p
  | some e =>
   rw[m]at p;obtain rfl:e.fin=c:=XS.inj p;have t:=A.has b e m (f b e m);rw[v b e m]at t;rw[g b (XG.1 m).1,s e (YK m)];exact t
 ·rw[XV]at l p;rw[g b l,g c p];exact A.inj b c _ _ (XJ l) (XJ p) (f b _ (XJ l)) (f c _ (XJ p)) C
theorem region_draws'{id:Nat}{cs:List (List Xu)}{ks:List Nat}(v:P.follows .mixedOrders=true)(r:St w0 k0 X cs ks w)(R:Reg P ops Q w0 k0 X its bl olds a0 (ad ks))(p:nN bl cs.length=true)(s:(bl.map (·.before)).take cs.length=cs)(hE:(∀e∈bl,∀j,e.al=some j\/e.st=some j->j<its.length)/\∀e∈bl,e.fin.length=e.before.length)
 (u:∀(new:List Nat) (w':Xs),new.length=bl.length-cs.length->St w0 k0 X (bl.map Bl.fin) (ks++new) w'->Q .normal (puts (ad (ks++new)) its a0) w'):(Zd id ops true).wp P Q a0 w:=by
 obtain⟨n,c⟩:=hE;have key:∀(k:Nat) (L:Array Bool) (a:Act) (w:Xs),unl L=k->Inv ops its bl a0 w0 k0 X (ad ks) L a w->wpAny P .any ops Q k L a w:=by
  intro k;induction k with
  | zero =>
   intro L a w t g;have f:∀i,i<its.length->on L i=true:=λi l=>kY t i (by rw[g.size];exact l)
   refine⟨?_,g.done R r.len p f n c u⟩;apply List.eq_nil_iff_forall_not_mem.2;intro i l;obtain⟨d,o,ho,-⟩:=mem_ready.1 l;have m:=f i (R.back ho).1;unfold on at m;rw[XI]at d m;cases hh:L[i]? with
   | none=>rw[hh]at d;cases d
   | some b=>rw[hh]at d m;rw[show b=false from d]at m;cases m
  | succ k ih =>
   intro L a w t g;refine⟨λx=>g.done R r.len p (R.full g x) n c u,λi l=>?_⟩;obtain⟨d,o,ho,m⟩:=mem_ready.1 l;have f:on L i=false:=by
    unfold on;rw[XI]at d⊢;cases hh:L[i]? with
    | none=>rfl
    | some b=>rw[hh]at d;exact d
   exact wpOp_mono (λy w' q=>ih _ y w' (by have:=mH d;omega) q) (R.step ho f m g)
 refine wp_region_any v (key _ _ a0 _ ?_ ?_)
 ·unfold unl;rw[Array.toList_replicate,List.countP_replicate];simp
 ·rw[R.size];exact Ao r.drew p s
theorem region_text'{id:Nat}{cs:List (List Xu)}{ks:List Nat}(p:St w0 k0 X cs ks w)(R:Reg P ops Q w0 k0 X its bl olds a0 (ad ks))(o:nN bl cs.length=true)(g:(bl.map (·.before)).take cs.length=cs)(hE:(∀e∈bl,∀j,e.al=some j\/e.st=some j->j<its.length)/\∀e∈bl,e.fin.length=e.before.length)
 (f:∀(new:List Nat) (w':Xs),new.length=bl.length-cs.length->St w0 k0 X (bl.map Bl.fin) (ks++new) w'->Q .normal (puts (ad (ks++new)) its a0) w'):(Zd id ops false).wp P Q a0 w:=by
 obtain⟨l,k⟩:=hE;have key:∀(m i:Nat) (L:Array Bool) (a:Act) (w:Xs),i+m=its.length->(∀j,j<its.length->on L j=decide (j<i))->Inv ops its bl a0 w0 k0 X (ad ks) L a w->wpOps P ops Q (List.range' i m) a w:=by
  intro m;induction m with
  | zero =>
   intro i L a w s b d;exact d.done R p.len o (λj c=>by rw[b j c];simp;omega) l k f
  | succ m ih =>
   intro i L a w s b d;rw[List.range'_succ,wpOps_cons];have ho:ops[i]? = some (ops[i]'(by rw[R.size];omega)):=X4 _;refine wpOp_mono (λt w' f=>ih (i+1) _ t w' oM (λj c=>?_) f) (R.step ho (by rw[b i oM];simp) (λe u r=>?_) d)
   ·rw[eD (by rw[d.size];omega),b j c];by_cases n:j<i
    ·simp[n];omega
    ·by_cases q:i=j
     ·subst q;simp
     ·have:¬j<i+1:=oM;simp[n,q,this]
   ·have n:=(R.back ho).2 e u r;rw[b e.on oM];simpa using n
 refine wp_region ?_;rw[List.range_eq_range',R.size];refine key its.length 0 (XL its.length false) a0 w oM (λj c=>?_) (Ao p o g);unfold on;rw[XI,yAQ,yES c];simp
end RG
namespace RG
variable {P:YG}{Q:yAL->Act->Xs->Prop}{its:List It}{bl:List Bl}{olds:List (Zs × SV)}{ops:Array Yo}{i:Nat}{o:Yo}{it:It}{w0:Xs}{k0:Nat}{X:List Nat}
theorem dZ(c:it.kind=.stay)(b:∀(μ:Nat->Nat) (a:Act) (w:Xs),Known ops i its olds it.need μ a->BelX k0 X w0 w->(Yb a.eval o).run P w=.ok (.value (it.out.at μ)) w):Cert P Q w0 k0 X ops i its bl olds o it:=by
 intro μ a w K d _ k;rw[c];intro h;unfold YV;rw[b μ a w d k];exact h
theorem pW(u:it.kind=.stay)(b off:Nat)(e:Bl)(r:bl[b]? = some e)(l:e.al=none)(m:readB ops i e=true)(T:Yd)(t:Zs)(ho:o.op=.load T (.tmp t))(cs:List Xu)(c:it.out=.v (.agg cs.toArray))
 (hx:∀(μ:Nat->Nat) (a:Act),Known ops i its olds it.need μ a->a.eval (.tmp t)=(SV.p b off).at μ) (k:(e.before.drop off).take cs.length=cs)
 (g:(P.underlying T).map (·.isRow)=some true) (s:(P.info? T).map (·.size)=some cs.length):Cert P Q w0 k0 X ops i its bl olds o it:=by
 intro μ a w K x hR _;rw[u];intro h;rw[c]at h;obtain⟨d,g,hd⟩:=XA.1 g;refine wp_load_mid T (.tmp t) ho (μ b) off (hx μ a x) cs d (λj v f=>?_) g hd s h;have p:=hR b e r (X9 l) m (off+j) v ?_
 ·rw[XD]at p;exact p
 ·rw[<-k]at f;have n:j<cs.length:=by
   have q:=(XG.1 f).1;rw[k]at q;exact q
  rw[Zt,yES n,yBZ]at f;exact f
theorem uG(j:it.kind=.call)(f:ZY)(args:Array Xu)(v:Xu)(c:it.out=.v v)(b:∀(μ:Nat->Nat) (a:Act) (w:Xs),Known ops i its olds it.need μ a->BelX k0 X w0 w->(Yb a.eval o).run P w=.ok (.enter f args) w)
 (d:∀w,BelX k0 X w0 w->XH P f args w (rZ w λe w'=>e=v)):Cert P Q w0 k0 X ops i its bl olds o it:=by
 intro μ a w K l _ k;rw[j];intro h;rw[c]at h;unfold YV;rw[b μ a w l k,ZI];refine(d w k).mono ?_;rintro e w' ⟨m,rfl,g,rfl⟩;exact h w' g
theorem AO(b:Nat)(f:it.kind=.make b)(e:Bl)(j:bl[b]? = some e)(t:Yd)(d:∀(μ:Nat->Nat) (a:Act) (w:Xs),Known ops i its olds it.need μ a->BelX k0 X w0 w->(Yb a.eval o).run P w=.ok (.value (it.out.at (upd μ b w.heap.size))) (w.alloc (.cells e.before.toArray t))):Cert P Q w0 k0 X ops i its bl olds o it:=by
 intro μ a w K g _ c;rw[f];intro e' k h;rw[j]at k;obtain rfl:e=e':=XS.inj k;unfold YV;rw[d μ a w g c];exact h _ _ (Made.alloc w e.before t)
theorem Ma(b:Nat)(q:it.kind=.put b)(e:Bl)(l:bl[b]? = some e)(T:Yd)(x y:yAf)(ho:o.op=.store T x y)(f:o.dst=none)(k:e.after.length=e.before.length)
 (hx:∀(μ:Nat->Nat) (a:Act),Known ops i its olds it.need μ a->a.eval x=(SV.p b 0).at μ) (p:∀(μ:Nat->Nat) (a:Act),Known ops i its olds it.need μ a->a.eval y=.agg e.after.toArray)
 (m:(P.info? T).map (·.size)=some e.after.length) (r:e.after.all (·.oneCell')=true):Cert P Q w0 k0 X ops i its bl olds o it:=by
 intro μ a w K j _ _;rw[q];intro e' c g n h;rw[l]at c;obtain rfl:e=e':=XS.inj c;have d:=PutTo.whole g n k;refine wp_store_mid T x y ho (μ b) 0 e.after.toArray (hx μ a j) (p μ a j) ?_ ?_ ?_ ?_
 ·rw[YD,k];exact g
 ·rw[YD];exact m
 ·exact all_oneCell_toArray (λv hv=>Yj.1 r v hv)
 ·have:=h _ d;rw[f]at this⊢;exact this
theorem Known.op{k:List (Zs × Nat)}{μ:Nat->Nat}{a:Act}(h:Known ops i its olds k μ a)(t:Zs)(j:Nat)(d:(t,j)∈k){b:It}(c:its[j]? = some b):a.eval (.tmp t)=b.out.at μ:=h.1 t j b d c
theorem Known.old{k:List (Zs × Nat)}{μ:Nat->Nat}{a:Act}(h:Known ops i its olds k μ a)(t:Zs)(s:SV)(b:(t,s)∈olds)(hf:GI ops its i t=true):a.eval (.tmp t)=s.at μ:=h.2 t s b hf
theorem len1{l:List Nat}(h:l.length=1):∃k,l=[k]:=List.length_eq_one_iff.1 h
theorem len2{l:List Nat}(h:l.length=2):∃k j,l=[k,j]:=by
 match l,h with
 | [k,j],_=>exact⟨k,j,rfl⟩
end RG
namespace RG
variable {P:YG}{ops:Array Yo}{Q:yAL->Act->Xs->Prop}{w0 w:Xs}{k0:Nat}{X:List Nat}{its:List It}{bl:List Bl}{olds:List (Zs × SV)}{a0:Act}{L:Array Bool}{μ μ0:Nat->Nat}{i:Nat}{o:Yo}{it:It}
def Certs(P:YG)(Q:yAL->Act->Xs->Prop)(e:Xs)(d:Nat)(X:List Nat)(b:Array Yo)(k:List It)(c:List Bl)(olds:List (Zs × SV)):Nat->List Yo->List It->Prop
 | _,[],_=>True
 | _,_ :: _,[]=>False
 | i,o :: os,it :: is=>Cert P Q e d X b i k c olds o it/\Certs P Q e d X b k c olds (i+1) os is
theorem Certs.get:∀ {b:List Yo}{k:List It}{n:Nat},Certs P Q w0 k0 X ops its bl olds n b k->∀(i:Nat) (o:Yo) (it:It),b[i]? = some o->k[i]? = some it->Cert P Q w0 k0 X ops (n+i) its bl olds o it
 | [],_,_,_,i,_,_,h,_=>by simp at h
 | _ :: _,[],_,h,_,_,_,_,_=>h.elim
 | o :: b,it :: k,_,h,0,o',it',ho,hi=>by
  obtain rfl:o=o':=by simpa using ho
  obtain rfl:it=it':=by simpa using hi
  exact h.1
 | o :: b,it :: k,n,h,i+1,o',it',ho,hi=>by
  have:=Certs.get h.2 i o' it' (by simpa using ho) (by simpa using hi);rw[show n+(i+1)=n+1+i by omega];exact this
def Olds(a0:Act)(k:Nat->Nat):List (Zs × SV)->Prop
 | []=>True
 | x :: r=>a0.tmps[x.1]? = some (x.2.at k)/\Olds a0 k r
theorem Olds.get:∀ {l:List (Zs × SV)},Olds a0 μ0 l->∀(t:Zs) (s:SV),(t,s)∈l->a0.tmps[t]? = some (s.at μ0)
 | [],_,_,_,h=>by cases h
 | x :: r,h,t,s,hm=>by
  rcases YX.1 hm with e|e
  ·subst e;exact h.1
  ·exact Olds.get h.2 t s e
theorem Reg.mk'(chk:allB ops its bl olds a0.tmps.size=true)(old:Olds a0 μ0 olds)(k:Certs P Q w0 k0 X ops its bl olds 0 ops.toList its):Reg P ops Q w0 k0 X its bl olds a0 μ0:=
 ⟨chk,λt s c=>old.get t s c,λi o it ho b=>by have:=k.get i o it (by rw[Yz];exact ho) b;rwa[XD]at this⟩
theorem zK(c:it.kind=.call)(f:ZY)(t1:Zs)(v1 v:Xu)(k:it.out=.v v)(b:∀(a:Act) (w:Xs),(Yb a.eval o).run P w=.ok (.enter f #[a.eval (.tmp t1)]) w)
 (d:∀(μ:Nat->Nat) (a:Act),Known ops i its olds it.need μ a->a.eval (.tmp t1)=v1) (j:∀w,XH P f #[v1] w (rZ w λe w'=>e=v)):Cert P Q w0 k0 X ops i its bl olds o it:=
 uG c f #[v1] v k (λμ a w g _=>by rw[b,d μ a g]) (λw _=>j w)
theorem O6{b k:Nat}(c:it.out=.p b 0):it.out.at (upd μ b k)=jZ k:=by
 rw[c];show yD4 (some ⟨upd μ b k b,0,none⟩)=_;unfold upd;rw[yES rfl]
theorem qW(b:Nat)(c:it.kind=.make b)(k:it.out=.p b 0)(e:Bl)(f:bl[b]? = some e)(T:Yd)(ho:o.op=.alloc T)(d:∀w:Xs,(yEi T true (.tuple #[])).run P w=.ok (jZ w.heap.size) (w.alloc (.cells e.before.toArray T))):Cert P Q w0 k0 X ops i its bl olds o it:=by
 refine AO b c e f T λμ a w g _=>?_
 unfold Yb;rw[ho];rw[O6 k];show((yEi T true (.tuple #[])) >>= λv=>pure (ZN v)).run P w=_;rw[XT,d];rfl
theorem aH{e:Func}{a:Act}{cs:List (List Xu)}{ks:List Nat}(f:St w0 k0 X cs ks w)(t:Zs)(T:Yd)(n:e.results=#[.cell t T])(b:Nat)(c:List Xu)(m:cs[b]? = some c)(l:a.tmps[t]? = some (.pointer (some ⟨ad ks b,0,none⟩)))
 (k:(P.underlying T).map (·.isRow)=some true) (i:(P.info? T).map (·.size)=some c.length):(results e a.tmps).run P w=.ok (.agg c.toArray) w:=by
 obtain⟨d,k,hd⟩:=XA.1 k;have g:=yAA (P:=P) w (ad ks b) 0 T c d (f.has b c m).1 k hd i;have j:a.tmps.getD t Zp=.pointer (some ⟨ad ks b,0,none⟩):=by rw[XI,l];rfl
 unfold results;rw[n];simp only[ZP,yA3,yBc,j,asAddr];simp[XT,g]
theorem St.begin(w:Xs):St w w.heap.size [] [] [] w:=⟨BelX.refl _ _ _,Xx _,rfl,λb c h=>by simp at h,λb c h=>by simp at h⟩
end RG
namespace RG
variable {P:YG}{ops:Array Yo}{Q:yAL->Act->Xs->Prop}{w0 w:Xs}{k0:Nat}{X:List Nat}{its:List It}{bl:List Bl}{olds:List (Zs × SV)}{a0:Act}{i:Nat}{o:Yo}{it:It}
theorem dB(k:it.kind=.pass)(h:it.out=.v Zp):Cert P Q w0 k0 X ops i its bl olds o it:=by
 intro μ a w K _ _ _;rw[k];exact h
theorem aO(e:it.kind=.stay)(op:BinOp)(T j:Yd)(t1 t2:Zs)(v1 v2 v:Xu)(ho:o.op=.binOp op T (.tmp t1) (.tmp t2) j)(k:it.out=.v v)
 (f:∀(μ:Nat->Nat) (a:Act),Known ops i its olds it.need μ a->a.eval (.tmp t1)=v1) (g:∀(μ:Nat->Nat) (a:Act),Known ops i its olds it.need μ a->a.eval (.tmp t2)=v2)
 (c:∀w,(eqGuard op T (.tmp t1) (.tmp t2) v1 v2).run P w=.ok () w) (d:∀w,(binOp op T v1 v2).run P w=.ok v w):Cert P Q w0 k0 X ops i its bl olds o it:=by
 refine dZ e λμ a w b _=>?_
 unfold Yb;rw[ho,k];dsimp only;rw[f μ a b,g μ a b,XT,XT,c];dsimp only[yCx];rw[d];rfl
theorem jH{k:Func}{a:Act}(t:Zs)(d:k.results=#[.tmp t])(v:Xu)(c:a.tmps[t]? = some v):(results k a.tmps).run P w=.ok v w:=by
 have b:a.tmps.getD t Zp=v:=by rw[XI,c];rfl
 unfold results;rw[d];simp only[ZP,yA3,yBc,b];simp[XT]
theorem cV{f:Func}{a:Act}{cs:List (List Xu)}{ks:List Nat}(n:St w0 k0 X cs ks w)(t u:Zs)(T:Yd)(j:f.results=#[.cell t T,.tmp u])(b:Nat)(c:List Xu)(g:cs[b]? = some c)(m:a.tmps[t]? = some (.pointer (some ⟨ad ks b,0,none⟩)))(v:Xu)(k:a.tmps[u]? = some v)
 (e:(P.underlying T).map (·.isRow)=some true) (i:(P.info? T).map (·.size)=some c.length):(results f a.tmps).run P w=.ok (.tuple #[.agg c.toArray,v]) w:=by
 obtain⟨d,e,hd⟩:=XA.1 e;have o:=yAA (P:=P) w (ad ks b) 0 T c d (n.has b c g).1 e hd i;have p:a.tmps.getD t Zp=.pointer (some ⟨ad ks b,0,none⟩):=by rw[XI,m];rfl
 have l:a.tmps.getD u Zp=v:=by rw[XI,k];rfl
 unfold results;rw[j];simp only[ZP,yA3,yBc,p,l,asAddr];simp[XT,o]
end RG
namespace RG
variable {P:YG}{ops:Array Yo}{Q:yAL->Act->Xs->Prop}{w0 w:Xs}{k0:Nat}{X:List Nat}{its:List It}{bl:List Bl}{olds:List (Zs × SV)}{a0 a:Act}{i:Nat}{o:Yo}{it:It}{μ:Nat->Nat}
structure Sl(a:Act)(n:Nat):Prop where
 size:a.tmps.size=n
 defers:a.defers=[]
theorem Sl.puts{n:Nat}(h:Sl a n):Sl (puts μ its a) n:=⟨by rw[As];exact h.size,by rw[nW];exact h.defers⟩
theorem BK{t:Zs}{v:Xu}(h:a.tmps[t]? = some v):a.eval (.tmp t)=v:=by
 show a.tmps.getD t Zp=v;rw[XI,h];rfl
theorem results_none{k:Func}{tmps:Array Xu}(b:k.results=#[]):(results k tmps).run P w=.ok (.tuple #[]) w:=by
 unfold results;rw[b];simp
theorem Jf{c:Code}{v0:Xu}{n:Nat}(b:a.tmps[0]? = some v0)(k:a.tmps.size=n)(hd:a.defers=[])(h:∀a,Sl a n->a.tmps[0]? = some v0->c.wp P Q a w):c.wp P Q a w:=h a ⟨k,hd⟩ b
theorem QA{c:Code}{v0 v1:Xu}{n:Nat}(d:a.tmps[0]? = some v0)(k:a.tmps[1]? = some v1)(b:a.tmps.size=n)(hd:a.defers=[])(h:∀a,Sl a n->a.tmps[0]? = some v0->a.tmps[1]? = some v1->c.wp P Q a w):c.wp P Q a w:=h a ⟨b,hd⟩ d k
theorem VN{c:Code}{v0 v1 v2:Xu}{n:Nat}(e:a.tmps[0]? = some v0)(k:a.tmps[1]? = some v1)(b:a.tmps[2]? = some v2)(d:a.tmps.size=n)(hd:a.defers=[])(h:∀a,Sl a n->a.tmps[0]? = some v0->a.tmps[1]? = some v1->a.tmps[2]? = some v2->c.wp P Q a w):c.wp P Q a w:=h a ⟨d,hd⟩ e k b
theorem nD(b:Nat)(j:it.kind=.make b)(e:Bl)(d:bl[b]? = some e)(T E:Yd)(t1 t2:Zs)(n:Nat)(k:it.out=.s b n n)(ho:o.op=.makeSlice T (.tmp t1) (.tmp t2))
 (l:∀(μ:Nat->Nat) (a:Act),Known ops i its olds it.need μ a->a.eval (.tmp t1)=iZ n) (m:∀(μ:Nat->Nat) (a:Act),Known ops i its olds it.need μ a->a.eval (.tmp t2)=iZ n)
 (f:∀w:Xs,(Instr.makeSlice T (iZ n) (iZ n)).run P w=.ok (sZ w.heap.size n n) (w.alloc (.cells e.before.toArray E))):Cert P Q w0 k0 X ops i its bl olds o it:=by
 refine AO b j e d E λμ a w c _=>?_
 have g:it.out.at (upd μ b w.heap.size)=sZ w.heap.size n n:=by
  rw[k];show yAe (some ⟨upd μ b w.heap.size b,0,none⟩) n n=_;unfold upd;rw[yES rfl]
 unfold Yb;rw[ho];dsimp only;rw[l μ a c,m μ a c,g,XT,f];rfl
theorem gJ(b:it.kind=.stay)(t:Zs)(s:SV)(v:Xu)(k:it.out=.v v)(hx:∀(μ:Nat->Nat) (a:Act),Known ops i its olds it.need μ a->a.eval (.tmp t)=s.at μ)
 (hE:∀(a:Act) (w:Xs),(Yb a.eval o).run P w=(Yb (λ_=>a.eval (.tmp t)) o).run P w) (c:∀(μ:Nat->Nat) (w:Xs),(Yb (λ_=>s.at μ) o).run P w=.ok (.value v) w):Cert P Q w0 k0 X ops i its bl olds o it:=by
 refine dZ b λμ a w d _=>?_
 rw[hE,hx μ a d,c,k];rfl
theorem ET(q:it.kind=.call)(b:Nat)(e:Bl)(p:bl[b]? = some e)(g:e.al=none)(j:readB ops i e=true)(y:e.before≠[])(f:ZY)(args:(Nat->Nat)->Array Xu)(v:Xu)(d:it.out=.v v)(c:∀(μ:Nat->Nat) (a:Act) (w:Xs),Known ops i its olds it.need μ a->(Yb a.eval o).run P w=.ok (.enter f (args μ)) w)
 (n:∀(μ:Nat->Nat) (w:Xs),μ b<w.heap.size->w.rangeAt (μ b) 0 e.before->XH P f (args μ) w (rZ w λr w'=>r=v)):Cert P Q w0 k0 X ops i its bl olds o it:=by
 intro μ a w K s hR _;rw[q];intro h;rw[d]at h;have m:=hR b e p (X9 g) j;have l:μ b<w.heap.size:=by
  cases k:e.before with
  | nil=>exact absurd k y
  | cons x r =>
   have t:=m 0 x (by rw[k];rfl);exact Zm λz=>by
    have u:w.heap[μ b]? = none:=ZL oM;simp[YO,u]at t
 unfold YV;rw[c μ a w s,ZI];refine(n μ w l m).mono ?_;rintro r w' ⟨t,rfl,k,rfl⟩;exact h w' k
theorem tD{k o:Nat}{C cs:List Xu}(h:w.rangeAt k 0 C)(c:∀j,j<cs.length->C[o+j]? = cs[j]?):w.rangeAt k o cs:=λj v hv=>by
 have b:=(XG.1 hv).1;have:=h (o+j) v (by rw[c j b];exact hv);rwa[XD]at this
theorem aY(b:it.kind=.stay)(T:Yd)(t u:Zs)(ho:o.op=.indexAddr T (.tmp t) (.tmp u))(s:SV)(iv:Xu)(hx:∀(μ:Nat->Nat) (a:Act),Known ops i its olds it.need μ a->a.eval (.tmp t)=s.at μ)(c:∀(μ:Nat->Nat) (a:Act),Known ops i its olds it.need μ a->a.eval (.tmp u)=iv)
 (hf:∀(μ:Nat->Nat) (w:Xs),(Yi T (s.at μ) iv).run P w=.ok (it.out.at μ) w):Cert P Q w0 k0 X ops i its bl olds o it:=by
 refine dZ b λμ a w k _=>?_
 unfold Yb;rw[ho];dsimp only;rw[hx μ a k,c μ a k,XT,hf];rfl
theorem eW(k:it.kind=.stay)(T:Yd)(t:Zs)(iv:Xu)(ho:o.op=.indexAddr T (.tmp t) (.const iv))(s:SV)(hx:∀(μ:Nat->Nat) (a:Act),Known ops i its olds it.need μ a->a.eval (.tmp t)=s.at μ)
 (hf:∀(μ:Nat->Nat) (w:Xs),(Yi T (s.at μ) iv).run P w=.ok (it.out.at μ) w):Cert P Q w0 k0 X ops i its bl olds o it:=by
 refine dZ k λμ a w b _=>?_
 unfold Yb;rw[ho];dsimp only;rw[hx μ a b];show((Yi T (s.at μ) iv) >>= λv=>pure (ZN v)).run P w=_;rw[XT,hf];rfl
theorem aN(b:it.kind=.stay)(op:BinOp)(T f:Yd)(t1:Zs)(v1 v2 v:Xu)(ho:o.op=.binOp op T (.tmp t1) (.const v2) f)(k:it.out=.v v)
 (c:∀(μ:Nat->Nat) (a:Act),Known ops i its olds it.need μ a->a.eval (.tmp t1)=v1)
 (e:∀w,(eqGuard op T (.tmp t1) (.const v2) v1 v2).run P w=.ok () w) (g:∀w,(binOp op T v1 v2).run P w=.ok v w):Cert P Q w0 k0 X ops i its bl olds o it:=by
 refine dZ b λμ a w d _=>?_
 unfold Yb;rw[ho,k];dsimp only;rw[c μ a d];show(((eqGuard op T (.tmp t1) (.const v2) v1 v2) >>= λ_=>binOp op T v1 v2) >>= λv=>pure (ZN v)).run P w=_;rw[XT,XT,e];dsimp only[yCx];rw[g];rfl
theorem IK(c:it.kind=.stay)(S T:Yd)(t:Zs)(v b:Xu)(ho:o.op=.convert S T (.tmp t))(k:it.out=.v b)(hx:∀(μ:Nat->Nat) (a:Act),Known ops i its olds it.need μ a->a.eval (.tmp t)=v)(e:∀w,(convert S T v).run P w=.ok b w):Cert P Q w0 k0 X ops i its bl olds o it:=by
 refine dZ c λμ a w d _=>?_
 unfold Yb;rw[ho,k];dsimp only;rw[hx μ a d,XT,e];rfl
theorem OV(c:it.kind=.stay)(op:UnOp)(T:Yd)(t:Zs)(v b:Xu)(ho:o.op=.unOp op T (.tmp t))(k:it.out=.v b)(hx:∀(μ:Nat->Nat) (a:Act),Known ops i its olds it.need μ a->a.eval (.tmp t)=v)(e:∀w,(Op.unary op v).run P w=.ok b w):Cert P Q w0 k0 X ops i its bl olds o it:=by
 refine dZ c λμ a w d _=>?_
 unfold Yb;rw[ho,k];dsimp only;rw[hx μ a d,XT,e];rfl
theorem eK(p:it.kind=.stay)(k off:Nat)(e:k<k0)(f:k ∉ X)(T:Yd)(t:Zs)(ho:o.op=.load T (.tmp t))(cs:List Xu)(b:it.out=.v (.agg cs.toArray))
 (hx:∀(μ:Nat->Nat) (a:Act),Known ops i its olds it.need μ a->a.eval (.tmp t)=oZ k off) (n:w0.rangeAt k off cs)
 (c:(P.underlying T).map (·.isRow)=some true) (m:(P.info? T).map (·.size)=some cs.length):Cert P Q w0 k0 X ops i its bl olds o it:=by
 intro μ a w K q _ g;rw[p];intro h;rw[b]at h;obtain⟨d,c,hd⟩:=XA.1 c;refine wp_load_mid T (.tmp t) ho k off (hx μ a q) cs d (λj v l=>?_) c hd m h;rw[XW (w:=w0) (a:=⟨k,off+j,none⟩) (g.block k e f)];exact n j v l
theorem eN{T:Yd}{k off:Nat}{v:Xu}(e:w.cell? ⟨k,off,none⟩=some v)(c:(P.underlying T).map (·.isRow)=some false):(yCe T (oZ k off)).run P w=.ok v w:=by
 obtain⟨d,c,hd⟩:=XA.1 c;have b:(isAgg T).run P w=.ok false w:=by
  unfold isAgg;rw[XT,run_underlying c w];cases d<;>simp_all
 simp[yCe,yAC,loadVar,XT,b,e]
theorem zJ(m:it.kind=.stay)(b off:Nat)(e:Bl)(j:bl[b]? = some e)(d:e.al=none)(f:readB ops i e=true)(T:Yd)(t:Zs)(ho:o.op=.load T (.tmp t))(v:Xu)(c:it.out=.v v)
 (hx:∀(μ:Nat->Nat) (a:Act),Known ops i its olds it.need μ a->a.eval (.tmp t)=(SV.p b off).at μ) (k:e.before[off]? = some v)
 (l:(P.underlying T).map (·.isRow)=some false):Cert P Q w0 k0 X ops i its bl olds o it:=by
 intro μ a w K n hR _;rw[m];intro h;rw[c]at h;have g:=hR b e j (X9 d) f off v k;rw[XD]at g;unfold YV Yb;rw[ho];dsimp only;rw[hx μ a n];show o.upon P a K Q (((yCe T (.pointer (some ⟨μ b,off,none⟩))) >>= λv=>pure (ZN v)).run P w);rw[XT,eN g l];exact h
theorem xO{T:Yd}{k off:Nat}{v u:Xu}(g:w.cell? ⟨k,off,none⟩=some u)(hf:w.frozen? ⟨k,off,none⟩=false)(e:v.oneCell'=true)(hv:v.cells=#[v])(d:(P.info? T).map (·.size)=some 1):(yA6 T (oZ k off) v).run P w=.ok () (w.setCells k off [v]):=by
 have:=run_storeCells_cells (P:=P) k off [v] 0 w (λj b=>by
  obtain rfl:j=0:=by simpa using b
  simp[g]) (λj b=>by
  obtain rfl:j=0:=by simpa using b
  simpa using hf) (λx hx=>by
  obtain rfl:x=v:=by simpa using hx
  exact e)
 cases c:P.info? T with
 | none=>simp[c]at d
 | some inf =>
  have f:inf.size=1:=by simp[c]at d;omega
  simp only[yAi]at this;simp[yA6,yAC,storeVar,sizeOf,typeInfo,c,hv,f,this]
theorem IJ(b off:Nat)(t:it.kind=.put b)(e:Bl)(p:bl[b]? = some e)(T:Yd)(x y:yAf)(v:Xu)(ho:o.op=.store T x y)(f:o.dst=none)
 (hx:∀(μ:Nat->Nat) (a:Act),Known ops i its olds it.need μ a->a.eval x=(SV.p b off).at μ) (s:∀(μ:Nat->Nat) (a:Act),Known ops i its olds it.need μ a->a.eval y=v) (k:off<e.before.length) (c:e.after=e.before.set off v)
 (q:(P.info? T).map (·.size)=some 1) (z:v.oneCell'=true) (hv:v.cells=#[v]):Cert P Q w0 k0 X ops i its bl olds o it:=by
 intro μ a w K n _ _;rw[t];intro e' d m r h;rw[p]at d;obtain rfl:e=e':=XS.inj d;have g:PutTo (μ b) e.before.length e.after w (w.setCells (μ b) off [v]):=PutTo.store m r (by simp only[Yq,Zr];omega) (λj=>by
  rw[c,List.getElem?_set];by_cases l:off=j
  ·subst l;rw[yES rfl,yES k,yES (by simp)];simp
  ·rw[yET l,yET (by simp only[Yq,Zr];omega)])
 have c:=m off k;rw[XD]at c;obtain⟨u,l⟩:=YB.1 c.1;unfold YV Yb;rw[ho];dsimp only;rw[hx μ a n,s μ a n];show o.upon P a K Q (((yA6 T (.pointer (some ⟨μ b,off,none⟩)) v) >>= λ_=>pure Next.skip).run P w);rw[XT,xO l c.2 z hv q];have:=h _ g;rw[f]at this;show K (a.put o.dst Zp) _;rw[f];exact this
theorem fO(b off:Nat)(t:it.kind=.put b)(e:Bl)(n:bl[b]? = some e)(T:Yd)(x y:yAf)(vs:List Xu)(ho:o.op=.store T x y)(g:o.dst=none)
 (hx:∀(μ:Nat->Nat) (a:Act),Known ops i its olds it.need μ a->a.eval x=(SV.p b off).at μ) (s:∀(μ:Nat->Nat) (a:Act),Known ops i its olds it.need μ a->a.eval y=.agg vs.toArray) (c:off+vs.length<=e.before.length)
 (d:∀j,e.after[j]? = if off<=j/\j<off+vs.length then vs[j-off]? else e.before[j]?)
 (q:(P.info? T).map (·.size)=some vs.length) (u:vs.all (·.oneCell')=true):Cert P Q w0 k0 X ops i its bl olds o it:=by
 intro μ a w K m _ _;rw[t];intro e' k l r h;rw[n]at k;obtain rfl:e=e':=XS.inj k;have f:=PutTo.store l r c d;refine wp_store_mid T x y ho (μ b) off vs.toArray (hx μ a m) (s μ a m) ?_ ?_ ?_ ?_
 ·intro j p;have:=l (off+j) (by rw[YD]at p;omega);rwa[XD]at this
 ·rw[YD];exact q
 ·exact all_oneCell_toArray (λv hv=>Yj.1 u v hv)
 ·have:=h _ f;rw[g]at this⊢;exact this
theorem BU(b:Nat)(p:it.kind=.put b)(e:Bl)(l:bl[b]? = some e)(f:ZY)(args:(Nat->Nat)->Array Xu)(v:Xu)(g:it.out=.v v)(d:∀(μ:Nat->Nat) (a:Act) (w:Xs),Known ops i its olds it.need μ a->BelX k0 X w0 w->(Yb a.eval o).run P w=.ok (.enter f (args μ)) w)
 (j:∀(μ:Nat->Nat) (w:Xs),BelX k0 X w0 w->w.there (μ b) 0 e.before.length->w.rangeAt (μ b) 0 e.before->XH P f (args μ) w (Ret λr w'=>PutTo (μ b) e.before.length e.after w w'/\r=v)):Cert P Q w0 k0 X ops i its bl olds o it:=by
 intro μ a w K q _ k;rw[p];intro e' c n m h;rw[l]at c;obtain rfl:e=e':=XS.inj c;rw[g]at h;unfold YV;rw[d μ a w q k,ZI];refine(j μ w k n m).mono ?_;rintro r w' ⟨t,rfl,s,rfl⟩;exact h w' s
theorem St.lent{k:Nat}{C:List Xu}(d:k<w.heap.size)(i:w.rangeAt k 0 C)(f:w.there k 0 C.length):St w w.heap.size [k] [C] [k] w:=by
 refine⟨BelX.refl _ _ _,Xx _,rfl,λb c h=>?_,λb c j g e=>?_⟩
 ·cases b with
  | zero =>
   obtain rfl:C=c:=by simpa using h
   exact⟨i,f,d,X0 YC⟩
  | succ b=>simp at h
 ·simp only[Yq,Zr]at j g;omega
theorem St.putTo{k:Nat}{C:List Xu}{cs:List (List Xu)}{ks:List Nat}{n:Nat}(h:St w0 w0.heap.size [k] (C :: cs) (k :: ks) w)(e:C.length=n):PutTo k n C w0 w:=by
 obtain⟨d,f,-,-⟩:=h.has 0 C rfl;refine⟨h.bel.os,h.bel.tape,h.bel.output,h.bel.size,λj c b=>h.bel.block j c (by simpa using b),d,?_⟩;rw[<-e];exact f
def rep(C:List Xu)(o:Nat)(vs:List Xu):List Xu:=C.take o++(vs++C.drop (o+vs.length))
theorem cY{C vs:List Xu}{o:Nat}(h:o+vs.length<=C.length):(rep C o vs).length=C.length:=by
 unfold rep;rw[XC,XC,Z7,yCo];omega
theorem rep_at{C vs:List Xu}{o:Nat}(h:o+vs.length<=C.length)(j:Nat):(rep C o vs)[j]? = if o<=j/\j<o+vs.length then vs[j-o]? else C[j]?:=by
 unfold rep;have k:(C.take o).length=o:=by rw[Z7];omega
 by_cases b:j<o
 ·rw[XQ (by rw[k];exact b),Zt,yES b,yET oM]
 ·rw[XR (by rw[k];omega),k];by_cases c:j<o+vs.length
  ·rw[XQ oM,yES ⟨oM,c⟩]
  ·rw[XR oM,yET oM,yBZ]
   congr 1
   omega
theorem QI{C cs:List Xu}{o:Nat}(h:∀j,j<cs.length->C[o+j]? = cs[j]?)(b:o+cs.length<=C.length):(C.drop o).take cs.length=cs:=by
 apply List.ext_getElem?;intro j;by_cases k:j<cs.length
 ·rw[Zt,yES k,yBZ,h j k]
 ·rw[ZG (by rw[Z7,yCo];omega),ZG oM]
theorem Ae(b:Nat)(s:it.kind=.put b)(e:Bl)(m:bl[b]? = some e)(f:ZY)(t1 t2 j:Zs)(s1:SV)(v2 d v:Xu)(c:it.out=.v v)(k:∀(a:Act) (w:Xs),(Yb a.eval o).run P w=.ok (.enter f #[a.eval (.tmp t1),a.eval (.tmp t2),a.eval (.tmp j)]) w)
 (t:∀(μ:Nat->Nat) (a:Act),Known ops i its olds it.need μ a->a.eval (.tmp t1)=s1.at μ) (u:∀(μ:Nat->Nat) (a:Act),Known ops i its olds it.need μ a->a.eval (.tmp t2)=v2) (p:∀(μ:Nat->Nat) (a:Act),Known ops i its olds it.need μ a->a.eval (.tmp j)=d)
 (l:∀(μ:Nat->Nat) (w:Xs),w.there (μ b) 0 e.before.length->w.rangeAt (μ b) 0 e.before->XH P f #[s1.at μ,v2,d] w (Ret λr w'=>PutTo (μ b) e.before.length e.after w w'/\r=v)):Cert P Q w0 k0 X ops i its bl olds o it:=
 BU b s e m f (λμ=>#[s1.at μ,v2,d]) v c (λμ a w g _=>by rw[k,t μ a g,u μ a g,p μ a g]) (λμ w _ q n=>l μ w q n)
theorem Di(n:it.kind=.call)(b:Nat)(e:Bl)(m:bl[b]? = some e)(d:e.al=none)(g:readB ops i e=true)(s:e.before≠[])(f:ZY)(t1 t2:Zs)(s1:SV)(v2 v:Xu)(c:it.out=.v v)(k:∀(a:Act) (w:Xs),(Yb a.eval o).run P w=.ok (.enter f #[a.eval (.tmp t1),a.eval (.tmp t2)]) w)
 (p:∀(μ:Nat->Nat) (a:Act),Known ops i its olds it.need μ a->a.eval (.tmp t1)=s1.at μ) (q:∀(μ:Nat->Nat) (a:Act),Known ops i its olds it.need μ a->a.eval (.tmp t2)=v2)
 (l:∀(μ:Nat->Nat) (w:Xs),μ b<w.heap.size->w.rangeAt (μ b) 0 e.before->XH P f #[s1.at μ,v2] w (rZ w λr w'=>r=v)):Cert P Q w0 k0 X ops i its bl olds o it:=
 ET n b e m d g s f (λμ=>#[s1.at μ,v2]) v c (λμ a w j=>by rw[k,p μ a j,q μ a j]) l
end RG
namespace RG
variable {P:YG}{ops:Array Yo}{Q:yAL->Act->Xs->Prop}{w0 w:Xs}{k0:Nat}{X:List Nat}{its:List It}{bl:List Bl}{olds:List (Zs × SV)}{a:Act}{i:Nat}{o:Yo}{it:It}
theorem vF(d:it.kind=.stay)(T:Yd)(t:Zs)(b v c:Xu)(ho:o.op=.slice T (.tmp t) (some (.const b)) none none)(k:it.out=.v c)(hx:∀(μ:Nat->Nat) (a:Act),Known ops i its olds it.need μ a->a.eval (.tmp t)=v)
 (hf:∀w:Xs,(Zk T v (some b) none none).run P w=.ok c w):Cert P Q w0 k0 X ops i its bl olds o it:=by
 refine dZ d λμ a w e _=>?_
 unfold Yb;rw[ho,k];dsimp only;rw[hx μ a e];show((Zk T v (some b) none none) >>= λv=>pure (ZN v)).run P w=_;rw[XT,hf];rfl
theorem Dh(c:it.kind=.stay)(T:Yd)(t:Zs)(v b:Xu)(ho:o.op=.sliceToArrayPointer T (.tmp t))(k:it.out=.v b)(hx:∀(μ:Nat->Nat) (a:Act),Known ops i its olds it.need μ a->a.eval (.tmp t)=v)
 (hf:∀w:Xs,(Instr.arrayAt T v).run P w=.ok b w):Cert P Q w0 k0 X ops i its bl olds o it:=by
 refine dZ c λμ a w d _=>?_
 unfold Yb;rw[ho,k];dsimp only;rw[hx μ a d,XT,hf];rfl
theorem bO(j:it.kind=.stay)(k off:Nat)(c:k<k0)(d:k ∉ X)(T:Yd)(t:Zs)(ho:o.op=.load T (.tmp t))(v:Xu)(b:it.out=.v v)
 (hx:∀(μ:Nat->Nat) (a:Act),Known ops i its olds it.need μ a->a.eval (.tmp t)=oZ k off) (f:w0.cell? ⟨k,off,none⟩=some v)
 (g:(P.underlying T).map (·.isRow)=some false):Cert P Q w0 k0 X ops i its bl olds o it:=by
 refine dZ j λμ a w l e=>?_
 have m:w.cell? ⟨k,off,none⟩=some v:=by
  rw[XW (w:=w0) (a:=⟨k,off,none⟩) (e.block k c d)];exact f
 unfold Yb;rw[ho,b];dsimp only;rw[hx μ a l,XT,eN m g];rfl
theorem kP(g:it.kind=.call)(f:ZY)(t1 t2:Zs)(v1 v2 v:Xu)(b:it.out=.v v)(k:∀(a:Act) (w:Xs),(Yb a.eval o).run P w=.ok (.enter f #[a.eval (.tmp t1),a.eval (.tmp t2)]) w)
 (j:∀(μ:Nat->Nat) (a:Act),Known ops i its olds it.need μ a->a.eval (.tmp t1)=v1) (l:∀(μ:Nat->Nat) (a:Act),Known ops i its olds it.need μ a->a.eval (.tmp t2)=v2)
 (d:∀w,BelX k0 X w0 w->XH P f #[v1,v2] w (rZ w λe w'=>e=v)):Cert P Q w0 k0 X ops i its bl olds o it:=
 uG g f #[v1,v2] v b (λμ a w c _=>by rw[k,j μ a c,l μ a c]) d
theorem vH(c:it.kind=.call)(f:ZY)(t1:Zs)(v1 v:Xu)(k:it.out=.v v)(b:∀(a:Act) (w:Xs),(Yb a.eval o).run P w=.ok (.enter f #[a.eval (.tmp t1)]) w)
 (d:∀(μ:Nat->Nat) (a:Act),Known ops i its olds it.need μ a->a.eval (.tmp t1)=v1)
 (j:∀w,BelX k0 X w0 w->XH P f #[v1] w (rZ w λe w'=>e=v)):Cert P Q w0 k0 X ops i its bl olds o it:=
 uG c f #[v1] v k (λμ a w g _=>by rw[b,d μ a g]) j
theorem St.init{cs:List (List Xu)}{c:List Xu}{ks:List Nat}{k:Nat}(h:St w0 k0 X (cs++[c]) (ks++[k]) w):St w0 k0 X cs ks w:=by
 have j:ks.length=cs.length:=by have:=h.len;simp only[XC,Yq,Zr]at this;omega
 have d:∀b,b<cs.length->ad (ks++[k]) b=ad ks b:=λb e=>by
  unfold ad;rw[Zb,Zb,XQ oM]
 refine⟨h.bel,h.le,j,λb g e=>?_,λb g e l i=>?_⟩
 ·have f:=(XG.1 e).1;have:=h.has b g (by rw[XQ f];exact e);rwa[d b f]at this
 ·have:=h.inj b g (by rw[XC];omega) (by rw[XC];omega) i;rwa[d b e,d g l]at this
theorem dQ{b:Func}{a:Act}(t u:Zs)(f:b.results=#[.tmp t,.tmp u])(v k:Xu)(e:a.tmps[t]? = some v)(c:a.tmps[u]? = some k):(results b a.tmps).run P w=.ok (.tuple #[v,k]) w:=by
 have d:a.tmps.getD t Zp=v:=by rw[XI,e];rfl
 have g:a.tmps.getD u Zp=k:=by rw[XI,c];rfl
 unfold results;rw[f];simp only[ZP,yA3,yBc,d,g];simp[XT]
end RG
namespace RG
variable {P:YG}{ops:Array Yo}{Q:yAL->Act->Xs->Prop}{w0 w:Xs}{k0 n:Nat}{X:List Nat}{its:List It}{bl:List Bl}{os:List (Zs × SV)}{a:Act}{i:Nat}{o:Yo}{it:It}{μ:Nat->Nat}{need:List (Zs × Nat)}
def src(c:Array Yo)(k:List It)(d:List (Zs × SV))(b:List (Zs × Nat))(i:Nat)(t:Zs):Option SV:=
 match b.find? (λx=>x.1 == t) with
 | some x=>(k[x.2]?).map (·.out)
 | none=>match d.find? (λx=>x.1 == t) with
  | some x=>bif GI c k i t then some x.2 else none
  | none=>none
theorem nO{t:Zs}{s:SV}(h:src ops its os need i t=some s)(K:Known ops i its os need μ a):a.eval (.tmp t)=s.at μ:=by
 unfold src at h;cases k:need.find? (λx=>x.1 == t) with
 | some x =>
  rw[k]at h;dsimp only at h;have b:=ZA k;have c:x.1=t:=by simpa using yAO k
  obtain⟨e,d,rfl⟩:=XA.1 h;exact K.op t x.2 (by rw[<-c];exact b) d
 | none =>
  rw[k]at h;dsimp only at h;cases ho:os.find? (λx=>x.1 == t) with
  | none=>rw[ho]at h;cases h
  | some x =>
   rw[ho]at h;dsimp only at h;have b:=ZA ho;have c:x.1=t:=by simpa using yAO ho
   cases hf:GI ops its i t with
   | false=>rw[hf]at h;cases h
   | true =>
    rw[hf]at h;obtain rfl:x.2=s:=XS.inj h;exact K.old t x.2 (by rw[<-c];exact b) hf
theorem sx{t:Zs}{f:(Nat->Nat)->Xu}(h:∀μ:Nat->Nat,(src ops its os need i t).map (λs=>s.at μ)=some (f μ):=by intro _;kernel_rfl):∀(μ:Nat->Nat) (a:Act),Known ops i its os need μ a->a.eval (.tmp t)=f μ:=λμ _ K=>by
 obtain⟨s,k,b⟩:=XA.1 (h μ);rw[nO k K];exact b
def ro(c:Array Yo)(b:List It)(d:List (Zs × SV))(k:List (Zs × Nat))(i:Nat)(μ:Nat->Nat):yAf->Xu
 | .tmp t=>match src c b d k i t with|some s=>s.at μ|none=>Zp
 | .const v=>v
 | .global g=>jZ g
 | .func f=>.func (.func f) #[] #[]
def seen(c:Array Yo)(b:List It)(d:List (Zs × SV))(k:List (Zs × Nat))(i:Nat)(o:Yo):Bool:=
 (match o.op with | .select _ _=>false|_=>true) && o.op.operands.all (λx=>match x with | .tmp t=>(src c b d k i t).isSome|_=>true)
theorem pO(h:seen ops its os need i o=true)(K:Known ops i its os need μ a):Yb a.eval o=Yb (ro ops its os need i μ) o:=by
 simp only[seen,XO]at h;refine execOp_congr o (λcs b d=>?_) (λx hx=>?_)
 ·rw[d]at h;exact absurd h.1 (by simp)
 ·have k:=ZF.1 h.2 x hx;cases x with
  | tmp t =>
   dsimp only at k;obtain⟨s,c⟩:=YB.1 k;rw[nO c K];show _=(match src ops its os need i t with|some s=>s.at μ|none=>Zp);rw[c]
  | const v=>rfl
  | global g=>rfl
  | func f=>rfl
theorem st(h:∀(μ:Nat->Nat) (w:Xs),((seen ops its os it.need i o,it.kind),(Yb (ro ops its os it.need i μ) o).run P w)=((true,Kind.stay),.ok (.value (it.out.at μ)) w):=by intro _ _;kernel_rfl):Cert P Q w0 k0 X ops i its bl os o it:=by
 intro μ a w K d _ c;have k:=h μ w;simp only[Ze.injEq]at k;rw[k.1.2];intro b;unfold YV;rw[pO k.1.1 d,k.2];exact b
theorem se{v d:Xu}(e:d=v)(h:∀(μ:Nat->Nat) (w:Xs),((seen ops its os it.need i o,it.kind,it.out),(Yb (ro ops its os it.need i μ) o).run P w)=((true,Kind.stay,SV.v v),.ok (.value d) w):=by intro _ _;kernel_rfl):Cert P Q w0 k0 X ops i its bl os o it:=by
 intro μ a w K f _ c;have b:=h μ w;simp only[Ze.injEq]at b;rw[b.1.2.1];intro k;rw[b.1.2.2]at k;unfold YV;rw[pO b.1.1 f,b.2,e];exact k
theorem mk(b:Nat)(T:Yd)(h:∀(μ:Nat->Nat) (w:Xs),((seen ops its os it.need i o,it.kind),(Yb (ro ops its os it.need i μ) o).run P w)=((true,Kind.make b),.ok (.value (it.out.at (upd μ b w.heap.size))) (w.alloc (.cells (((bl[b]?).map (·.before)).getD []).toArray T))):=by intro _ _;kernel_rfl):Cert P Q w0 k0 X ops i its bl os o it:=by
 intro μ a w K d _ c;have k:=h μ w;simp only[Ze.injEq]at k;rw[k.1.2];intro e g f;unfold YV;rw[pO k.1.1 d,k.2,g];exact f _ _ (Made.alloc w e.before T)
theorem clB{f:ZY}{args:Array Xu}{v:Xu}(h:∀(μ:Nat->Nat) (w:Xs),((seen ops its os it.need i o,it.kind,it.out),(Yb (ro ops its os it.need i μ) o).run P w)=((true,Kind.call,SV.v v),.ok (.enter f args) w))
 (d:∀w,BelX k0 X w0 w->XH P f args w (rZ w λe w'=>e=v)):Cert P Q w0 k0 X ops i its bl os o it:=by
 intro μ a w K j _ k;have b:=h μ w;simp only[Ze.injEq]at b;rw[b.1.2.1];intro c;rw[b.1.2.2]at c;unfold YV;rw[pO b.1.1 j,b.2,ZI];refine(d w k).mono ?_;rintro e w' ⟨l,rfl,g,rfl⟩;exact c w' g
theorem cl{f:ZY}{args:Array Xu}{v:Xu}(k:∀w,XH P f args w (rZ w λe w'=>e=v))(h:∀(μ:Nat->Nat) (w:Xs),((seen ops its os it.need i o,it.kind,it.out),(Yb (ro ops its os it.need i μ) o).run P w)=((true,Kind.call,SV.v v),.ok (.enter f args) w):=by intro _ _;kernel_rfl):Cert P Q w0 k0 X ops i its bl os o it:=
 clB h (λw _=>k w)
theorem cm(b:Nat){f:ZY}{args:Array Xu}{c:List Xu}(m:∀w,BelX k0 X w0 w->XH P f args w (Ret λe w'=>∃k,Made w k c w'/\e=it.out.at (λ_=>k)))
 (h:∀(μ:Nat->Nat) (w:Xs),((seen ops its os it.need i o,it.kind,(bl[b]?).map (·.before),it.out.blk),(Yb (ro ops its os it.need i μ) o).run P w)=((true,Kind.make b,some c,some b),.ok (.enter f args) w)):Cert P Q w0 k0 X ops i its bl os o it:=by
 intro μ a w K t _ d;have l:=h μ w;simp only[Ze.injEq]at l;obtain⟨⟨u,v,j,q⟩,x⟩:=l;rw[v];intro e n s;rw[n]at j;obtain rfl:e.before=c:=XS.inj j;unfold YV;rw[pO u t,x,ZI];refine(m w d).mono ?_;rintro r w' ⟨z,rfl,k,p,rfl⟩;have y:it.out.at (upd μ b k)=it.out.at (λ_=>k):=SV.at_congr λB g=>by
  rw[q]at g;obtain rfl:=XS.inj g;unfold upd;rw[yES rfl]
 have:=s k w' p;rw[y]at this;exact this
def BX(k:Array Yo)(i:Nat)(o:Yo)(c:List Bl)(b:Nat):Bool:=match c[b]? with
 | some e=>(match e.al with|none=>true|some j=>cQ o j) && readB k i e
 | none=>false
def Seen(k:List Bl)(c:List Nat)(μ:Nat->Nat)(w:Xs):Prop:=∀b∈c,∀e:Bl,k[b]? = some e->e.before≠[]->w.rangeAt (μ b) 0 e.before/\μ b<w.heap.size
theorem NE{f:List Nat}(ho:ops[i]? = some o)(h:f.all (BX ops i o bl)=true)(hR:Reads ops i bl μ w):Seen bl f μ w:=λb p e l d=>by
 have k:=Yj.1 h b p;unfold BX at k;rw[l]at k;dsimp only at k;rw[XO]at k;have g:=hR b e l (by
  cases c:e.al with
  | none=>exact X9 rfl
  | some j=>rw[c]at k;exact X0 ⟨o,j,ho,rfl,k.1⟩) k.2
 refine⟨g,?_⟩;cases c:e.before with
 | nil=>exact absurd c d
 | cons x r =>
  have m:=g 0 x (by rw[c];rfl);exact Zm λq=>by
   have n:w.heap[μ b]? = none:=ZL oM;simp[YO,n]at m
theorem cr(b:List Nat){f:ZY}{args:(Nat->Nat)->Array Xu}{v:Xu}(g:∀(μ:Nat->Nat) (w:Xs),BelX k0 X w0 w->Seen bl b μ w->XH P f (args μ) w (rZ w λe w'=>e=v))
 (h:∀(μ:Nat->Nat) (w:Xs),((seen ops its os it.need i o,it.kind,it.out,b.all (BX ops i o bl),ops[i]?),(Yb (ro ops its os it.need i μ) o).run P w)=((true,Kind.call,SV.v v,true,some o),.ok (.enter f (args μ)) w)):Cert P Q w0 k0 X ops i its bl os o it:=by
 intro μ a w K p hR k;have c:=h μ w;simp only[Ze.injEq]at c;obtain⟨⟨q,r,m,n,l⟩,s⟩:=c;rw[r];intro d;rw[m]at d;unfold YV;rw[pO q p,s,ZI];refine(g μ w k (NE l n hR)).mono ?_;rintro e w' ⟨t,rfl,j,rfl⟩;exact d w' j
def ldv(k:Array Yo)(c:List It)(d:List Bl)(f:List (Zs × SV))(i:Nat)(o:Yo)(it:It)(T:Yd)(n:Nat):Option SV:=
 match it.kind,o.op with
 | .stay,.load T' (.tmp t)=>match src k c f it.need i t with
  | some (.p b off)=>match d[b]? with
   | some e=>bif T' == T && e.al.isNone && readB k i e && (off+n).ble e.before.length then some (.v (.agg ((e.before.drop off).take n).toArray)) else none
   | none=>none
  | _=>none
 | _,_=>none
theorem ld{T:Yd}{n:Nat}(g:(P.underlying T).map (·.isRow)=some true)(j:(P.info? T).map (·.size)=some n)(h:ldv ops its bl os i o it T n=some it.out:=by kernel_rfl):Cert P Q w0 k0 X ops i its bl os o it:=by
 unfold ldv at h;split at h
 ·rename_i T' t hk ho
  split at h
  ·rename_i b off hs
   split at h
   ·rename_i e hb
    cases c:(T' == T && e.al.isNone && readB ops i e && (off+n).ble e.before.length) with
    | false=>rw[c]at h;cases h
    | true =>
     rw[c]at h;have m:=h;simp only[XO,beq_iff_eq,Option.isNone_iff_eq_none,yEH]at c;obtain⟨⟨⟨rfl,d⟩,l⟩,f⟩:=c;have k:((e.before.drop off).take n).length=n:=by rw[Z7,yCo];omega
     refine pW hk b off e hb d l T' t ho ((e.before.drop off).take n) (XS.inj m).symm (λ_ _ K=>nO hs K) ?_ g (by rw[k];exact j);rw[k]
   ·cases h
  ·cases h
 ·cases h
def ptv(c:Array Yo)(k:List It)(f:List Bl)(d:List (Zs × SV))(i:Nat)(o:Yo)(it:It)(T:Yd)(n:Nat):Option (List Xu):=
 match it.kind,o.op,o.dst with
 | .put b,.store T' (.tmp x) (.tmp y),none=>match src c k d it.need i x,src c k d it.need i y with
  | some (.p b' off),some (.v (.agg vs))=>match f[b]? with
   | some e=>bif T' == T && b' == b && vs.size == n && (off+n).ble e.before.length && vs.toList.all (·.oneCell') then some (rep e.before off vs.toList) else none
   | none=>none
  | _,_=>none
 | _,_,_=>none
theorem pt{T:Yd}{n:Nat}(m:(P.info? T).map (·.size)=some n)(h:((ptv ops its bl os i o it T n).isSome,ptv ops its bl os i o it T n)=(true,match it.kind with | .put b=>(bl[b]?).map (·.after)|_=>none):=by kernel_rfl):Cert P Q w0 k0 X ops i its bl os o it:=by
 simp only[Ze.injEq]at h;obtain⟨k,h⟩:=h;rw[h]at k;unfold ptv at h;split at h
 ·rename_i b T' x y hk ho hdn
  rw[hk]at h k;dsimp only at h k;cases g:bl[b]? with
  | none=>rw[g]at k;cases k
  | some e =>
   rw[g]at h;split at h
   ·rename_i b' off vs hx hy
    dsimp only at h;cases f:(T' == T && b' == b && vs.size == n && (off+n).ble e.before.length && vs.toList.all (·.oneCell')) with
    | false=>rw[f]at h;cases h
    | true =>
     rw[f]at h;have q:some (rep e.before off vs.toList)=some e.after:=h;simp only[XO,beq_iff_eq,yEH]at f;obtain⟨⟨⟨⟨rfl,rfl⟩,p⟩,d⟩,l⟩:=f;have c:vs.toList.length=n:=by rw[Array.length_toList];exact p
     refine fO b' off hk e g T' (.tmp x) (.tmp y) vs.toList ho hdn (λ_ _ K=>nO hx K) (λ_ _ K=>?_) (by rw[c];exact d) (λj=>?_) (by rw[c];exact m) l
     ·rw[Array.toArray_toList];exact nO hy K
     ·rw[<-XS.inj q,rep_at (by rw[c];exact d)]
   ·cases h
 ·rw[<-h]at k;cases k
def aft(pu:List (Nat × Nat × List Xu))(b:Nat)(c:List Xu):List Xu:=match pu.find? (λx=>x.1 == b) with|some x=>x.2.2|none=>c
def sto(pu:List (Nat × Nat × List Xu))(b:Nat):Option Nat:=(pu.find? (λx=>x.1 == b)).map (·.2.1)
def olB(pu:List (Nat × Nat × List Xu)):Nat->List (List Xu)->List Bl
 | _,[]=>[]
 | b,c :: r=>⟨c,aft pu b c,none,sto pu b⟩ :: olB pu (b+1) r
def mkB(pu:List (Nat × Nat × List Xu)):Nat->List (Nat × List Xu)->List Bl
 | _,[]=>[]
 | b,c :: r=>⟨c.2,aft pu b c.2,some c.1,sto pu b⟩ :: mkB pu (b+1) r
def bls(cs:List (List Xu))(mk:List (Nat × List Xu))(pu:List (Nat × Nat × List Xu)):List Bl:=olB pu 0 cs++mkB pu cs.length mk
theorem rO(pu:List (Nat × Nat × List Xu)):∀(cs:List (List Xu)) (b:Nat),(olB pu b cs).length=cs.length
 | [],_=>rfl
 | c :: r,b=>by rw[olB,Yq,rO pu r,Yq]
theorem Gs(pu:List (Nat × Nat × List Xu)):∀(cs:List (Nat × List Xu)) (b:Nat),(mkB pu b cs).length=cs.length
 | [],_=>rfl
 | c :: r,b=>by rw[mkB,Yq,Gs pu r,Yq]
theorem yD(pu:List (Nat × Nat × List Xu)):∀(cs:List (List Xu)) (b:Nat),(olB pu b cs).map (·.before)=cs
 | [],_=>rfl
 | c :: r,b=>by rw[olB,Z6,yD pu r]
theorem yH(pu:List (Nat × Nat × List Xu)):∀(cs:List (Nat × List Xu)) (b:Nat),(mkB pu b cs).map (·.before)=cs.map (·.2)
 | [],_=>rfl
 | c :: r,b=>by rw[mkB,Z6,yH pu r,Z6]
theorem Gh(pu:List (Nat × Nat × List Xu)):∀(cs:List (List Xu)) (b j:Nat) (e:Bl),(olB pu b cs)[j]? = some e->e.al=none/\e.after=aft pu (b+j) e.before/\e.st=sto pu (b+j)
 | [],_,_,_,h=>by simp[olB]at h
 | c :: r,b,0,e,h=>by
  rw[olB,Yc]at h;obtain rfl:=XS.inj h;exact⟨rfl,rfl,rfl⟩
 | c :: r,b,j+1,e,h=>by
  rw[olB,Ya]at h;have:=Gh pu r (b+1) j e h;rwa[show b+1+j=b+(j+1) by omega]at this
theorem Gu(pu:List (Nat × Nat × List Xu)):∀(cs:List (Nat × List Xu)) (b j:Nat) (e:Bl),(mkB pu b cs)[j]? = some e->(∃x∈cs,e.al=some x.1)/\e.after=aft pu (b+j) e.before/\e.st=sto pu (b+j)
 | [],_,_,_,h=>by simp[mkB]at h
 | c :: r,b,0,e,h=>by
  rw[mkB,Yc]at h;obtain rfl:=XS.inj h;exact⟨⟨c,YC,rfl⟩,rfl,rfl⟩
 | c :: r,b,j+1,e,h=>by
  rw[mkB,Ya]at h;obtain⟨⟨x,hx,k⟩,d⟩:=Gu pu r (b+1) j e h;refine⟨⟨x,Ym _ hx,k⟩,?_⟩;rwa[show b+1+j=b+(j+1) by omega]at d
variable {cs cs':List (List Xu)}{mk:List (Nat × List Xu)}{pu:List (Nat × Nat × List Xu)}{ks:List Nat}
theorem BZ:(bls cs mk pu).length=cs.length+mk.length:=by rw[bls,XC,rO,Gs]
theorem zN:(bls cs mk pu).map (·.before)=cs++mk.map (·.2):=by rw[bls,YU,yD,yH]
theorem wV{b:Nat}{e:Bl}(h:(bls cs mk pu)[b]? = some e):e.after=aft pu b e.before/\e.st=sto pu b/\((b<cs.length/\e.al=none)\/(cs.length<=b/\∃x∈mk,e.al=some x.1)):=by
 unfold bls at h;by_cases k:b<cs.length
 ·rw[XQ (by rw[rO];exact k)]at h;have:=Gh pu cs 0 b e h;rw[XD]at this;exact⟨this.2.1,this.2.2,X9 ⟨k,this.1⟩⟩
 ·rw[XR (by rw[rO];omega),rO]at h;have:=Gu pu mk cs.length (b-cs.length) e h;rw[show cs.length+(b-cs.length)=b by omega]at this;exact⟨this.2.1,this.2.2,X0 ⟨oM,this.1⟩⟩
theorem AP:nN (bls cs mk pu) cs.length=true:=by
 simp only[nN,XO,decide_eq_true_eq];refine⟨Yj.2 λx hx=>?_,by rw[BZ];omega⟩;rw[yBa]at hx;rcases(wV hx).2.2 with⟨b,k⟩|⟨b,y,-,k⟩
 ·rw[k];simp[b]
 ·rw[k];simp;omega
def inB(m:Nat)(mk:List (Nat × List Xu))(pu:List (Nat × Nat × List Xu)):Bool:=mk.all (λx=>x.1.blt m) && pu.all (λx=>x.2.1.blt m)
theorem G8(h:inB its.length mk pu=true)(n:pu.map (λx=>x.2.2.length)=pu.map (λx=>(((cs++mk.map (·.2))[x.1]?).getD []).length)):
 (∀e∈bls cs mk pu,∀j,e.al=some j\/e.st=some j->j<its.length)/\∀e∈bls cs mk pu,e.fin.length=e.before.length:=by
 simp only[inB,XO]at h;refine⟨λe g j k=>?_,λe g=>?_⟩
 ·obtain⟨b,c⟩:=Zz g;obtain⟨i,f,l⟩:=wV c;rcases k with k|k
  ·rcases l with⟨-,d⟩|⟨-,x,hx,d⟩
   ·rw[d]at k;cases k
   ·rw[d]at k;obtain rfl:=XS.inj k;have:=Yj.1 h.1 x hx;exact ZW (Yy this)
  ·rw[f]at k;unfold sto at k;obtain⟨x,hx,rfl⟩:=XA.1 k;have:=Yj.1 h.2 x (ZA hx);exact ZW (Yy this)
 ·obtain⟨b,c⟩:=Zz g;obtain⟨i,f,-⟩:=wV c;unfold Bl.fin;rw[f,i];unfold sto aft;cases d:pu.find? (λx=>x.1 == b) with
  | none=>rfl
  | some x =>
   show x.2.2.length=_;have m:=ZA d;have hx:x.1=b:=by simpa using yAO d
   have l:=yB8.1 n x m;rw[l,<-zN (pu:=pu),hx,Ys,c];rfl
def lk(k:List It)(b:List (Zs × SV))(t:Zs):Option SV:=
 match k.find? (λit=>it.dst == some t) with
 | some it=>some it.out
 | none=>(b.find? (λx=>x.1 == t)).map (·.2)
structure M(w0:Xs)(k0:Nat)(X:List Nat)(n:Nat)(cs:List (List Xu))(ks:List Nat)(os:List (Zs × SV))(a:Act)(w:Xs):Prop where
 st:St w0 k0 X cs ks w
 sl:Sl a n
 os:Olds a (ad ks) os
def All:Nat->(List Nat->Prop)->Prop
 | 0,f=>f []
 | n+1,f=>∀k:Nat,All n λl=>f (k :: l)
theorem All.get:∀ {n:Nat}{f:List Nat->Prop},All n f->∀l:List Nat,l.length=n->f l
 | 0,f,h,l,hl=>by rw[List.length_eq_zero_iff.1 hl];exact h
 | n+1,f,h,[],hl=>by simp at hl
 | n+1,f,h,k :: l,hl=>All.get (h k) l (by simpa using hl)
theorem O5{s:SV}{new:List Nat}(h:∀b,s.blk=some b->b<ks.length):s.at (ad (ks++new))=s.at (ad ks):=SV.at_congr λb k=>by
 unfold ad;rw[Zb,Zb,XQ (h b k)]
theorem Olds.mk'{μ:Nat->Nat}:∀ {l:List (Zs × SV)},(∀x∈l,a.tmps[x.1]? = some (x.2.at μ))->Olds a μ l
 | [],_=>trivial
 | x :: r,h=>⟨h x YC,Olds.mk' λy k=>h y (Ym _ k)⟩
theorem M.next{d:List (Zs × SV)}{new:List Nat}{w':Xs}(h:M w0 k0 X n cs ks os a w)(k:allB ops its (bls cs mk pu) os n=true)(q:(d.map λx=>lk its os x.1)=d.map λx=>some x.2)
 (C:St w0 k0 X cs' (ks++new) w'):M w0 k0 X n cs' (ks++new) d (puts (ad (ks++new)) its a) w':=by
 refine⟨C,h.sl.puts,Olds.mk' λx hx=>?_⟩;have g:=yB8.1 q x hx;simp only[allB,XO,beq_iff_eq]at k;obtain⟨⟨⟨⟨A,hd⟩,i⟩,o⟩,v⟩:=k;unfold lk at g;cases hf:its.find? (λit=>it.dst == some x.1) with
 | some it =>
  rw[hf]at g;have f:=ZA hf;have c:it.dst=some x.1:=by simpa using yAO hf
  obtain⟨j,m⟩:=Zz f;have l:=Yj.1 o it f;rw[c]at l;have:=tH (ad (ks++new)) its a j it x.1 hd m c (by rw[h.sl.size];simpa using l);rw[this,<-XS.inj g]
 | none =>
  rw[hf]at g;obtain⟨y,t,l⟩:=XA.1 g;have f:=ZA t;have m:y.1=x.1:=by simpa using yAO t
  have D:=h.os.get y.1 y.2 f;rw[mQ _ its a x.1 (λit p r=>by
   have:=List.find?_eq_none.1 hf it p;rw[r]at this;simp at this),<-m,D,<-l]
  congr 1
  refine(O5 λb u=>?_).symm;have c:=Yj.1 i y f;rw[u]at c;dsimp only at c;cases s:(bls cs mk pu)[b]? with
  | none=>rw[s]at c;cases c
  | some e =>
   rw[s]at c;rcases(wV s).2.2 with⟨B,-⟩|⟨-,z,-,E⟩
   ·rw[h.st.len];exact B
   ·dsimp only at c;rw[E]at c;simp at c
theorem M.reg(h:M w0 k0 X n cs ks os a w)(k:allB ops its (bls cs mk pu) os n=true)(b:Certs P Q w0 k0 X ops its (bls cs mk pu) os 0 ops.toList its):Reg P ops Q w0 k0 X its (bls cs mk pu) os a (ad ks):=
 Reg.mk' (by rw[h.sl.size];exact k) h.os b
theorem Dm:((bls cs mk pu).map (·.before)).take cs.length=cs:=by rw[zN,List.take_left'];rfl
theorem M.tx{id:Nat}(h:M w0 k0 X n cs ks os a w)(k:List It)(mk:List (Nat × List Xu))(pu:List (Nat × Nat × List Xu))(c:List (List Xu))(b:List (Zs × SV))
 (e:(allB ops k (bls cs mk pu) os n && inB k.length mk pu,(bls cs mk pu).map Bl.fin,b.map λx=>lk k os x.1)=(true,c,b.map λx=>some x.2))
 (g:pu.map (λx=>x.2.2.length)=pu.map (λx=>(((cs++mk.map (·.2))[x.1]?).getD []).length))
 (i:Certs P Q w0 k0 X ops k (bls cs mk pu) os 0 ops.toList k)
 (p:All mk.length λnew=>∀d w',M w0 k0 X n c (ks++new) b d w'->Q .normal d w'):(Zd id ops false).wp P Q a w:=by
 simp only[Ze.injEq,XO]at e;obtain⟨⟨f,o⟩,j,l⟩:=e;refine region_text' h.st (h.reg f i) AP Dm (G8 o g) λnew w' d m=>?_
 rw[BZ,ZM]at d;exact p.get new d _ _ (h.next f l (j ▸ m))
theorem M.dr{id:Nat}(h:M w0 k0 X n cs ks os a w)(j:P.follows .mixedOrders=true)(k:List It)(mk:List (Nat × List Xu))(pu:List (Nat × Nat × List Xu))(c:List (List Xu))(b:List (Zs × SV))
 (e:(allB ops k (bls cs mk pu) os n && inB k.length mk pu,(bls cs mk pu).map Bl.fin,b.map λx=>lk k os x.1)=(true,c,b.map λx=>some x.2))
 (g:pu.map (λx=>x.2.2.length)=pu.map (λx=>(((cs++mk.map (·.2))[x.1]?).getD []).length))
 (i:Certs P Q w0 k0 X ops k (bls cs mk pu) os 0 ops.toList k)
 (q:All mk.length λnew=>∀d w',M w0 k0 X n c (ks++new) b d w'->Q .normal d w'):(Zd id ops true).wp P Q a w:=by
 simp only[Ze.injEq,XO]at e;obtain⟨⟨f,p⟩,l,m⟩:=e;refine region_draws' j h.st (h.reg f i) AP Dm (G8 p g) λnew w' d o=>?_
 rw[BZ,ZM]at d;exact q.get new d _ _ (h.next f m (l ▸ o))
theorem O3:(bls cs [] []).map Bl.fin=cs:=by
 have h:∀(cs:List (List Xu)) (b:Nat),(olB [] b cs).map Bl.fin=cs:=λcs=>by
  induction cs with
  | nil=>intro _;rfl
  | cons c r ih=>intro b;rw[olB,Z6,ih];rfl
 rw[bls,YU,h];exact yAh _
theorem M.tx0{id:Nat}(h:M w0 k0 X n cs ks os a w)(k:List It)(b:List (Zs × SV))(d:(allB ops k (bls cs [] []) os n,b.map λx=>lk k os x.1)=(true,b.map λx=>some x.2))
 (e:Certs P Q w0 k0 X ops k (bls cs [] []) os 0 ops.toList k) (f:∀c w',M w0 k0 X n cs ks b c w'->Q .normal c w'):(Zd id ops false).wp P Q a w:=by
 simp only[Ze.injEq]at d;refine h.tx k [] [] cs b (by simp only[d.1,d.2,O3];rfl) rfl e (λc w' g=>f c w' ?_);rwa[yAh]at g
theorem M.t{id:Nat}(h:M w0 k0 X n cs ks os a w)(k:List It)(mk:List (Nat × List Xu))(pu:List (Nat × Nat × List Xu))(c:List (List Xu))(b:List (Zs × SV))(g:Certs P Q w0 k0 X ops k (bls cs mk pu) os 0 ops.toList k)(i:All mk.length λnew=>∀d w',M w0 k0 X n c (ks++new) b d w'->Q .normal d w')(e:(allB ops k (bls cs mk pu) os n && inB k.length mk pu,(bls cs mk pu).map Bl.fin,b.map λx=>lk k os x.1)=(true,c,b.map λx=>some x.2):=by kernel_rfl)(f:pu.map (λx=>x.2.2.length)=pu.map (λx=>(((cs++mk.map (·.2))[x.1]?).getD []).length):=by kernel_rfl):(Zd id ops false).wp P Q a w:=h.tx k mk pu c b e f g i
theorem M.d{id:Nat}(h:M w0 k0 X n cs ks os a w)(k:List It)(mk:List (Nat × List Xu))(pu:List (Nat × Nat × List Xu))(c:List (List Xu))(b:List (Zs × SV))(i:Certs P Q w0 k0 X ops k (bls cs mk pu) os 0 ops.toList k)(j:All mk.length λnew=>∀d w',M w0 k0 X n c (ks++new) b d w'->Q .normal d w')(e:(allB ops k (bls cs mk pu) os n && inB k.length mk pu,(bls cs mk pu).map Bl.fin,b.map λx=>lk k os x.1)=(true,c,b.map λx=>some x.2):=by kernel_rfl)(f:pu.map (λx=>x.2.2.length)=pu.map (λx=>(((cs++mk.map (·.2))[x.1]?).getD []).length):=by kernel_rfl)(g:P.follows .mixedOrders=true:=by kernel_rfl):(Zd id ops true).wp P Q a w:=h.dr g k mk pu c b e f i j
theorem M.u{id:Nat}(h:M w0 k0 X n cs ks os a w)(k:List It)(b:List (Zs × SV))(e:Certs P Q w0 k0 X ops k (bls cs [] []) os 0 ops.toList k)(f:∀c w',M w0 k0 X n cs ks b c w'->Q .normal c w')(d:(allB ops k (bls cs [] []) os n,b.map λx=>lk k os x.1)=(true,b.map λx=>some x.2):=by kernel_rfl):(Zd id ops false).wp P Q a w:=h.tx0 k b d e f
theorem M.at(h:M w0 k0 X n cs ks os a w){t:Zs}{s:SV}(c:(os.find? (λx=>x.1 == t)).map (·.2)=some s:=by kernel_rfl):a.tmps[t]? = some (s.at (ad ks)):=by
 obtain⟨y,b,rfl⟩:=XA.1 c;have k:y.1=t:=by simpa using yAO b
 rw[<-k];exact h.os.get y.1 y.2 (ZA b)
theorem St.made{w w':Xs}{cs:List (List Xu)}{ks:List Nat}(h:St w w.heap.size [] cs ks w'){b:Nat}{c:List Xu}(f:cs[b]? = some c):Made w (ad ks b) c w':=by
 obtain⟨d,e,g,k⟩:=h.has b c f;exact⟨h.bel.below,k.elim id (λh=>absurd h X5),g,d,e⟩
theorem M.av(h:M w0 k0 X n cs ks os a w){t:Zs}{v:Xu}(k:(os.find? (λx=>x.1 == t)).map (·.2)=some (.v v):=by kernel_rfl):a.tmps[t]? = some v:=h.at k
theorem M.ev(h:M w0 k0 X n cs ks os a w){t:Zs}{v:Xu}(k:(os.find? (λx=>x.1 == t)).map (·.2)=some (.v v):=by kernel_rfl):a.eval (.tmp t)=v:=BK (h.at k)
theorem M.enter{c:Code}(k:List (Zs × SV))(n:Nat)(h:(k.map λx=>a.tmps[x.1]?,a.tmps.size,a.defers)=(k.map λx=>some (x.2.at (ad [])),n,[]))(b:∀a,M w w.heap.size [] n [] [] k a w->c.wp P Q a w):c.wp P Q a w:=by
 simp only[Ze.injEq]at h;exact b a ⟨St.begin w,⟨h.2.1,h.2.2⟩,Olds.mk' λx hx=>yB8.1 h.1 x hx⟩
theorem M.drop{j w:Xs}{i n:Nat}{X:List Nat}{cs cs2:List (List Xu)}{ks ks2:List Nat}{f:List (Zs × SV)}{a:Act}(h:M j i X n (cs++cs2) (ks++ks2) f a w)(l:ks.length=cs.length)
 (ho:f.all (λx=>match x.2.blk with|none=>true|some b=>b.blt cs.length)=true):M j i X n cs ks f a w:=by
 have k:∀b,b<cs.length->ad (ks++ks2) b=ad ks b:=λb d=>by
  unfold ad;rw[Zb,Zb,XQ oM]
 refine⟨⟨h.st.bel,h.st.le,l,λb c d=>?_,λb c d m g=>?_⟩,h.sl,Olds.mk' λx hx=>?_⟩
 ·have e:=(XG.1 d).1;have:=h.st.has b c (by rw[XQ e];exact d);rwa[k b e]at this
 ·have:=h.st.inj b c (by rw[XC];omega) (by rw[XC];omega) g;rwa[k b d,k c m]at this
 ·rw[h.os.get x.1 x.2 hx]
  congr 1
  refine SV.at_congr λb d=>?_
  have e:=Yj.1 ho x hx;rw[d]at e;exact k b (ZW (Yy e))
abbrev z(n:Nat):List Xu:=List.replicate n (uZ 0)
def It.s(d:Zs)(k:List (Zs × Nat))(b:SV):It:=⟨some d,k,b,.stay⟩
def It.x(d:Zs)(k:List (Zs × Nat))(v:Xu):It:=⟨some d,k,.v v,.stay⟩
def It.c(d:Zs)(k:List (Zs × Nat))(v:Xu):It:=⟨some d,k,.v v,.call⟩
def It.u(k:List (Zs × Nat))(b:Nat):It:=⟨none,k,.v Zp,.put b⟩
end RG
namespace RG
variable {P:YG}{ops:Array Yo}{Q:yAL->Act->Xs->Prop}{w0 w:Xs}{k0 n:Nat}{X ks:List Nat}{cs:List (List Xu)}{os:List (Zs × SV)}{a:Act}
inductive Hh where
 | x (v:Xu)
 | c (v:Xu)
 | s (v:SV)
 | m (b:Nat)
 | u (b:Nat)
def nd(k:Array Yo)(i:Nat):List (Zs × Nat):=
 match k[i]? with
 | none=>[]
 | some o=>o.op.operands.toList.filterMap λx=>match x with
  | .tmp t=>((Yt i).find? λj=>match k[j]? with|some p=>p.dst == some t && cQ o j|none=>false).map λj=>(t,j)
  | _=>none
def dt(k:Array Yo)(i:Nat):Option Zs:=(k[i]?).bind (·.dst)
def Hh.it(k:Array Yo)(i:Nat):Hh->It
 | .x v=>⟨dt k i,nd k i,.v v,.stay⟩
 | .c v=>⟨dt k i,nd k i,.v v,.call⟩
 | .s v=>⟨dt k i,nd k i,v,.stay⟩
 | .m b=>⟨dt k i,nd k i,.p b 0,.make b⟩
 | .u b=>⟨none,nd k i,.v Zp,.put b⟩
def mkL(k:Array Yo):Nat->List Hh->List It
 | _,[]=>[]
 | i,h :: r=>h.it k i :: mkL k (i+1) r
def kps(k:List It)(b:List (Zs × SV))(l:List Zs):List (Zs × SV):=l.filterMap λt=>(lk k b t).map λs=>(t,s)
theorem M.U{id:Nat}(h:M w0 k0 X n cs ks os a w)(k:List Hh)(b:List Zs)(e:Certs P Q w0 k0 X ops (mkL ops 0 k) (bls cs [] []) os 0 ops.toList (mkL ops 0 k))(f:∀c w',M w0 k0 X n cs ks (kps (mkL ops 0 k) os b) c w'->Q .normal c w')(d:(allB ops (mkL ops 0 k) (bls cs [] []) os n,(kps (mkL ops 0 k) os b).map λx=>lk (mkL ops 0 k) os x.1)=(true,(kps (mkL ops 0 k) os b).map λx=>some x.2):=by kernel_rfl):(Zd id ops false).wp P Q a w:=h.u _ _ e f d
theorem M.T{id:Nat}(h:M w0 k0 X n cs ks os a w)(k:List Hh)(mk:List (Nat × List Xu))(pu:List (Nat × Nat × List Xu))(b:List (List Xu))(c:List Zs)(g:Certs P Q w0 k0 X ops (mkL ops 0 k) (bls cs mk pu) os 0 ops.toList (mkL ops 0 k))(i:All mk.length λnew=>∀d w',M w0 k0 X n b (ks++new) (kps (mkL ops 0 k) os c) d w'->Q .normal d w')(e:(allB ops (mkL ops 0 k) (bls cs mk pu) os n && inB (mkL ops 0 k).length mk pu,(bls cs mk pu).map Bl.fin,(kps (mkL ops 0 k) os c).map λx=>lk (mkL ops 0 k) os x.1)=(true,b,(kps (mkL ops 0 k) os c).map λx=>some x.2):=by kernel_rfl)(f:pu.map (λx=>x.2.2.length)=pu.map (λx=>(((cs++mk.map (·.2))[x.1]?).getD []).length):=by kernel_rfl):(Zd id ops false).wp P Q a w:=h.t _ mk pu b _ g i e f
theorem M.D{id:Nat}(h:M w0 k0 X n cs ks os a w)(k:List Hh)(mk:List (Nat × List Xu))(pu:List (Nat × Nat × List Xu))(b:List (List Xu))(c:List Zs)(i:Certs P Q w0 k0 X ops (mkL ops 0 k) (bls cs mk pu) os 0 ops.toList (mkL ops 0 k))(j:All mk.length λnew=>∀d w',M w0 k0 X n b (ks++new) (kps (mkL ops 0 k) os c) d w'->Q .normal d w')(e:(allB ops (mkL ops 0 k) (bls cs mk pu) os n && inB (mkL ops 0 k).length mk pu,(bls cs mk pu).map Bl.fin,(kps (mkL ops 0 k) os c).map λx=>lk (mkL ops 0 k) os x.1)=(true,b,(kps (mkL ops 0 k) os c).map λx=>some x.2):=by kernel_rfl)(f:pu.map (λx=>x.2.2.length)=pu.map (λx=>(((cs++mk.map (·.2))[x.1]?).getD []).length):=by kernel_rfl)(g:P.follows .mixedOrders=true:=by kernel_rfl):(Zd id ops true).wp P Q a w:=h.d _ mk pu b _ i j e f g
end RG
namespace NT
def IsP(n:Nat):Prop:=2<=n/\∀m,m ∣ n->m=1\/m=n
theorem IsP.cop{p k:Nat}(h:IsP p)(b:0<k)(c:k<p):yCv p k:=by
 unfold yCv;rcases h.2 _ (yCr p k)with e|e
 ·exact e
 ·have:=yAN b (yCg p k);omega
theorem IsP.cop_of{p k:Nat}(h:IsP p)(b:¬p ∣ k):yCv p k:=by
 unfold yCv;rcases h.2 _ (yCr p k)with e|e
 ·exact e
 ·exact absurd (e ▸ yCg p k) b
theorem IsP.euclid{p a b:Nat}(h:IsP p)(hd:p ∣ a*b):p ∣ a\/p ∣ b:=by
 by_cases k:p ∣ a
 ·exact X9 k
 ·exact X0 ((h.cop_of k).dvd_of_dvd_mul_left hd)
/-! the binomials -/
def ch: Nat -> Nat -> Nat
  | _, 0 => 1
  | 0, _ + 1 => 0
  | n + 1, k + 1 => ch n k + ch n (k + 1)
theorem sF(n:Nat):ch n 0=1:=by cases n<;>rfl
theorem sH:∀(n k:Nat),n<k->ch n k=0
 | 0,k+1,_=>rfl
 | n+1,k+1,h=>by
  rw[ch,sH n k oM,sH n (k+1) oM]
theorem GV:∀(n:Nat),ch n n=1
 | 0=>rfl
 | n+1=>by rw[ch,GV n,sH n (n+1) oM]
theorem wS:∀(n k:Nat),(k+1)*ch (n+1) (k+1)=(n+1)*ch n k
 | 0,0=>rfl
 | 0,k+1=>by simp[ch]
 | n+1,0=>by
  have h:=wS n 0;have e:ch (n+1+1) (0+1)=ch (n+1) 0+ch (n+1) (0+1):=rfl;rw[sF]at h;rw[e,sF];omega
 | n+1,k+1=>by
  have b:=wS n k;have c:=wS n (k+1);have e:ch (n+1+1) (k+1+1)=ch (n+1) (k+1)+ch (n+1) (k+1+1):=rfl;have e3:ch (n+1) (k+1)=ch n k+ch n (k+1):=rfl;rw[e,yAY,c];have:(k+1+1)*ch (n+1) (k+1)=(n+1)*ch n k+ch (n+1) (k+1):=by
   rw[<-b,yAn (k+1) 1,ZU]
  rw[this,e3,yAn (n+1) 1,ZU,yAY];omega
def sumTo:Nat->(Nat->Nat)->Nat
 | 0,_=>0
 | n+1,f=>sumTo n f+f n
theorem sumTo_congr(f g:Nat->Nat):∀n,(∀k,k<n->f k=g k)->sumTo n f=sumTo n g
 | 0,_=>rfl
 | n+1,h=>by
  rw[sumTo,sumTo,sumTo_congr f g n (λk b=>h k oM),h n oM]
theorem Ak(f g:Nat->Nat):∀n,sumTo n (λk=>f k+g k)=sumTo n f+sumTo n g
 | 0=>rfl
 | n+1=>by simp only[sumTo];rw[Ak f g n];omega
theorem Ai(a:Nat)(f:Nat->Nat):∀n,sumTo n (λk=>a*f k)=a*sumTo n f
 | 0=>rfl
 | n+1=>by simp only[sumTo];rw[Ai a f n,yAY]
theorem kC(f:Nat->Nat):∀n,sumTo (n+1) f=f 0+sumTo n (λk=>f (k+1))
 | 0=>by simp[sumTo]
 | n+1=>by rw[sumTo,kC f n];simp only[sumTo];omega
theorem Aj(p:Nat)(f:Nat->Nat):∀n,(∀k,k<n->p ∣ f k)->p ∣ sumTo n f
 | 0,_=>Nat.dvd_zero p
 | n+1,h=>Nat.dvd_add (Aj p f n (λk b=>h k oM)) (h n oM)
theorem Qh(a:Nat):∀n,(a+1)^n=sumTo (n+1) (λk=>ch n k*a^k)
 | 0=>by simp[sumTo,ch]
 | n+1=>by
  rw[Zf,Qh a n,yAY,Z5];rw[kC (λk=>ch (n+1) k*a^k) (n+1)];have e:sumTo (n+1) (λk=>ch (n+1) (k+1)*a^(k+1))
   = sumTo (n+1) (λk=>a*(ch n k*a^k))+sumTo (n+1) (λk=>ch n (k+1)*a^(k+1)):=by
   rw[<-Ak];refine sumTo_congr _ _ _ ?_;intro k _;show(ch n k+ch n (k+1))*a^(k+1)=_;rw[yAn,Zf];have:ch n k*(a^k*a)=a*(ch n k*a^k):=by
    rw[YF a,yAB]
   rw[this]
  rw[e,Ai];have c:sumTo (n+1) (λk=>ch n k*a^k)
   = ch n 0*a^0+sumTo n (λk=>ch n (k+1)*a^(k+1)):=kC (λk=>ch n k*a^k) n
  have e3:sumTo (n+1) (λk=>ch n (k+1)*a^(k+1))=sumTo n (λk=>ch n (k+1)*a^(k+1)):=by
   rw[sumTo,sH n (n+1) oM,yEk,yAi]
  have b:ch (n+1) 0*a^0=ch n 0*a^0:=by rw[sF,sF]
  rw[e3,b,YF _ a];omega
theorem IsP.ch_dvd{p k:Nat}(h:IsP p)(b:k+1<p):p ∣ ch p (k+1):=by
 obtain⟨n,rfl⟩:∃n,p=n+1:=⟨p-1,by have:=h.1;omega⟩
 have e:=wS n k;have hd:(n+1) ∣ (k+1)*ch (n+1) (k+1):=e ▸ Nat.dvd_mul_right _ _;exact(h.cop oM b).dvd_of_dvd_mul_left hd
theorem IsP.frob{p:Nat}(h:IsP p)(a:Nat):(a+1)^p%p=(a^p+1)%p:=by
 obtain⟨n,rfl⟩:∃n,p=n+1:=⟨p-1,by have:=h.1;omega⟩
 rw[Qh,sumTo,kC,GV,sF];obtain⟨c,b⟩:(n+1) ∣ sumTo n (λk=>ch (n+1) (k+1)*a^(k+1)):=
  Aj _ _ _ (λk d=>Nat.dvd_mul_right_of_dvd (h.ch_dvd oM) _)
 rw[b];have:1*a^0+(n+1)*c+1*a^(n+1)=(a^(n+1)+1)+(n+1)*c:=by
  rw[yBo];omega
 rw[this,yBr]
theorem IsP.fermat{p:Nat}(h:IsP p):∀a,a^p%p=a%p
 | 0=>by
  rw[yEj (by have:=h.1;omega)]
 | a+1=>by
  rw[h.frob,yBY,h.fermat a,<-yBY]
theorem IsP.cancel{p a x y:Nat}(h:IsP p)(d:¬p ∣ a)(e:a*x%p=a*y%p):x%p=y%p:=by
 have key:∀x y,y<=x->a*x%p=a*y%p->x%p=y%p:=by
  intro x y k e;have b:=yAp (Nat.sub_mod_eq_zero_of_mod_eq e);rw[<-Nat.mul_sub]at b;obtain⟨c,f⟩:=(h.cop_of d).dvd_of_dvd_mul_left b;have:x=y+p*c:=oM;rw[this,yBr]
 rcases yEl y x with k|k
 ·exact key x y k e
 ·exact(key y x k e.symm).symm
theorem IsP.fermat1{p:Nat}(h:IsP p)(a:Nat)(k:¬p ∣ a):a^(p-1)%p=1:=by
 obtain⟨n,rfl⟩:∃n,p=n+1:=⟨p-1,by have:=h.1;omega⟩
 have e:=h.fermat a;rw[Zf,YF]at e;have:=h.cancel k (x:=a^n) (y:=1) (by rw[e,Z5]);rw[Nat.add_sub_cancel,this,XX h.1]
/-! powers that are 1 -/
theorem N3(b r : Nat)(hr : 1<r)(x y : Nat): b^x%r=1 -> b^y%r=1 -> b^(yDA x y)%r=1:=by
  induction x, y using yDA.induction with
  | H0 n => intro _ h; rw[Nat.gcd_zero_left]; exact h
  | H1 m n hm ih =>
    intro h1 h2;rw[Nat.gcd_rec];refine ih ?_ h1;have e : b^n=(b^m)^(n/m) * b^(n%m):=by
      rw[<-yCt, <-yAX, Nat.div_add_mod]
    rw[e, Z8, yDc, h1, Nat.one_pow, XX hr, ZU, yEx]at h2;exact h2
theorem sE:∀n,2<=n->∃r,IsP r/\r ∣ n/\(IsP n\/r*r<=n):=by
 intro n;induction n using yDX with
 | _ n ih =>
  intro o;by_cases l:IsP n
  ·exact⟨n,l,Nat.dvd_refl n,X9 l⟩
  ·have:∃m,m ∣ n/\m≠1/\m≠n:=by
    refine Zm λc=>l ⟨o,λm d=>?_⟩
    refine Zm λb=>c ⟨m,d,λe=>b (X9 e),λe=>b (X0 e)⟩
   obtain⟨m,⟨k,d⟩,t,u⟩:=this;have q:m≠0:=by intro e;rw[e,yEk]at d;omega
   have s:k≠0:=by intro e;rw[e,Nat.mul_zero]at d;omega
   have p:k≠1:=by intro e;rw[e,Z5]at d;omega
   have g:m<n:=by
    have:=yAN oM (⟨k,d⟩:m ∣ n);omega
   have j:k<n:=by
    have:=Nat.mul_le_mul_right k (show 2<=m by omega);omega
   rcases yEl m k with f|f
   ·obtain⟨r,i,c,_⟩:=ih m g oM;have b:=yAN oM c;refine⟨r,i,yBX c ⟨k,d⟩,X0 ?_⟩;rw[d];exact ZB b (XB b f)
   ·obtain⟨r,i,c,_⟩:=ih k j oM;have b:=yAN oM c;refine⟨r,i,yBX c ⟨m,by rw[d,YF]⟩,X0 ?_⟩;rw[d];exact ZB (XB b f) b
/-! what of a prime of n - 1 goes into the primes of n -/
theorem part{n q a r : Nat}(hq : IsP q)(hr : IsP r)(hrn : r ∣ n)(hn : 1<n)
    (h1 : a^(n-1)%n=1) (hd : q ∣ n-1) (h2 : yDA (a^((n-1)/q)%n + (n-1)) n=1) : q ∣ r-1:=by
  have hr2:=hr.1;have toR : ∀x y, x%n=y%n -> x%r=y%r:=by
    intro x y e;rw[<-yB4 x hrn, e, yB4 y hrn]
  have hm : a^(n-1)%r=1:=by
    have:=toR (a^(n-1)) 1 (by rw[h1, XX hn]);rw[this, XX hr2]
  have hra : ¬r ∣ a:=by
    intro hc;have hz : a^(n-1)%r=0:=yAZ (yBX hc (by
      have : a^1 ∣ a^(n-1):=yDY a oM;rwa[yBt]at this))
    omega
  have hb : (a^((n-1)/q))^q%r=1:=by
    rw[<-yCt, Nat.div_mul_cancel hd]; exact hm
  have hbr : ¬r ∣ a^((n-1)/q):=by
    intro hc;have : r ∣ (a^((n-1)/q))^q:=yBX hc (by
      have : (a^((n-1)/q))^1 ∣ (a^((n-1)/q))^q:=yDY _ (by have:=hq.1; omega);rwa[yBt]at this)
    have:=yAZ this;omega
  have hg:=N3 _ r hr2 q (r-1) hb (hr.fermat1 _ hbr);rcases hq.2 _ (yCr q (r-1))with e|e
  · rw[e, yBt]at hg
    exfalso;have hx : r ∣ a^((n-1)/q)%n + (n-1):=by
      refine yAp ?_;have e1 : (a^((n-1)/q)%n)%r=1:=by rw[yB4 _ hrn]; exact hg
      have e2 : (n-1 + 1)%r=0:=by
        rw[Nat.sub_add_cancel oM]; exact yAZ hrn
      have : (a^((n-1)/q)%n + (n-1))%r=(1 + (n-1))%r:=by
        rw[yBY, e1, yBY 1 (n-1), XX hr2]
      rw[this, Nat.add_comm, e2]
    have:=Nat.dvd_gcd hx hrn;rw[h2]at this;have:=yAN oM this;omega
  · rw[<-e]; exact yCg _ _
theorem Cz{n f:Nat}(e:1<n)(hf:n<(f+1)*(f+1))
 (k:∀r,IsP r->r ∣ n->f ∣ r-1):IsP n:=by
 obtain⟨r,c,b,h|h⟩:=sE n e
 ·exact h
 ·have:=yAN (by have:=c.1;omega) (k r c b);have d:f+1<=r:=by have:=c.1;omega
  have:=ZB d d;omega
/-! trial -/
def trial(n : Nat): Nat -> Nat -> Bool
  | 0, _ => true
  | k + 1, d => (n%d != 0) && trial n k (d + 1)
theorem Cf(n:Nat):∀k d,trial n k d=true->∀m,d<=m->m<d+k->¬m ∣ n
 | 0,_,_,m,_,_=>oM
 | k+1,d,h,m,h1,h2=>by
  simp only[trial,XO,bne_iff_ne,ne_eq]at h;rcases Nat.lt_or_ge d m with b|c
  ·exact Cf n k (d+1) h.2 m b oM
  ·have:m=d:=oM;subst this;intro hd;exact h.1 (yAZ hd)
theorem small{n k:Nat}(d:2<=n)(f:trial n k 2=true)(i:n<(k+2)*(k+2)):IsP n:=by
 obtain⟨r,g,b,h|h⟩:=sE n d
 ·exact h
 ·have e:=g.1;have c:r<2+k:=by
   refine Zm λj=>?_
   have:=ZB (show k+2<=r by omega) (show k+2<=r by omega);omega
  exact absurd b (Cf n k 2 f r e c)
/-! powers, reckoned -/
def pm(n : Nat): Nat -> Nat -> Nat -> Nat -> Nat
  | 0, _, _, acc => acc
  | k + 1, a, e, acc => pm n k (a * a%n) (e/2) (if e%2=1 then acc * a%n else acc)
theorem FZ(n:Nat):∀k a e b,e<2^k->b<n->pm n k a e b=b*a^e%n
 | 0,a,e,b,h,ha=>by
  have:e=0:=by simpa using h
  subst this;rw[pm,yBo,Z5,XX ha]
 | k+1,a,e,b,h,ha=>by
  have f:0<n:=oM;have c:(if e%2=1 then b*a%n else b)<n:=by
   split
   ·exact Y9 _ f
   ·exact ha
  rw[pm,FZ n k _ _ _ (by rw[Zf]at h;omega) c];have d:∀y,y*(a*a%n)^(e/2)%n=y*(a*a)^(e/2)%n:=by
   intro y;rw[Z8,<-yDc,<-Z8]
  rw[d];have g:a^e=a^(e%2)*(a*a)^(e/2):=by
   have:(a*a)=a^2:=by rw[Zf,yBt]
   rw[this,<-yCt,<-yAX,Nat.mod_add_div]
  rw[g];split
  ·rename_i h1
   rw[h1,yBt,Z8,yEx,<-Z8,yAB]
  ·rename_i h1
   have:e%2=0:=oM;rw[this,yBo,ZU]
theorem part'{n q a r k:Nat}(f:IsP q)(g:IsP r)(c:r ∣ n)(b:1<n)(i:n<2^k)
 (d:pm n k a (n-1) 1=1) (hd:(n-1)%q=0) (e:yDA (pm n k a ((n-1)/q) 1+(n-1)) n=1):q ∣ r-1:=by
 rw[FZ n k a (n-1) 1 oM b,ZU]at d;rw[FZ n k a _ 1 (Nat.lt_of_le_of_lt (Nat.div_le_self _ _) oM) b,ZU]at e;exact part f g c b d (yAp hd) e
/-! the two primes -/
theorem x21: IsP 1627771:=small (k:=1275) dC dK dC
theorem x30:IsP 545358713:=small (k:=23352) dC dK dC
theorem x26:IsP 44706919:=small (k:=6686) dC dK dC
theorem x17:IsP 120233:=small (k:=346) dC dK dC
theorem x27:IsP 107590001:=small (k:=10372) dC dK dC
theorem x23:IsP 7240687:=small (k:=2690) dC dK dC
theorem x16:IsP 96557:=small (k:=310) dC dK dC
theorem x39:IsP 297159362677:=
 Cz (f:=1627771) dC dK (λr b hd=>part' (k:=39) (a:=2) x21 b hd dC dK dK dK dK)
theorem c95:IsP 29047611873442575647497758179:=
 Cz (f:=(545358713*297159362677)) dC dK (λr b hd=>ZD dK (part' (k:=95) (a:=2) x30 b hd dC dK dK dK dK) (part' (k:=95) (a:=2) x39 b hd dC dK dK dK dK))
theorem b68:IsP 174723607534414371449:=
 Cz (f:=(44706919*120233)) dC dK (λr b hd=>ZD dK (part' (k:=68) (a:=2) x26 b hd dC dK dK dK dK) (part' (k:=68) (a:=2) x17 b hd dC dK dK dK dK))
theorem c109:IsP 341948486974166000522343609283189:=
 Cz (f:=29047611873442575647497758179) dC dK (λr b hd=>part' (k:=109) (a:=2) c95 b hd dC dK dK dK dK)
theorem pN:IsP 115792089237316195423570985008687907852837564279074904382605163141518161494337:=
 Cz (f:=(174723607534414371449*341948486974166000522343609283189)) dC dK (λr b hd=>ZD dK (part' (k:=256) (a:=2) b68 b hd dC dK dK dK dK) (part' (k:=256) (a:=2) c109 b hd dC dK dK dK dK))
theorem e128:IsP 255515944373312847190720520512484175977:=
 Cz (f:=(107590001*7240687*96557)) dC dK (λr b hd=>ZD dK (ZD dK (part' (k:=128) (a:=2) x27 b hd dC dK dK dK dK) (part' (k:=128) (a:=2) x23 b hd dC dK dK dK dK)) (part' (k:=128) (a:=2) x16 b hd dC dK dK dK dK))
theorem Wr:IsP 205115282021455665897114700593932402728804164701536103180137503955397371:=
 Cz (f:=255515944373312847190720520512484175977) dC dK (λr b hd=>part' (k:=237) (a:=2) e128 b hd dC dK dK dK dK)
theorem pP:IsP 115792089237316195423570985008687907853269984665640564039457584007908834671663:=
 Cz (f:=205115282021455665897114700593932402728804164701536103180137503955397371) dC dK (λr b hd=>part' (k:=256) (a:=2) Wr b hd dC dK dK dK dK)
end NT
namespace EC
structure Line{P:Nat}[NeZero P](x1 y1 x2 y2 l:Fin P):Prop where
 go:y2=y1+l*(x2-x1)
 on:l*(y1+y2)=x1^2+x1*x2+x2^2
variable {P:Nat}[NeZero P]
theorem CM(k b c f l d g:Fin P)(m:b^2=k^3+7)(n:f^2=c^3+7)(i:Line k b c f l)(hx:d=l^2-k-c)(j:g=l*(k-d)-b):g^2=d^3+7:=by
 obtain⟨e,h⟩:=i;subst j hx e
 grobner
theorem O9(k i b c j g f n e m d l:Fin P)(q:Line k i b f j)(t:Line b f c n g)
 (s:e=j^2-k-b) (p:m=j*(k-e)-i) (u:d=g^2-b-c) (o:l=g*(b-d)-f) :
 ((m-n)^2-(e+c)*(e-c)^2)*(d-k)^2=((l-i)^2-(k+d)*(d-k)^2)*(e-c)^2:=by
 obtain⟨r,w⟩:=q;obtain⟨e3,v⟩:=t;subst p o s u e3 r
 grobner
theorem O8(c e d k m l j g b i f n:Fin P)(q:Line c e d j m)(t:Line d j k g l)
 (s:b=m^2-c-d) (p:i=m*(c-b)-e) (u:f=l^2-d-k) (o:n=l*(d-f)-j) :
 ((i-g)^2-(k+b)*(b-k)^2)*((n-e)*(b-k)-(i-g)*(f-c))+(b-k)^2*(((i-g)*k-g*(b-k))*(f-c)-((n-e)*c-e*(f-c))*(b-k))=0:=by
 obtain⟨r,w⟩:=q;obtain⟨e3,v⟩:=t;subst p o s u e3 r
 grobner (ringSteps:=100000000)
theorem Mr(b i c k j g f e d l:Fin P)(o:Line b i c f j)(r:Line c f k e g)
 (q:k=j^2-b-c) (n:e=j*(b-k)-i) (s:d=g^2-c-k) (m:l=g*(c-d)-f) :
 (9*k^4-8*k*e^2)*(d-b)^2=((l-i)^2-(b+d)*(d-b)^2)*(4*e^2):=by
 obtain⟨p,u⟩:=o;obtain⟨e3,t⟩:=r;subst m s n q p
 grobner (ringSteps:=100000000)
theorem Mq(c e d k j i g b f l:Fin P)(o:Line c e d g j)(r:Line d g k b i)
 (q:k=j^2-c-d) (n:b=j*(c-k)-e) (s:f=i^2-d-k) (m:l=i*(d-f)-g) :
 (3*k^2*(k*(4*b^2)-(9*k^4-8*k*b^2))-2*b^2*(4*b^2))*(f-c)=((l-e)*(c*(4*b^2)-(9*k^4-8*k*b^2))-e*(f-c)*(4*b^2))*(2*b):=by
 obtain⟨p,u⟩:=o;obtain⟨e3,t⟩:=r;subst m s n q p
 grobner (ringSteps:=100000000)
end EC
namespace EC
variable {P:Nat}[NeZero P]
theorem val_zero:(0:Fin P).val=0:=by simp
theorem val_one(h:NT.IsP P):(1:Fin P).val=1:=by
 have k:=h.1;show 1%P=1;exact XX oM
theorem nzd(h:NT.IsP P){a b:Fin P}(e:a*b=0):a=0\/b=0:=by
 have c:a.val*b.val%P=0:=by
  have:=congrArg yDM e;rw[yAk,val_zero]at this;exact this
 rcases h.euclid (yAp c)with k|k
 ·exact X9 (yAH (by rw[val_zero];exact yBy k a.isLt))
 ·exact X0 (yAH (by rw[val_zero];exact yBy k b.isLt))
theorem cI(h:NT.IsP P){a b:Fin P}(c:a≠0)(k:b≠0):a*b≠0:=λe=>(nzd h e).elim c k
theorem cancel(h:NT.IsP P){a b c:Fin P}(f:a≠0)(e:b*a=c*a):b=c:=by
 have d:(b-c)*a=0:=by grobner
 rcases nzd h d with k|k
 ·grobner
 ·exact absurd k f
def inv(a:Fin P):Fin P:=Fin.ofNat P (a.val^(P-2))
theorem inv_mul(h:NT.IsP P){a:Fin P}(b:a≠0):inv a*a=1:=by
 apply yAH;have c:=h.1;have k:¬P ∣ a.val:=λhd=>b (yAH (by rw[val_zero];exact yBy hd a.isLt))
 rw[yAk,val_one h];show a.val^(P-2)%P*a.val%P=1;rw[yDZ,<-Zf,show(P-2).succ=P-1 by omega];exact h.fermat1 _ k
abbrev Pt(P:Nat):=Option (Fin P × Fin P)
def On:Pt P->Prop
 | none=>True
 | some (x,y)=>y^2=x^3+7
def neg:Pt P->Pt P
 | none=>none
 | some (x,y)=>some (x,-y)
def nQ(k b c d:Fin P):Fin P:=if k=c then 3*k^2*inv (2*b) else(d-b)*inv (c-k)
def third(k c b l:Fin P):Pt P:=some (l^2-k-b,l*(k-(l^2-k-b))-c)
def add:Pt P->Pt P->Pt P
 | none,b=>b
 | a,none=>a
 | some (x1,y1),some (x2,y2)=>if x1=x2/\y2 = -y1 then none else third x1 y1 x2 (nQ x1 y1 x2 y2)
theorem qO(h:NT.IsP P){x b k:Fin P}(c:b^2=x^3+7)(d:k^2=x^3+7)(ho:¬k = -b):k=b:=by
 have e:(k-b)*(k+b)=0:=by grobner
 rcases nzd h e with e|e
 ·grobner
 ·exact absurd (by grobner) ho
theorem xC{x k:Fin P}(h:NT.IsP P)(b:(2:Fin P)≠0)(ho:¬(x=x/\k = -k)):2*k≠0:=λe=>by
 rcases nzd h e with e|e
 ·exact b e
 ·exact ho ⟨rfl,by rw[e];grobner⟩
theorem bW(h:NT.IsP P)(i:(2:Fin P)≠0){k d b c:Fin P}(j:d^2=k^3+7)(f:c^2=b^3+7)(ho:¬(k=b/\c = -d)):Line k d b c (nQ k d b c):=by
 unfold nQ;by_cases hx:k=b
 ·subst hx;rw[yES rfl];have l:=qO h j f (λe=>ho ⟨rfl,e⟩);subst l;have g:=inv_mul h (xC h i ho);exact⟨by grobner,by grobner⟩
 ·rw[yET hx];have hd:b-k≠0:=λe=>hx (by grobner)
  have g:=inv_mul h hd;refine⟨by grobner,cancel h hd (by grobner)⟩
theorem CV(h:NT.IsP P)(i:(2:Fin P)≠0){k d b c l m:Fin P}(j:d^2=k^3+7)(g:c^2=b^3+7)(ho:¬(k=b/\c = -d))(L:Line k d b c l)(M:Line k d b c m):l=m:=by
 obtain⟨n,b1⟩:=L;obtain⟨a2,o⟩:=M;by_cases hx:k=b
 ·subst hx;have f:=qO h j g (λe=>ho ⟨rfl,e⟩);subst f;exact cancel h (xC h i ho) (by grobner)
 ·have hd:b-k≠0:=λe=>hx (by grobner)
  exact cancel h hd (by grobner)
theorem cD(h:NT.IsP P)(f:(2:Fin P)≠0){b k c d l:Fin P}(g:k^2=b^3+7)(e:d^2=c^3+7)(ho:¬(b=c/\d = -k))(L:Line b k c d l):add (some (b,k)) (some (c,d))=third b k c l:=by
 show(if b=c/\d = -k then none else third b k c (nQ b k c d))=_;rw[yET ho,CV h f g e ho (bW h f g e ho) L]
theorem jF{b k c d:Fin P}(ho:b=c/\d = -k):add (some (b,k)) (some (c,d))=none:=by
 show(if b=c/\d = -k then none else third b k c (nQ b k c d))=_;rw[yES ho]
theorem bM(a:Pt P):add a none=a:=by cases a<;>rfl
theorem Line.swap{d c e k l:Fin P}(L:Line d c e k l):Line e k d c l:=by
 obtain⟨a,b⟩:=L;exact⟨by grobner,by grobner⟩
theorem DN{k e c d l:Fin P}(L:Line k e c d l):third k e c l=third c d k l:=by
 obtain⟨a,b⟩:=L;unfold third;have f:l^2-k-c=l^2-c-k:=by grobner
 have g:l*(k-(l^2-k-c))-e=l*(c-(l^2-c-k))-d:=by grobner
 rw[g,f]
theorem add_comm(h:NT.IsP P)(c:(2:Fin P)≠0)(a b:Pt P)(f:On a)(d:On b):add a b=add b a:=by
 rcases a with _|⟨l,j⟩
 ·rw[bM];rfl
 ·rcases b with _|⟨g,i⟩
  ·rfl
  ·by_cases ho:l=g/\i = -j
   ·rw[jF ho,jF ⟨ho.1.symm,by rw[ho.2];grobner⟩]
   ·have k:¬(g=l/\j = -i):=λe=>ho ⟨e.1.symm,by rw[e.2];grobner⟩
    have L:=bW h c f d ho;rw[cD h c f d ho L,cD h c d f k L.swap,DN L]
theorem Fq(h:NT.IsP P)(f:(2:Fin P)≠0)(a b:Pt P)(c:On a)(k:On b):On (add a b):=by
 rcases a with _|⟨i,g⟩
 ·exact k
 ·rcases b with _|⟨d,e⟩
  ·exact c
  ·by_cases ho:i=d/\e = -g
   ·rw[jF ho];trivial
   ·have L:=bW h f c k ho;rw[cD h f c k ho L];exact CM i g d e _ _ _ c k L rfl rfl
theorem cE{a:Pt P}(h:On a):On (neg a):=by
 rcases a with _|⟨x,y⟩
 ·trivial
 ·have k:y^2=x^3+7:=h;show(-y)^2=x^3+7
  grobner
theorem neg_neg'(a:Pt P):neg (neg a)=a:=by
 rcases a with _|⟨x,y⟩
 ·rfl
 ·show some (x,- -y)=some (x,y);have:- -y=y:=by grobner
  rw[this]
theorem add_neg(a:Pt P):add a (neg a)=none:=by
 rcases a with _|⟨x,y⟩
 ·rfl
 ·exact jF ⟨rfl,rfl⟩
theorem Line.neg{d c e k l:Fin P}(L:Line d c e k l):Line d (-c) e (-k) (-l):=by
 obtain⟨a,b⟩:=L;exact⟨by grobner,by grobner⟩
theorem neg_add(h:NT.IsP P)(i:(2:Fin P)≠0){a b:Pt P}(m:On a)(j:On b):neg (add a b)=add (neg a) (neg b):=by
 rcases a with _|⟨k,d⟩
 ·rfl
 ·rcases b with _|⟨c,f⟩
  ·rfl
  ·by_cases ho:k=c/\f = -d
   ·rw[jF ho];exact(jF ⟨ho.1,by rw[ho.2]⟩).symm
   ·have L:=bW h i m j ho;have g:¬(k=c/\-f = - -d):=λe=>ho ⟨e.1,by have:=e.2;grobner⟩
    rw[cD h i m j ho L];refine Eq.trans ?_ (cD h i (cE (a:=some (k,d)) m) (cE (a:=some (c,f)) j) g L.neg).symm;generalize nQ k d c f=l;unfold third;show some (l^2-k-c,-(l*(k-(l^2-k-c))-d))=some ((-l)^2-k-c,-l*(k-((-l)^2-k-c)) - -d);have n:(-l)^2=l^2:=by grobner
    rw[n];have o:-(l*(k-(l^2-k-c))-d) = -l*(k-(l^2-k-c)) - -d:=by grobner
    rw[o]
theorem Line.back{k c e g l d f:Fin P}(L:Line k c e g l)(j:d=l^2-k-e)(i:f=l*(k-d)-c):Line k (-c) d f (-l):=by
 obtain⟨a,b⟩:=L;subst i j a;exact⟨by grobner,by grobner (ringSteps:=10000000)⟩
theorem S4{b k c l:Fin P}(d:c=l^2-b-k):(-l)^2-b-c=k:=by
 subst d
 grobner
theorem S3{d b k c l:Fin P}(a:c=k+l*(b-d)):-l*(d-b) - -k=c:=by
 subst a
 grobner
theorem RL{x y:Fin P}(z:y=0)(k:y^2=x^3+7):x^3+7=0:=by
 grobner
theorem CN(h:NT.IsP P)(n:(2:Fin P)≠0)(w:∀x:Fin P,x^3+7≠0){b c:Pt P}(g:On b)(i:On c):add (neg b) (add b c)=c:=by
 rcases b with _|⟨d,f⟩
 ·rfl
 ·rcases c with _|⟨j,r⟩
  ·rw[bM];exact jF ⟨rfl,by grobner⟩
  ·have p:=g;have y:=i;by_cases ho:d=j/\r = -f
   ·rw[jF ho,bM,ho.1,ho.2];rfl
   ·have L:=bW h n g i ho;have k:=CM d f j r _ _ _ g i L rfl rfl;rw[cD h n g i ho L];generalize nQ d f j r=l at L k;obtain⟨m,s⟩:∃m,m=l^2-d-j:=⟨_,rfl⟩
    unfold third;rw[<-s]at k⊢;obtain⟨o,t⟩:∃o,o=l*(d-m)-f:=⟨_,rfl⟩
    rw[<-t]at k⊢;have M:=L.back s t;have a:=L.go;have q:¬(d=m/\o = - -f):=λe=>by
     obtain⟨u,v⟩:=e;have z:2*f=0:=by
      grobner
     rcases nzd h z with z|z
     ·exact n z
     ·exact w d (RL z p)
    refine(cD h n (cE (a:=some (d,f)) g) k q M).trans ?_;unfold third;rw[S4 s,S3 a]
theorem US(h:NT.IsP P){b k c d j e g o f m:Fin P}(n:c-k≠0)(i:d-b≠0)(p:g-e=f*(c-k))(l:o-j=m*(d-b))
 (hx:((g-e)^2-(c+k)*(c-k)^2)*(d-b)^2=((o-j)^2-(b+d)*(d-b)^2)*(c-k)^2):f^2-c-k=m^2-b-d:=by
 rw[p,l]at hx;clear p l;refine cancel h (cI h (cI h n n) (cI h i i)) ?_
 grobner
theorem UR(h:NT.IsP P){d k c m j i l o g p X:Fin P}(n:c-k≠0)(r:m-d≠0)(u:l-i=g*(c-k))(s:o-j=p*(m-d))(q:g^2-c-k=X)
 (f:((l-i)^2-(k+c)*(c-k)^2)*((o-j)*(c-k)-(l-i)*(m-d))+(c-k)^2*(((l-i)*k-i*(c-k))*(m-d)-((o-j)*d-j*(m-d))*(c-k))=0):g*(c-X)-l=p*(d-X)-j:=by
 rw[u,s]at f;have v:l=i+g*(c-k):=by clear f q;grobner
 have w:c+k=g^2-X:=by clear f;grobner
 rw[v];obtain⟨a,y⟩:∃a,c-k=a:=⟨_,rfl⟩
 rw[y]at n f⊢;generalize m-d=b at r f;have t:(p*(d-X)-j-(g*(k-X)-i))*(a*a*a*b)=0:=by
  have x:k+c=g^2-X:=by rw[<-w];clear f;grobner
  rw[x]at f
  grobner
 rcases nzd h t with e|e
 ·have x:c=k+a:=by clear f t e w v q u s;grobner
  rw[x]
  grobner
 ·exact absurd e (cI h (cI h (cI h n n) n) r)
theorem U4(h:NT.IsP P){c k d i b m f j:Fin P}(l:2*b≠0)(g:d-c≠0)(n:f*(2*b)=3*k^2)(o:m-i=j*(d-c))
 (hx:(9*k^4-8*k*b^2)*(d-c)^2=((m-i)^2-(c+d)*(d-c)^2)*(4*b^2)):f^2-k-k=j^2-c-d:=by
 rw[o]at hx;refine cancel h (cI h (cI h l l) (cI h g g)) ?_;have e:9*k^4=(f*(2*b))*(f*(2*b)):=by rw[n];clear hx n;grobner
 rw[e]at hx
 grobner
theorem U3(h:NT.IsP P){c b g f k o d n X:Fin P}(l:2*k≠0)(p:g-c≠0)(i:d*(2*k)=3*b^2)(q:o-f=n*(g-c))(m:d^2-b-b=X)
 (j:(3*b^2*(b*(4*k^2)-(9*b^4-8*b*k^2))-2*k^2*(4*k^2))*(g-c)=((o-f)*(c*(4*k^2)-(9*b^4-8*b*k^2))-f*(g-c)*(4*k^2))*(2*k)):d*(b-X)-k=n*(c-X)-f:=by
 rw[q]at j;have e:9*b^4-8*b*k^2=X*(4*k^2):=by
  have r:9*b^4=(d*(2*k))*(d*(2*k)):=by rw[i];clear j i;grobner
  rw[r,<-m]
  grobner
 rw[e,<-i]at j;clear e i m;refine cancel h (cI h (cI h (cI h l l) l) p) ?_
 grobner
theorem qL{a b:Fin P}(h:¬a=b):a-b≠0:=λe=>h (by grobner)
theorem Line.run{c b d k l:Fin P}(L:Line c b d k l):k-b=l*(d-c)/\b-k=l*(c-d):=by
 obtain⟨a,-⟩:=L;exact⟨by grobner,by grobner⟩
theorem Line.at{x y l:Fin P}(L:Line x y x y l):l*(2*y)=3*x^2:=by
 obtain⟨-,b⟩:=L
 grobner
theorem QK{m l d:Fin P}(s:m^2=l^2):(m*d)^2=(l*d)^2:=by grobner
theorem OC{k b:Fin P}(s:(k - -b)^2=(k-b)^2):4*(k*b)=0:=by grobner
theorem WG{m l b c k:Fin P}(r:m^2-c-b=k)(e:k=l^2-b-c):m^2=l^2:=by grobner
theorem TQ{x l a b:Fin P}(e:x=l^2-a-b):x=l^2-b-a:=by grobner
theorem TP{e k b c g d l:Fin P}(L:Line e k b c l)(f:d=l*(e-g)-k):d=l*(b-g)-c:=by
 obtain⟨a,-⟩:=L
 grobner
theorem four_ne(h:NT.IsP P)(k:(2:Fin P)≠0):(4:Fin P)≠0:=λe=>by
 have:(2:Fin P)*2=0:=by grobner
 rcases nzd h this with e|e<;>exact k e
theorem CJ{y z:Fin P}(e:y = -z):z = -y:=by grobner
theorem AV(h:NT.IsP P)(q:(2:Fin P)≠0){k f d l g j n m b o c i:Fin P}(F:j^2=g^3+7)(J:f^2=k^3+7)
 (v:Line k f d l n) (z:Line d l g j m) (y:b=n^2-k-d) (u:o=n*(k-b)-f) (a:c=m^2-d-g) (s:i=m*(d-c)-l)
 (E:o^2=b^3+7) (I:i^2=c^3+7) (w:¬(b=g/\j = -o)) (H:¬(k=c/\i = -f)) (hx:¬c=k) :
 add (some (b,o)) (some (g,j))=add (some (k,f)) (some (c,i)):=by
 have p:=bW h q E F w;have r:=bW h q J I H;rw[cD h q E F w p,cD h q J I H r];unfold third;by_cases hd:b=g
 ·have K:=qO h E (hd ▸ F) (λe=>w ⟨hd,e⟩);subst hd K;have t:=xC (x:=b) h q w;have D:=U4 h t (qL hx) p.at r.run.1 (Mr k f d b n m l j c i v z y u a s);have G:=U3 h t (qL hx) p.at r.run.1 rfl (Mq k f d b n m l j c i v z y u a s);rw[G,D]
 ·have D:=US h (qL hd) (qL hx) p.run.2 r.run.1 (O9 k f d g n m l j b o c i v z y u a s);have G:=UR h (qL hd) (qL hx) p.run.2 r.run.1 rfl (O8 k f d g n m l j b o c i v z y u a s);rw[G,D]
theorem add_assoc(h:NT.IsP P)(l:(2:Fin P)≠0)(h7:∀x:Fin P,x^3+7≠0)(a b c:Pt P)(g:On a)(k:On b)(n:On c):add (add a b) c=add a (add b c):=by
 have comm:=λ(a b:Pt P) (g:On a) (k:On b)=>add_comm h l a b g k
 have f:=Fq h l a b g k;have i:=Fq h l b c k n;have D:∀ {u v:Pt P},On u->On v->add (neg u) (add u v)=v:=λhu hv=>CN h l h7 hu hv
 by_cases z1:b=neg a
 ·subst z1;rw[add_neg];have:=D k n;rw[neg_neg']at this;exact this.symm
 by_cases z2:c=neg b
 ·subst z2;rw[add_neg,bM,comm _ _ f n,comm a b g k];exact D k g
 by_cases z3:c=neg (add a b)
 ·subst z3;rw[add_neg];have e:add b (neg (add a b))=neg a:=by
   rw[comm a b g k,neg_add h l k g];have:=D (cE k) (cE g);rw[neg_neg']at this;exact this
  rw[e,add_neg]
 by_cases t:add b c=neg a
 ·rw[t,add_neg];have e:a=neg (add b c):=by rw[t,neg_neg']
  have j:add a b=neg c:=by
   rw[comm a b g k,e,neg_add h l k n];have:=D (cE k) (cE n);rw[neg_neg']at this;exact this
  rw[j,comm _ _ (cE n) n,add_neg]
 rcases a with _|⟨p,r⟩
 ·rfl
 rcases b with _|⟨j,q⟩
 ·rfl
 rcases c with _|⟨w,F⟩
 ·rw[bM,bM]
 have U:¬(p=j/\q = -r):=λe=>z1 (by rw[e.1,e.2];rfl)
 have Z:¬(j=w/\F = -q):=λe=>z2 (by rw[e.1,e.2];rfl)
 have C:=bW h l g k U;have J:=bW h l k n Z;have A:=cD h l g k U C;have B:=cD h l k n Z J;rw[A]at f z3⊢;rw[B]at i t⊢;generalize nQ p r j q=Y at C A f z3⊢;generalize nQ j q w F=X at J B i t⊢;unfold third at f i z3 t A B⊢;obtain⟨G,H⟩:∃G,G=Y^2-p-j:=⟨_,rfl⟩
 obtain⟨E,W⟩:∃E,E=X^2-j-w:=⟨_,rfl⟩
 rw[<-H]at f z3 A⊢;rw[<-W]at i t B⊢;obtain⟨N,S⟩:∃N,N=Y*(p-G)-r:=⟨_,rfl⟩
 obtain⟨L,Q⟩:∃L,L=X*(j-E)-q:=⟨_,rfl⟩
 rw[<-S]at f z3 A⊢;rw[<-Q]at i t B⊢;have T:¬(G=w/\F = -N):=λe=>z3 (by rw[e.2,<-e.1];rfl)
 have R:¬(p=E/\L = -r):=λe=>t (by rw[e.2,<-e.1];rfl)
 by_cases hx:E=p
 ·have hy:L=r:=by
   have s:=i;rw[hx]at s;exact qO h g s (λe=>R ⟨hx.symm,e⟩)
  by_cases hd:G=w
  ·exfalso;have O:F=N:=by
    have s:=f;exact qO h s (hd ▸ n) (λe=>T ⟨hd,e⟩)
   have K:=D k n;rw[B,hx,hy]at K;rw[hd,<-O]at A;have V:¬p=j:=λe=>by
    subst e;have s:=qO h g k (λe=>U ⟨rfl,e⟩);subst s;rw[comm _ _ (cE k) g,add_neg]at K;cases K
   have u1:¬(j=p/\r = - -q):=λe=>V e.1.symm
   have M:=bW h l (cE (a:=some (j,q)) k) g u1;have r2:=cD h l (cE (a:=some (j,q)) k) g u1 M;have I:third j (-q) p (nQ j (-q) p r)=some (w,F):=r2.symm.trans K;generalize nQ j (-q) p r=m at M I;unfold third at I;have r4:m^2-j-p=w:=by injection I with I;injection I
   have k1:=M.run.1;have k2:=C.run.2;rw[hd]at H;have s2:=QK (d:=p-j) (WG r4 H);rw[<-k1,<-k2]at s2;have k3:=OC s2;have s:∀ {x y:Fin P},y^2=x^3+7->y≠0:=λo z=>h7 _ (RL z o)
   rcases nzd h k3 with e|e
   ·exact four_ne h l e
   ·rcases nzd h e with e|e
    ·exact s g e
    ·exact s k e
  ·-- the same,from the other side
   have s:=AV h l g n J.swap C.swap (TQ W) (TP J Q) (TQ H) (TP C S) i f (λe=>R ⟨e.1.symm,CJ e.2⟩) (λe=>T ⟨e.1.symm,CJ e.2⟩) hd;rw[comm _ _ f n,comm _ _ g i];exact s.symm
 ·exact AV h l n g C J H S W Q f i T R hx
structure Cur(P:Nat)[NeZero P]:Prop where
 pr:NT.IsP P
 two:(2:Fin P)≠0
 sev:∀x:Fin P,x^3+7≠0
theorem Cur.y_ne(C:Cur P){a b:Fin P}(h:On (some (a,b))):b≠0:=λe=>C.sev a (RL e h)
theorem Cur.opp_ne(C:Cur P){a b:Fin P}(h:On (some (a,b))):¬(a=a/\b = -b):=λe=>by
 have k:2*b=0:=by
  have:=e.2
  grobner
 exact cI C.pr C.two (C.y_ne h) k
def Jac(x y z:Fin P):Pt P->Prop
 | none=>z=0
 | some (a,b)=>z≠0/\x=a*z^2/\y=b*z^3
def Pair(x y:Fin P):Pt P->Prop
 | none=>x=0/\y=0
 | some (a,b)=>x=a/\y=b
def dbl(n:Fin P):Fin P:=n+n
def twB(x y:Fin P):Fin P:=dbl (dbl (x*(y*y)))
def twS(x:Fin P):Fin P:=dbl (x*x)+x*x
def twX(x y:Fin P):Fin P:=twS x*twS x-dbl (twB x y)
def twY(x y:Fin P):Fin P:=twS x*(twB x y-twX x y)-dbl (dbl (dbl (y*y*(y*y))))
def twZ(y z:Fin P):Fin P:=dbl (y*z)
theorem VV{a b l x y z:Fin P}(g:l*(2*b)=3*a^2)(ex:x=a*z^2)(k:y=b*z^3):twX x y=(l^2-a-a)*twZ y z^2:=by
 subst ex k;unfold twX twS twB twZ dbl
 grobner (ringSteps:=100000000)
theorem VU{a b l x y z X:Fin P}(g:l*(2*b)=3*a^2)(ex:x=a*z^2)(c:y=b*z^3)(k:twX x y=X*twZ y z^2):twY x y=(l*(a-X)-b)*twZ y z^3:=by
 subst ex c;unfold twY;rw[k];unfold twS twB twZ dbl
 grobner (ringSteps:=100000000)
theorem VT(C:Cur P){b y z:Fin P}(f:b≠0)(k:z≠0)(d:y=b*z^3):twZ y z≠0:=λe=>by
 have c:2*b*(z*z*(z*z))=0:=by
  unfold twZ dbl at e;subst d
  grobner
 exact cI C.pr (cI C.pr C.two f) (cI C.pr (cI C.pr k k) (cI C.pr k k)) c
theorem Jac.twice(C:Cur P){x y z:Fin P}{p:Pt P}(h:Jac x y z p)(k:On p):Jac (twX x y) (twY x y) (twZ y z) (add p p):=by
 match p,h,k with
 | none,h,_ =>
  have c:=h;show twZ y z=0;subst c;unfold twZ dbl
  grobner
 | some (a,b),h,k =>
  obtain⟨d,ex,c⟩:=h;have ho:=C.opp_ne k;have L:=bW C.pr C.two k k ho;rw[cD C.pr C.two k k ho L];have hx:=VV L.at ex c;exact⟨VT C (C.y_ne k) d c,hx,VU L.at ex c hx⟩
def cO(b k:Fin P):Fin P:=b*(k*k)
def eO(b k:Fin P):Fin P:=b*(k*k)*k
def plX(k b bx c:Fin P):Fin P:=(c-b)*(c-b)-(bx-k)*(bx-k)*(bx-k)-dbl ((bx-k)*(bx-k)*k)
def plY(k b bx c:Fin P):Fin P:=(c-b)*((bx-k)*(bx-k)*k-plX k b bx c)-(bx-k)*(bx-k)*(bx-k)*b
def plZ(b c k bx:Fin P):Fin P:=b*c*(bx-k)
theorem Wv{a b c d l t k f bx e Z:Fin P}(g:d-b=l*(c-a))(n:k=a*t^2)(o:f=b*t^3)(e3:bx=c*t^2)(m:e=d*t^3)(i:Z=t*(bx-k)):plX k f bx e=(l^2-a-c)*Z^2:=by
 have j:d=b+l*(c-a):=by grobner
 subst j n o e3 m i;unfold plX dbl
 grobner (ringSteps:=100000000)
theorem Wu{a b c d l t k f bx e Z X:Fin P}(g:d-b=l*(c-a))(j:k=a*t^2)(m:f=b*t^3)(e3:bx=c*t^2)(o:e=d*t^3)(n:Z=t*(bx-k))(i:plX k f bx e=X*Z^2):plY k f bx e=(l*(a-X)-b)*Z^3:=by
 unfold plY;rw[i];have p:d=b+l*(c-a):=by grobner
 subst p j m e3 o n
 grobner (ringSteps:=100000000)
theorem Br(C : Cur P){a c t : Fin P}{k : Nat}(ht : t ≠ 0)(e : a * t ^ k = c * t ^ k): a = c := by
  have hk : ∀k : Nat, t ^ k ≠ 0 := λk => by
    induction k with
    | zero => intro h; exact ht (by have h2 : (1 : Fin P) = 0 := by { rw [← h]; grind }; calc t = t * 1 := by grobner
                                    _ = 0 := by rw [h2]; grobner)
    | succ k ih => intro h; exact cI C.pr ih ht (by rw [<-h]; grind)
  exact cancel C.pr (hk k) e
theorem Jac.plus(C:Cur P){j o f m n e:Fin P}{p q:Pt P}(h:Jac j o f p)(l:On p)(w:Jac m n e q)(i:On q)(F:f≠0)(E:e≠0):
 (cO j e=cO m f/\eO o e=eO n f/\add p q=add p p) \/
 (¬(cO j e=cO m f/\eO o e=eO n f)/\Jac (plX (cO j e) (eO o e) (cO m f) (eO n f)) (plY (cO j e) (eO o e) (cO m f) (eO n f)) (plZ f e (cO j e) (cO m f)) (add p q)):=by
 match p,q,h,l,w,i with
 | none,_,h,_,_,_=>exact absurd h F
 | some (a,b),none,_,_,h,_=>exact absurd h E
 | some (a,b),some (c,d),h,l,w,i =>
  obtain⟨-,y,B⟩:=h;obtain⟨-,z,D⟩:=w;have u:=cI C.pr F E;have r:cO j e=a*(f*e)^2:=by subst y;unfold cO;clear l i;grobner
  have t:eO o e=b*(f*e)^3:=by subst B;unfold eO;clear l i;grobner
  have e3:cO m f=c*(f*e)^2:=by subst z;unfold cO;clear l i;grobner
  have v:eO n f=d*(f*e)^3:=by subst D;unfold eO;clear l i;grobner
  by_cases s:cO j e=cO m f/\eO o e=eO n f
  ·refine X9 ⟨s.1,s.2,?_⟩;have g:a=c:=Br C u (by rw[<-r,<-e3];exact s.1);have A:b=d:=Br C u (by rw[<-t,<-v];exact s.2);rw[g,A]
  ·refine X0 ⟨s,?_⟩;by_cases g:a=c
   ·have hd:d = -b:=Zm λA=>s ⟨by rw[r,e3,g],by
     have:=qO C.pr (x:=a) l (by rw[g];exact i) A;rw[t,v,this]⟩
    rw[jF ⟨g,hd⟩];show plZ _ _ _ _=0;rw[r,e3,g];unfold plZ
    grobner
   ·have ho:¬(a=c/\d = -b):=λh=>g h.1
    have L:=bW C.pr C.two l i ho;rw[cD C.pr C.two l i ho L];have A:plZ f e (cO j e) (cO m f)=f*e*(cO m f-cO j e):=rfl;have hx:=Wv L.run.1 r t e3 v A;refine⟨?_,hx,Wu L.run.1 r t e3 v A hx⟩;rw[A];refine cI C.pr u (λh=>g ?_);exact Br C (k:=2) u (by rw[<-r,<-e3];clear l i L hx;grobner)
theorem Jac.zero(C:Cur P){x y z:Fin P}{p:Pt P}(h:Jac x y z p)(k:z=0):p=none:=by
 match p,h with
 | none,_=>rfl
 | some (a,b),h=>exact absurd k h.1
theorem Jac.neg{x y z:Fin P}{p:Pt P}(h:Jac x y z p):Jac x (0-y) z (neg p):=by
 match p,h with
 | none,h=>exact h
 | some (a,b),h=>exact⟨h.1,h.2.1,by have:=h.2.2;show 0-y = -b*z^3;grobner⟩
theorem inv_zero(C:Cur P):inv (0:Fin P)=0:=by
 apply yAH;have k:=C.pr.1;show(0:Fin P).val^(P-2)%P=_;rw[val_zero];by_cases h:P=2
 ·exact absurd (yAH (by rw[val_zero];show 2%P=0;rw[h])) C.two
 ·rw[yEj oM,Nat.zero_mod]
theorem Jac.pair(C:Cur P){x y z:Fin P}{p:Pt P}(h:Jac x y z p):Pair (x*(inv z*inv z)) (y*(inv z*inv z)*inv z) p:=by
 match p,h with
 | none,h =>
  have k:=h;subst k;rw[inv_zero C];exact⟨by grobner,by grobner⟩
 | some (a,b),h =>
  have c:=inv_mul C.pr h.1;obtain⟨-,ex,k⟩:=h;subst ex k;exact⟨by grobner,by grobner⟩
theorem Pair.jac(C:Cur P){x y:Fin P}{p:Pt P}(h:Pair x y p)(c:¬(x=0/\y=0)):Jac x y 1 p:=by
 match p,h with
 | none,h=>exact absurd h c
 | some (a,b),h =>
  obtain⟨ex,k⟩:=h;subst ex k;refine⟨λe=>?_,by grobner,by grobner⟩;have:=congrArg yDM e;rw[val_zero,val_one C.pr]at this;omega
theorem Pair.nothing(C:Cur P){x y:Fin P}{p:Pt P}(h:Pair x y p)(k:On p)(d:x=0/\y=0):p=none:=by
 match p,h,k with
 | none,_,_=>rfl
 | some (a,b),h,k =>
  obtain⟨ex,c⟩:=h;exact absurd (by rw[<-c];exact d.2) (C.y_ne k)
def mul:Nat->Pt P->Pt P
 | 0,_=>none
 | n+1,a=>add (mul n a) a
theorem jB:On (none:Pt P):=trivial
theorem jS(a:Pt P):add none a=a:=rfl
theorem Cur.on(C:Cur P){a b:Pt P}(c:On a)(k:On b):On (add a b):=Fq C.pr C.two a b c k
theorem Cur.comm(C:Cur P){a b:Pt P}(c:On a)(k:On b):add a b=add b a:=add_comm C.pr C.two a b c k
theorem Cur.assoc(C:Cur P){a b c:Pt P}(e:On a)(d:On b)(k:On c):add (add a b) c=add a (add b c):=add_assoc C.pr C.two C.sev a b c e d k
theorem Cur.neg_l(C:Cur P){a:Pt P}(k:On a):add (neg a) a=none:=by
 rw[C.comm (cE k) k,add_neg]
theorem Cur.swap(C:Cur P){a b c d:Pt P}(f:On a)(e:On b)(k:On c)(hd:On d):add (add a b) (add c d)=add (add a c) (add b d):=by
 rw[C.assoc f e (C.on k hd),<-C.assoc e k hd,C.comm e k,C.assoc k e hd,<-C.assoc f k (C.on e hd)]
theorem cG(C:Cur P){a:Pt P}(k:On a):∀n,On (mul n a)
 | 0=>jB
 | n+1=>C.on (cG C k n) k
theorem mul_add(C:Cur P){a:Pt P}(k:On a)(m:Nat):∀n,mul (m+n) a=add (mul m a) (mul n a)
 | 0=>(bM _).symm
 | n+1=>by
  show add (mul (m+n) a) a=add (mul m a) (add (mul n a) a);rw[mul_add C k m n,C.assoc (cG C k m) (cG C k n) k]
def eG:Int->Pt P->Pt P
 | .ofNat n,a=>mul n a
 | .negSucc n,a=>neg (mul (n+1) a)
theorem jA(C:Cur P){a:Pt P}(k:On a):∀n,On (eG n a)
 | .ofNat n=>cG C k n
 | .negSucc n=>cE (cG C k (n+1))
theorem oN(C:Cur P){a:Pt P}(k:On a):∀n,eG (n+1) a=add (eG n a) a
 | .ofNat n=>rfl
 | .negSucc 0=>by
  show(none:Pt P)=add (neg (add none a)) a;rw[jS,C.neg_l k]
 | .negSucc (n+1)=>by
  show neg (mul (n+1) a)=add (neg (add (mul (n+1) a) a)) a;have b:=cG C k (n+1);rw[neg_add C.pr C.two b k,C.assoc (cE b) (cE k) k,C.neg_l k,bM]
theorem sQ(C:Cur P){a:Pt P}(k:On a)(n:Int):eG (n-1) a=add (eG n a) (neg a):=by
 have h:=oN C k (n-1);rw[Int.sub_add_cancel]at h;rw[h,C.assoc (jA C k _) k (cE k),add_neg,bM]
theorem Cd(C:Cur P){a:Pt P}(k:On a)(m:Int):∀n:Nat,eG (m+n) a=add (eG m a) (eG n a)
 | 0=>by rw[Zy,yCw];exact(bM _).symm
 | n+1=>by
  rw[show m+((n+1:Nat):Int)=(m+n)+1 by omega,oN C k,Cd C k m n,show((n+1:Nat):Int)=(n:Int)+1 by omega,oN C k,
   C.assoc (jA C k _) (jA C k _) k]
theorem Cc(C:Cur P){a:Pt P}(k:On a):∀n:Nat,eG (-(n:Int)) a=neg (eG n a)
 | 0=>rfl
 | n+1=>by
  have b:eG (((n+1:Nat):Int)) a=add (eG n a) a:=by rw[show((n+1:Nat):Int)=(n:Int)+1 by omega,oN C k]
  rw[b,neg_add C.pr C.two (jA C k _) k,<-Cc C k n,show -((n+1:Nat):Int) = -(n:Int)-1 by omega,sQ C k]
theorem Ca(C:Cur P){a:Pt P}(k:On a)(m:Int):∀n:Nat,eG (m-n) a=add (eG m a) (eG (-(n:Int)) a)
 | 0=>by rw[Zy,Int.sub_zero];exact(bM _).symm
 | n+1=>by
  rw[show m-((n+1:Nat):Int)=(m-n)-1 by omega,sQ C k,Ca C k m n,show -((n+1:Nat):Int) = -(n:Int)-1 by omega,sQ C k,
   C.assoc (jA C k _) (jA C k _) (cE k)]
theorem wY(C:Cur P){a:Pt P}(b:On a)(m n:Int):eG (m+n) a=add (eG m a) (eG n a):=by
 rcases Int.le_total 0 n with h|h
 ·obtain⟨k,rfl⟩:=yCZ h;exact Cd C b m k
 ·obtain⟨k,c⟩:=yCZ (show 0<=-n by omega);obtain rfl:n = -(k:Int):=oM;rw[<-Ca C b m k,Int.sub_eq_add_neg]
theorem Cb(a:Pt P):eG 1 a=a:=jS a
theorem Hu(a:Pt P):eG 0 a=none:=rfl
def tot(a:Nat->Pt P):Nat->(Nat->Int)->Pt P
 | 0,_=>none
 | k+1,f=>add (tot a k f) (eG (f k) (a k))
theorem DK(C:Cur P){a:Nat->Pt P}(f:Nat->Int):∀k,(∀i,i<k->On (a i))->On (tot a k f)
 | 0,_=>jB
 | k+1,h=>C.on (DK C f k λi b=>h i oM) (jA C (h k oM) _)
theorem eM{a:Nat->Pt P}{f g:Nat->Int}:∀k,(∀i,i<k->f i=g i)->tot a k f=tot a k g
 | 0,_=>rfl
 | k+1,h=>by
  show add (tot a k f) _=add (tot a k g) _;rw[eM k (λi b=>h i oM),h k oM]
theorem xE(a:Nat->Pt P){f:Nat->Int}:∀k,(∀i,i<k->f i=0)->tot a k f=none
 | 0,_=>rfl
 | k+1,h=>by
  show add (tot a k f) _=none;rw[xE a k (λi b=>h i oM),h k oM];rfl
theorem Ba(C:Cur P){a:Nat->Pt P}(f g:Nat->Int):∀k,(∀i,i<k->On (a i))->tot a k (λj=>f j+g j)=add (tot a k f) (tot a k g)
 | 0,_=>rfl
 | k+1,h=>by
  have b:∀i,i<k->On (a i):=λi d=>h i oM
  have c:=h k oM;show add (tot a k _) (eG (f k+g k) (a k))=add (add (tot a k f) (eG (f k) (a k))) (add (tot a k g) (eG (g k) (a k)));rw[Ba C f g k b,wY C c,C.swap (DK C f k b) (DK C g k b) (jA C c _) (jA C c _)]
theorem FD(C:Cur P){a:Nat->Pt P}(i:Nat)(d:Int):∀k,i<k->(∀i,i<k->On (a i))->tot a k (λj=>if j=i then d else 0)=eG d (a i)
 | k+1,hi,h=>by
  show add (tot a k _) (eG (if k=i then d else 0) (a k))=_;by_cases b:k=i
  ·subst b;rw[yES rfl,xE a k (λj c=>yET oM)];rfl
  ·rw[yET b,FD C i d k oM (λj c=>h j oM)];exact bM _
theorem Ng(C:Cur P){a:Nat->Pt P}(f:Nat->Int)(i:Nat)(d:Int)(k:Nat)(c:i<k)(h:∀i,i<k->On (a i)):
 tot a k (λj=>if j=i then f j+d else f j)=add (tot a k f) (eG d (a i)):=by
 rw[<-FD C i d k c h,<-Ba C f _ k h];refine eM k λj _=>?_
 by_cases b:j=i
 ·rw[yES b,yES b]
 ·rw[yET b,yET b,yCw]
theorem Hz(C:Cur P){a:Nat->Pt P}(f:Nat->Int)(k:Nat)(h:∀i,i<k->On (a i)):tot a k (λj=>2*f j)=add (tot a k f) (tot a k f):=by
 rw[<-Ba C f f k h];exact eM k λj _=>oM
end EC
namespace EC
theorem ND{P c:Nat}(i:NT.IsP P)(m:P=3*c+1)(l:7<P)(f:(P-7)^c%P≠1)(x:Nat):(x*x*x+7)%P≠0:=λe=>by
 have hx:¬P ∣ x:=λhd=>by
  have k:P ∣ x*x*x:=Nat.dvd_mul_left_of_dvd hd _;have b:P ∣ 7:=(Nat.dvd_add_right k).1 (yAp e);have:=yAN dC b;omega
 have k:=i.fermat1 x hx;have b:x*x*x%P=P-7:=by
  have j:x*x*x%P<P:=Y9 _ oM;have d:(x*x*x%P+7)%P=0:=by rw[yD0];exact e
  by_cases g:x*x*x%P+7<P
  ·rw[XX g]at d;omega
  ·rw[yDq oM,XX oM]at d;omega
 apply f;rw[<-b,<-yDc];rw[<-k]
 congr 1
 rw[show P-1=3*c by omega,yCt]
 congr 1
 rw[Zf,Zf,yBt]
theorem SL{P c:Nat}[NeZero P](b:NT.IsP P)(g:P=3*c+1)(f:7<P)(d:(P-7)^c%P≠1):Cur P:=by
 refine⟨b,λe=>?_,λx e=>?_⟩
 ·have:=congrArg yDM e;rw[val_zero]at this;have k:(2:Fin P).val=2%P:=rfl;rw[k,XX oM]at this;omega
 ·have i:x*x*x+7=0:=by rw[<-e];grobner
  have:=congrArg yDM i;rw[val_zero,Fin.val_add,yAk,yAk]at this;have k:(7:Fin P).val=7%P:=rfl;rw[k,yDZ,yD0,Nat.add_mod_mod]at this;exact ND b g f d x.val this
theorem Om:NT.pm 115792089237316195423570985008687907853269984665640564039457584007908834671663 256 (115792089237316195423570985008687907853269984665640564039457584007908834671663-7) 38597363079105398474523661669562635951089994888546854679819194669302944890554 1≠1:=dK
theorem Uh{P c k:Nat}(d:c<2^k)(b:1<P)(h:NT.pm P k (P-7) c 1≠1):(P-7)^c%P≠1:=λe=>h (by rw[NT.FZ P k _ c 1 d b,ZU];exact e)
theorem cur:∃(P:Nat) (_:NeZero P),P=115792089237316195423570985008687907853269984665640564039457584007908834671663/\Cur P:=by
 have d:=NT.pP;have k:=Om;have g:115792089237316195423570985008687907853269984665640564039457584007908834671663=3*38597363079105398474523661669562635951089994888546854679819194669302944890554+1:=dK;have e:38597363079105398474523661669562635951089994888546854679819194669302944890554<2^256:=dK;have f:7<115792089237316195423570985008687907853269984665640564039457584007908834671663:=dK;generalize 38597363079105398474523661669562635951089994888546854679819194669302944890554=c at *;generalize 115792089237316195423570985008687907853269984665640564039457584007908834671663=P at *;have b:NeZero P:=⟨oM⟩
 exact⟨P,b,rfl,SL d g f (Uh e oM k)⟩
end EC
section
structure At4(w:Xs)(k a b c d:Nat):Prop where
 c0:w.cell? ⟨k,0,none⟩=some (uZ a)
 c1:w.cell? ⟨k,1,none⟩=some (uZ b)
 c2:w.cell? ⟨k,2,none⟩=some (uZ c)
 c3:w.cell? ⟨k,3,none⟩=some (uZ d)
 f:∀o,w.frozen? ⟨k,o,none⟩=false
variable {w w1:Xs}{k a b c d:Nat}
theorem At4.lt(h:At4 w k a b c d):k<w.heap.size:=ZZ _ _ h.c0
theorem At4.below{B:Nat}(h:At4 w k a b c d)(f:Below B w w1)(e:k<B):At4 w1 k a b c d:=
 ⟨by rw[f.cell (p:=⟨k,0,none⟩) e];exact h.c0,by rw[f.cell (p:=⟨k,1,none⟩) e];exact h.c1,by rw[f.cell (p:=⟨k,2,none⟩) e];exact h.c2,by rw[f.cell (p:=⟨k,3,none⟩) e];exact h.c3,
  λo=>by rw[f.frozen (p:=⟨k,o,none⟩) e];exact h.f o⟩
theorem At4.call(h:At4 w k a b c d)(e:kZ w w1):At4 w1 k a b c d:=h.below e h.lt
theorem At4.alloc(h:At4 w k a b c d)(o:Obj):At4 (w.alloc o) k a b c d:=h.call (aC w o)
theorem At4.drewN(h:At4 w k a b c d)(q:Nat):At4 (w.drewN q) k a b c d:=⟨h.c0,h.c1,h.c2,h.c3,h.f⟩
theorem At4.new(w:Xs)(t:Yd)(a b c d:Nat):At4 (w.alloc (.cells #[uZ a,uZ b,uZ c,uZ d] t)) w.heap.size a b c d:=
 ⟨by rw[Yp];rfl,by rw[Yp];rfl,by rw[Yp];rfl,by rw[Yp];rfl,λo=>Zn _ _ _ _⟩
theorem At4.made(w:Xs)(t:Yd)(a b c d:Nat){k:Nat}(e:w.heap.size=k):At4 (w.alloc (.cells #[uZ a,uZ b,uZ c,uZ d] t)) k a b c d:=
 e ▸ At4.new w t a b c d
theorem bI{i j:Nat}{o k:Nat}(h:i≠j\/o≠k):(⟨i,o,none⟩:Addr)≠⟨j,k,none⟩:=by
 intro e;simp only[Addr.mk.injEq,and_true]at e;omega
theorem At4.other{j o : Nat}(h : At4 w k a b c d)(hj : j ≠ k)(v : Xu): At4 (w.setCell ⟨j, o, none⟩ v) k a b c d :=
  ⟨by rw [XZ _ _ _ _ (bI (X9 hj))]; exact h.c0, by rw [XZ _ _ _ _ (bI (X9 hj))]; exact h.c1,
   by rw [XZ _ _ _ _ (bI (X9 hj))]; exact h.c2, by rw [XZ _ _ _ _ (bI (X9 hj))]; exact h.c3, λo => by rw [YN]; exact h.f o⟩
theorem At4.set0(h : At4 w k a b c d)(x : Nat): At4 (w.setCell (aZ k) (uZ (x : Int))) k x b c d :=
  ⟨Y1 _ _ _ h.c0, by rw [XZ _ _ _ _ (bI (X0 dC))]; exact h.c1,
   by rw [XZ _ _ _ _ (bI (X0 dC))]; exact h.c2, by rw [XZ _ _ _ _ (bI (X0 dC))]; exact h.c3, λo => by rw [YN]; exact h.f o⟩
theorem At4.set1(h : At4 w k a b c d)(x : Nat): At4 (w.setCell ⟨k, 1, none⟩ (uZ (x : Int))) k a x c d :=
  ⟨by rw [XZ _ _ _ _ (bI (X0 dC))]; exact h.c0, Y1 _ _ _ h.c1,
   by rw [XZ _ _ _ _ (bI (X0 dC))]; exact h.c2, by rw [XZ _ _ _ _ (bI (X0 dC))]; exact h.c3, λo => by rw [YN]; exact h.f o⟩
theorem At4.set2(h : At4 w k a b c d)(x : Nat): At4 (w.setCell ⟨k, 2, none⟩ (uZ (x : Int))) k a b x d :=
  ⟨by rw [XZ _ _ _ _ (bI (X0 dC))]; exact h.c0, by rw [XZ _ _ _ _ (bI (X0 dC))]; exact h.c1,
   Y1 _ _ _ h.c2, by rw [XZ _ _ _ _ (bI (X0 dC))]; exact h.c3, λo => by rw [YN]; exact h.f o⟩
theorem At4.set3(h : At4 w k a b c d)(x : Nat): At4 (w.setCell ⟨k, 3, none⟩ (uZ (x : Int))) k a b c x :=
  ⟨by rw [XZ _ _ _ _ (bI (X0 dC))]; exact h.c0, by rw [XZ _ _ _ _ (bI (X0 dC))]; exact h.c1,
   by rw [XZ _ _ _ _ (bI (X0 dC))]; exact h.c2, Y1 _ _ _ h.c3, λo => by rw [YN]; exact h.f o⟩
theorem At4.drew(h:At4 w k a b c d):At4 w.drew k a b c d:=⟨h.c0,h.c1,h.c2,h.c3,h.f⟩
def set4(w:Xs)(k:Nat)(x y z t:Xu):Xs:=(((w.setCell (aZ k) x).setCell ⟨k,1,none⟩ y).setCell ⟨k,2,none⟩ z).setCell ⟨k,3,none⟩ t
theorem At4.self4(h:At4 w k a b c d)(x y z t:Nat):At4 (set4 w k (uZ x) (uZ y) (uZ z) (uZ t)) k x y z t:=(((h.set0 x).set1 y).set2 z).set3 t
theorem At4.other4{j:Nat}(h:At4 w k a b c d)(e:j≠k)(x y z t:Xu):At4 (set4 w j x y z t) k a b c d:=(((h.other e x).other e y).other e z).other e t
theorem aK{B j:Nat}{b:Xs}(h:Below B b w)(k:B<=j)(x y z t:Xu):Below B b (set4 w j x y z t):=
 (((h.setCell (p:=⟨j,0,none⟩) k x).setCell (p:=⟨j,1,none⟩) k y).setCell (p:=⟨j,2,none⟩) k z).setCell (p:=⟨j,3,none⟩) k t
end
section
variable {P:Nat}[NeZero P]{N:Nat}
structure FoldI(w wr:Xs)(g0 g1 g2 a b c d p q r s:Nat):Prop where
 bl:kZ w wr
 pr:At4 wr w.heap.size g0 g1 g2 0
 lo:At4 wr (w.heap.size+1) a b c d
 hi:At4 wr (w.heap.size+1+1) p q r s
 re:At4 wr (w.heap.size+1+1+1) 0 0 0 0
 ha:a<18446744073709551616
 hb:b<18446744073709551616
 hc:c<18446744073709551616
 hd:d<18446744073709551616
 hp:p<18446744073709551616
 hq:q<18446744073709551616
 hr:r<18446744073709551616
 hs:s<18446744073709551616
theorem Lu{a b c d p q r s i f g t k P gk:Nat}(o:P+val i f g 0=top)(l:top<2*P)(m:val a b c d<top)(j:gk=val a b c d+top*val 0 0 0 0)
 (v:t+top*k=val a b c d+val i f g 0) (u:k<=1) (n:t=val p q r s) (e:t<top):(k=0->val a b c d=gk%P)/\(k=1->val p q r s=gk%P):=by
 have e:gk=val a b c d:=by rw[j];rfl
 rw[e];refine⟨λh=>?_,λh=>?_⟩
 ·subst h;rw[XX oM]
 ·subst h;rw[<-n,yDq oM,XX oM];omega
theorem MY{p q r s:Nat}(h:¬(p=0/\q=0/\r=0/\s=0)):0<val p q r s:=by unfold val;omega
theorem Ix{x h g P gk:Nat}(k:0<h)(c:P+g=top)(d:top<2*P)(b:gk=x+top*h):x+g*h<gk/\(x+g*h)%P=gk%P:=by
 have e:gk=x+g*h+P*h:=by rw[b,<-c,yAn];omega
 rw[e,yBr];have:0<P*h:=Nat.mul_pos oM k;exact⟨oM,rfl⟩
theorem C6{l t a b c d g h x:Nat}(k:g*h+x=l+18446744073709551616*t)(f:t=val a b c d):val l a b c+top*val d 0 0 0=x+val g 0 0 0*h:=by
 have e:val g 0 0 0=g:=by unfold val;omega
 rw[e];unfold val at *;unfold top;omega
theorem val_mul(k c b h:Nat):val k c b 0*h=k*h+18446744073709551616*(c*h)+340282366920938463463374607431768211456*(b*h):=by
 unfold val;rw[yAn,yAn,yAn,yAB,yAB];omega
theorem yR{n l i o j m h x a b c d r q p s f g k e:Nat}(u:n+18446744073709551616*val a b c d=o*h+x)
 (v:l+18446744073709551616*val r q p s=j*h+val a b c d) (t:i+18446744073709551616*val f g k e=m*h+val r q p s) :
 val n l i f+top*val g k e 0=x+val o j m 0*h:=by
 rw[val_mul];unfold val at *;unfold top;omega
theorem yS(g0 g1 g2:Nat)(x y:Xu)(m n P:Nat)(hu:g0<18446744073709551616)(kb:g1<18446744073709551616)(k7:g2<18446744073709551616)
 (hor:(g1=0/\g2=0)\/∃o:Nat,bits .or .u64 (g1:Int) (g2:Int)=(o:Int)/\o≠0) (hP:P+val g0 g1 g2 0=top) (k9:top<2*P) (hx:Four x m) (hy:Four y n) (w:Xs) :
 XH prog 155 #[.agg #[uZ g0,uZ g1,uZ g2,uZ 0],x,y] w (rZ w λe w'=>Four e ((m+top*n)%P)):=by
 obtain⟨a,b,c,d,rfl,ha,hb,hc,hd,em⟩:=hx;obtain⟨p,q,r,s,rfl,hp,hq,hr,hs,en⟩:=hy;go_enter func155,ntmps155;go_wp2;go_loopg [] (val a b c d+top*val p q r s) (λg wr=>∃(a b c d p q r s:Nat),FoldI w wr g0 g1 g2 a b c d p q r s/\g=val a b c d+top*val p q r s/\Hid (g%P=(m+top*n)%P))
 case atStart =>
  have f:=E9 w (.cells #[uZ g0,uZ g1,uZ g2,uZ 0] 78) (.cells #[uZ a,uZ b,uZ c,uZ d] 76) (.cells #[uZ p,uZ q,uZ r,uZ s] 76) (.cells #[uZ 0,uZ 0,uZ 0,uZ 0] 76);refine⟨a,b,c,d,p,q,r,s,⟨f,?_,?_,?_,?_,ha,hb,hc,hd,hp,hq,hr,hs⟩,rfl,?_⟩
  ·exact(((At4.new w 78 g0 g1 g2 0).alloc _).alloc _).alloc _
  ·exact((At4.made (w.alloc _) 76 a b c d (XF _ _)).alloc _).alloc _
  ·exact(At4.made ((w.alloc _).alloc _) 76 p q r s (by simp)).alloc _
  ·exact At4.made (((w.alloc _).alloc _).alloc _) 76 0 0 0 0 (by simp)
  ·rw[em,en];rfl
 case round =>
  obtain⟨a,b,c,d,p,q,r,s,hI,hg,HE⟩:=hrel;clear em en ha hb hc hd hp hq hr hs;obtain⟨bl,pr,lo,hi,re,ha,hb,hc,hd,hp,hq,hr,hs⟩:=hI;have HB:Hid (Below w.heap.size w wr):=bl;clear bl;generalize G:w.heap.size+1+1+1=C at re⊢;generalize J:w.heap.size+1+1=k2 at hi⊢;generalize L:w.heap.size+1=k1 at lo⊢;have H:Hid (w.heap.size+1=k1/\w.heap.size+1+1=k2/\w.heap.size+1+1+1=C):=⟨L,J,G⟩
  generalize E:w.heap.size=B at pr HB⊢;have H0:Hid (w.heap.size=B):=E;have kf:Hid (B<=k1):=by unfold Hid;omega
  have S:B≠k1:=oM;have k8:B≠k2:=oM;have ku:B≠C:=oM;have n12:k1≠k2:=oM;have Q:k1≠C:=oM;have k6:k2≠C:=oM;have z0:=pr.lt;have z1:=lo.lt;have z2:=hi.lt;have z3:=re.lt;clear E L J G;by_cases hz:p=0/\q=0/\r=0/\s=0
  ·obtain⟨rfl,rfl,rfl,rfl⟩:=hz;obtain⟨p0,p1,p2,p3,pf⟩:=id pr;obtain⟨l0,l1,l2,l3,lf⟩:=id lo;obtain⟨E,L,J,G,hf⟩:=id hi;obtain⟨F,r1,r2,r3,rf⟩:=id re;go_wp2_with fail
   refine(rL _ _ _ _ (Four.mk ha hb hc hd rfl) (Four.mk hu kb k7 dC rfl) _).mono ?_;rintro e w1 ⟨v,rfl,f,v4,t,k,rfl,⟨T,O,V,Z,rfl,W,Y,U,R,K⟩,hk,N⟩;have z:=Lu hP k9 (nI ha hb hc hd) hg N hk K (K ▸ nI W Y U R);rw[HE.out]at z;have D:Hid _:=z;clear z;clear p0 p1 p2 p3 pf l0 l1 l2 l3 lf E L J G hf F r1 r2 r3 rf N K hg HE;have j:=lo.call f;have i:=re.call f;have z3:=i.lt;have z1:=j.lt;have I:Hid (Below B w w1):=HB.trans (f.mono oM);obtain⟨l0,l1,l2,l3,lf⟩:=id j;obtain⟨F,r1,r2,r3,rf⟩:=id i;have A:k=0\/k=1:=oM;rcases A with rfl|rfl
   ·go_wp2;have u:=((((i.set0 a).set1 b).set2 c).set3 d).alloc (.cells #[uZ T,uZ O,uZ V,uZ Z] 76);refine XE (v:=?v0) ?hr0 rfl ?hR0
    case hr0=>simp[results,Tryz.results155,go_sem,u.c0,u.c1,u.c2,u.c3];rfl
    refine⟨_,rfl,?_,Four.mk ha hb hc hd (D.1 trivial).symm⟩;rw[H0.out];have X:B<=C:=by have:=H.out;have:=H0.out;omega
    have q1:=(((I.setCell (p:=⟨C,0,none⟩) X (uZ a)).setCell (p:=⟨C,1,none⟩) X (uZ b)).setCell (p:=⟨C,2,none⟩) X (uZ c)).setCell (p:=⟨C,3,none⟩) X (uZ d);exact q1.alloc (by simp;omega) _
   ·go_wp2;have u:=((((i.set0 T).set1 O).set2 V).set3 Z).alloc (.cells #[uZ T,uZ O,uZ V,uZ Z] 76);refine XE (v:=?v1) ?hr1 rfl ?hR1
    case hr1=>simp[results,Tryz.results155,go_sem,u.c0,u.c1,u.c2,u.c3];rfl
    refine⟨_,rfl,?_,Four.mk W Y U R (D.2 trivial).symm⟩;rw[H0.out];have X:B<=C:=by have:=H.out;have:=H0.out;omega
    have q1:=(((I.setCell (p:=⟨C,0,none⟩) X (uZ T)).setCell (p:=⟨C,1,none⟩) X (uZ O)).setCell (p:=⟨C,2,none⟩) X (uZ V)).setCell (p:=⟨C,3,none⟩) X (uZ Z);exact q1.alloc (by simp;omega) _
  ·go_upto_region 1 with fail
   go_cut [12] from 10 to 72 (λc wx=>c=.bool true/\wr=wx)
   case first =>
    obtain⟨E,L,J,G,hf⟩:=id hi;go_wp2_with fail
    all_goals (go_meet;exact⟨rfl,rfl⟩)
   case rest =>
    obtain⟨rfl,rfl⟩:=hcut;have h9:=Ix (MY hz) hP k9 hg;clear hz;obtain⟨p0,p1,p2,p3,pf⟩:=id pr;obtain⟨l0,l1,l2,l3,lf⟩:=id lo;obtain⟨E,L,J,G,hf⟩:=id hi;rcases hor with⟨rfl,rfl⟩|⟨o,ho,kv⟩
    ·have hor:bits .or .u64 0 0=0:=dK;go_wp2_with fail
     refine(kF g0 _ _ _ _ hu (Four.mk hp hq hr hs rfl) (Four.mk ha hb hc hd rfl) _).mono ?_;rintro e w1 ⟨v,rfl,f,l,v4,t,rfl,hl,⟨T,O,V,Z,rfl,W,Y,U,R,K⟩,N⟩;have j:=(lo.alloc _).call f;have A:=(hi.alloc _).call f;have z:=(pr.alloc _).call f;have i:=(re.alloc _).call f;have u:=(At4.new wr 76 0 0 0 0).call f;have I:Hid (Below B w w1):=(HB.alloc oM _).trans (f.mono (by simp;omega));clear f p0 p1 p2 p3 pf l0 l1 l2 l3 lf E L J G hf lo hi pr re;generalize hn:wr.heap.size=k4 at u z0 z1 z2 z3⊢;clear hn;have m0:B≠k4:=oM;have m1:k1≠k4:=oM;have m2:k2≠k4:=oM;have m3:C≠k4:=oM;have M:Hid (B<k4):=z0;clear z0 z1 z2 z3;have z0:=z.lt;have z1:=j.lt;have z2:=A.lt;have z3:=i.lt;have z4:=u.lt;have D:Hid (g0*val p q r s+val a b c d=l+18446744073709551616*t/\t=val T O V Z):=⟨N.symm,K⟩
     have HL:Hid (_/\_):=h9;clear N K h9 hg;obtain⟨p0,p1,p2,p3,pf⟩:=id z;obtain⟨l0,l1,l2,l3,lf⟩:=id j;obtain⟨E,L,J,G,hf⟩:=id A;obtain⟨t0,t1,t2,t3,tf⟩:=id u;go_wp2;go_region
     go_wp2;obtain⟨q1,q2,q3⟩:=H.out;have X:=H0.out;subst q1 q2 q3 X;go_roundg (val l T O V+top*val Z 0 0 0)
     case measure=>rw[C6 D.1 D.2];exact HL.1
     case rel =>
      refine⟨l,T,O,V,Z,0,0,0,⟨?_,?_,?_,?_,?_,hl,W,Y,U,R,dC,dC,dC⟩,rfl,?_⟩
      ·have s1:=(I.setCell (p:=⟨w.heap.size+1,0,none⟩) (yBW _) (uZ l))
       exact(aK (aK (aK s1 (yAl M.out) _ _ _ _) (yBW _) _ _ _ _) oM _ _ _ _).drew
      ·exact((((z.other S.symm _).other4 m0.symm _ _ _ _).other4 S.symm _ _ _ _).other4 k8.symm _ _ _ _).drew
      ·exact((((j.set0 l).other4 m1.symm _ _ _ _).self4 l T O V).other4 n12.symm _ _ _ _).drew
      ·exact((((A.other n12 _).other4 m2.symm _ _ _ _).other4 n12 _ _ _ _).self4 Z 0 0 0).drew
      ·exact((((i.other Q _).other4 m3.symm _ _ _ _).other4 Q _ _ _ _).other4 k6 _ _ _ _).drew
      ·unfold Hid;rw[C6 D.1 D.2,<-HE.out];exact HL.2
    ·go_wp2_with fail
     refine(kF g0 _ _ _ _ hu (Four.mk hp hq hr hs rfl) (Four.mk ha hb hc hd rfl) _).mono ?_;rintro e w1 ⟨v,rfl,f,l,v4,t,rfl,hl,⟨T,O,V,Z,rfl,W,Y,U,R,K⟩,N⟩;have j:=(lo.alloc _).call f;have A:=(hi.alloc _).call f;have z:=(pr.alloc _).call f;have i:=(re.alloc _).call f;have u:=(At4.new wr 76 0 0 0 0).call f;have I:Hid (Below B w w1):=(HB.alloc oM _).trans (f.mono (by simp;omega));clear f p0 p1 p2 p3 pf l0 l1 l2 l3 lf E L J G hf lo hi pr re;generalize hn:wr.heap.size=k4 at u z0 z1 z2 z3⊢;clear hn;have m0:B≠k4:=oM;have m1:k1≠k4:=oM;have m2:k2≠k4:=oM;have m3:C≠k4:=oM;have M:Hid (B<k4):=z0;clear z0 z1 z2 z3;have kd:Hid (l+18446744073709551616*val T O V Z=g0*val p q r s+val a b c d):=by unfold Hid;rw[<-K];exact N
     have HL:Hid (_/\_):=h9;clear N K h9 hg;have z0:=z.lt;have z1:=j.lt;have z2:=A.lt;have z3:=i.lt;have z4:=u.lt;obtain⟨p0,p1,p2,p3,pf⟩:=id z;obtain⟨l0,l1,l2,l3,lf⟩:=id j;obtain⟨E,L,J,G,hf⟩:=id A;obtain⟨t0,t1,t2,t3,tf⟩:=id u;go_wp2_with fail
     refine(kF g1 _ _ _ _ kb (Four.mk hp hq hr hs rfl) (Four.mk W Y U R rfl) _).mono ?_;rintro e w2 ⟨v,rfl,D,l',v5,t,rfl,kl,⟨a2,b2,c2,d2,rfl,kr,kh,kp,kn,K⟩,N⟩;have h8:=((j.set0 l).other4 m1.symm _ _ _ _).call D;have h6:=((A.other n12 _).other4 m2.symm _ _ _ _).call D;have h5:=((z.other S.symm _).other4 m0.symm _ _ _ _).call D;have ht:=((i.other Q _).other4 m3.symm _ _ _ _).call D;have h7:=((u.other m1 _).self4 T O V Z).call D;have ke:Hid (Below B w w2):=((aK (I.setCell (p:=⟨k1,0,none⟩) kf.out _) (yAl M.out) _ _ _ _).trans (D.mono (by simp;omega)))
     clear D p0 p1 p2 p3 pf l0 l1 l2 l3 lf E L J G hf t0 t1 t2 t3 tf j A z i u I z0 z1 z2 z3 z4;have ka:Hid (l'+18446744073709551616*val a2 b2 c2 d2=g1*val p q r s+val T O V Z):=by unfold Hid;rw[<-K];exact N
     clear N K;have z0:=h5.lt;have z1:=h8.lt;have z2:=h6.lt;have z3:=ht.lt;have z4:=h7.lt;obtain⟨p0,p1,p2,p3,pf⟩:=id h5;obtain⟨l0,l1,l2,l3,lf⟩:=id h8;obtain⟨E,L,J,G,hf⟩:=id h6;obtain⟨t0,t1,t2,t3,tf⟩:=id h7;go_wp2_with fail
     refine(kF g2 _ _ _ _ k7 (Four.mk hp hq hr hs rfl) (Four.mk kr kh kp kn rfl) _).mono ?_;rintro e w3 ⟨v,rfl,F,h4,v6,t,rfl,kc,⟨a3,b3,c3,d3,rfl,kk,hw,ko,kt,K⟩,N⟩;have hm:=((h8.set1 l').other4 m1.symm _ _ _ _).call F;have hj:=((h6.other n12 _).other4 m2.symm _ _ _ _).call F;have ki:=((h5.other S.symm _).other4 m0.symm _ _ _ _).call F;have k5:=((ht.other Q _).other4 m3.symm _ _ _ _).call F;have kg:=((h7.other m1 _).self4 a2 b2 c2 d2).call F;have km:Hid (Below B w w3):=((aK (ke.setCell (p:=⟨k1,1,none⟩) kf.out _) (yAl M.out) _ _ _ _).trans (F.mono (by simp;omega)))
     clear F p0 p1 p2 p3 pf l0 l1 l2 l3 lf E L J G hf t0 t1 t2 t3 tf h8 h6 h5 ht h7 ke z0 z1 z2 z3 z4;have kj:Hid (h4+18446744073709551616*val a3 b3 c3 d3=g2*val p q r s+val a2 b2 c2 d2):=by unfold Hid;rw[<-K];exact N
     clear N K;have z0:=ki.lt;have z1:=hm.lt;have z2:=hj.lt;have z3:=k5.lt;have z4:=kg.lt;obtain⟨l0,l1,l2,l3,lf⟩:=id hm;obtain⟨E,L,J,G,hf⟩:=id hj;obtain⟨t0,t1,t2,t3,tf⟩:=id kg;go_wp2;go_region
     go_wp2;clear l0 l1 l2 l3 lf E L J G hf t0 t1 t2 t3 tf;obtain⟨q1,q2,q3⟩:=H.out;have X:=H0.out;subst q1 q2 q3 X;go_roundg (val l l' h4 a3+top*val b3 c3 d3 0)
     case measure=>rw[yR kd.out ka.out kj.out];exact HL.1
     case rel =>
      refine⟨l,l',h4,a3,b3,c3,d3,0,⟨?_,?_,?_,?_,?_,hl,kl,kc,kk,hw,ko,kt,dC⟩,rfl,?_⟩
      ·have s1:=(km.setCell (p:=⟨w.heap.size+1,2,none⟩) (yBW _) (uZ h4))
       have s2:=(aK s1 (yAl M.out) (uZ a3) (uZ b3) (uZ c3) (uZ d3))
       exact(aK (s2.setCell (p:=⟨w.heap.size+1,3,none⟩) (yBW _) (uZ a3)) oM _ _ _ _).drew
      ·exact((((ki.other S.symm _).other4 m0.symm _ _ _ _).other S.symm _).other4 k8.symm _ _ _ _).drew
      ·exact((((hm.set2 h4).other4 m1.symm _ _ _ _).set3 a3).other4 n12.symm _ _ _ _).drew
      ·exact((((hj.other n12 _).other4 m2.symm _ _ _ _).other n12 _).self4 b3 c3 d3 0).drew
      ·exact((((k5.other Q _).other4 m3.symm _ _ _ _).other Q _).other4 k6 _ _ _ _).drew
      ·unfold Hid;rw[yR kd.out ka.out kj.out,<-HE.out];exact HL.2
end
section
structure At8(w:Xs)(k a b c d e f g h:Nat):Prop where
 c0:w.cell? ⟨k,0,none⟩=some (uZ a)
 c1:w.cell? ⟨k,1,none⟩=some (uZ b)
 c2:w.cell? ⟨k,2,none⟩=some (uZ c)
 c3:w.cell? ⟨k,3,none⟩=some (uZ d)
 c4:w.cell? ⟨k,4,none⟩=some (uZ e)
 c5:w.cell? ⟨k,5,none⟩=some (uZ f)
 c6:w.cell? ⟨k,6,none⟩=some (uZ g)
 c7:w.cell? ⟨k,7,none⟩=some (uZ h)
 fz:∀o,w.frozen? ⟨k,o,none⟩=false
variable {w w1:Xs}{k a b c d e f g h:Nat}
theorem At8.made(w:Xs)(t:Yd)(a b c d e f g h:Nat){k:Nat}(i:w.heap.size=k):At8 (w.alloc (.cells #[uZ a,uZ b,uZ c,uZ d,uZ e,uZ f,uZ g,uZ h] t)) k a b c d e f g h:=by
 subst i;exact⟨by rw[Yp];rfl,by rw[Yp];rfl,by rw[Yp];rfl,by rw[Yp];rfl,by rw[Yp];rfl,by rw[Yp];rfl,by rw[Yp];rfl,by rw[Yp];rfl,λo=>Zn _ _ _ _⟩
theorem nE{B:Nat}{k:Xs}(H:Below B k w)(q:Nat):Below B k (w.drewN q):=⟨H.os,H.tape,H.output,H.size,H.block⟩
end
section
variable {P:Nat}[NeZero P]{N:Nat}
structure Gap(g0 g1 g2 P:Nat):Prop where
 h0:g0<18446744073709551616
 h1:g1<18446744073709551616
 h2:g2<18446744073709551616
 hor:(g1=0/\g2=0)\/∃o:Nat,bits .or .u64 (g1:Int) (g2:Int)=(o:Int)/\o≠0
 hP:P+val g0 g1 g2 0=top
 hP2:top<2*P
 hg:0<val g0 g1 g2 0
theorem zO{k a b c d:Nat}{w W e:Xs}(h:Hid (Below k w W))(pr:At4 W k a b c d)(f:kZ W e):Hid (Below k w e):=h.trans (f.mono (yAl pr.lt))
end
section
structure Blk where
 k:Nat
 o:Nat
 a:Nat
 b:Nat
 c:Nat
 d:Nat
structure Blk.at(x:Blk)(w:Xs):Prop where
 c0:w.cell? ⟨x.k,x.o,none⟩=some (uZ (x.a:Int))
 c1:w.cell? ⟨x.k,x.o+1,none⟩=some (uZ (x.b:Int))
 c2:w.cell? ⟨x.k,x.o+2,none⟩=some (uZ (x.c:Int))
 c3:w.cell? ⟨x.k,x.o+3,none⟩=some (uZ (x.d:Int))
 f:∀o,w.frozen? ⟨x.k,o,none⟩=false
structure Kept(w:Xs)(k0:Nat)(l:List Blk)(W:Xs):Prop where
 bl:Below k0 w W
 le:k0<=W.heap.size
 at':∀x∈l,x.at W
variable {w W w1:Xs}{k0:Nat}{l:List Blk}{x:Blk}
theorem Blk.at.lt(h:x.at W):x.k<W.heap.size:=ZZ _ _ h.c0
theorem Blk.at.call(h:x.at W)(k:kZ W w1):x.at w1:=
 ⟨by rw[k.cell (p:=⟨x.k,x.o,none⟩) h.lt];exact h.c0,by rw[k.cell (p:=⟨x.k,x.o+1,none⟩) h.lt];exact h.c1,by rw[k.cell (p:=⟨x.k,x.o+2,none⟩) h.lt];exact h.c2,by rw[k.cell (p:=⟨x.k,x.o+3,none⟩) h.lt];exact h.c3,
  λo=>by rw[k.frozen (p:=⟨x.k,o,none⟩) h.lt];exact h.f o⟩
theorem Blk.at.other{j i : Nat}(h : x.at W)(hj : j ≠ x.k)(v : Xu): x.at (W.setCell ⟨j, i, none⟩ v) :=
  ⟨by rw [XZ _ _ _ _ (bI (X9 hj))]; exact h.c0, by rw [XZ _ _ _ _ (bI (X9 hj))]; exact h.c1,
   by rw [XZ _ _ _ _ (bI (X9 hj))]; exact h.c2, by rw [XZ _ _ _ _ (bI (X9 hj))]; exact h.c3, λo => by rw [YN]; exact h.f o⟩
theorem Kept.call(h:Kept w k0 l W)(k:kZ W w1):Kept w k0 l w1:=
 ⟨h.bl.trans (k.mono h.le),XB h.le k.size,λx hx=>(h.at' x hx).call k⟩
theorem Kept.drew(h:Kept w k0 l W):Kept w k0 l W.drew:=⟨h.bl.drew,h.le,λx hx=>⟨(h.at' x hx).c0,(h.at' x hx).c1,(h.at' x hx).c2,(h.at' x hx).c3,(h.at' x hx).f⟩⟩
theorem Kept.undrew(h:Kept w k0 l W.drew):Kept w k0 l W:=
 ⟨⟨h.bl.os,h.bl.tape,h.bl.output,h.bl.size,h.bl.block⟩,h.le,λx hx=>⟨(h.at' x hx).c0,(h.at' x hx).c1,(h.at' x hx).c2,(h.at' x hx).c3,(h.at' x hx).f⟩⟩
theorem Kept.alloc(h:Kept w k0 l W)(o:Obj):Kept w k0 l (W.alloc o):=h.call (aC W o)
theorem Kept.set{j i:Nat}(h:Kept w k0 l W)(k:k0<=j)(b:∀x∈l,j≠x.k)(v:Xu):Kept w k0 l (W.setCell ⟨j,i,none⟩ v):=
 ⟨h.bl.setCell (p:=⟨j,i,none⟩) k v,by simpa using h.le,λx hx=>(h.at' x hx).other (b x hx) v⟩
theorem Kept.set4{j:Nat}(h:Kept w k0 l W)(k:k0<=j)(b:∀x∈l,j≠x.k)(p q r s:Xu):Kept w k0 l (Go.Proofs.YtlofhpkoaljmeaaGreat.set4 W j p q r s):=
 (((h.set k b p).set k b q).set k b r).set k b s
theorem Kept.set4'{j:Nat}(h:Kept w k0 l W)(k:k0<=j)(b:∀x∈l,j≠x.k)(p q r s:Xu):
 Kept w k0 l ((((W.setCell (aZ j) p).setCell ⟨j,1,none⟩ q).setCell ⟨j,2,none⟩ r).setCell ⟨j,3,none⟩ s):=h.set4 k b p q r s
theorem Kept.lts(h:Kept w k0 l W):∀x∈l,x.k<W.heap.size:=λx hx=>(h.at' x hx).lt
theorem Kept.head(h:Kept w k0 (x :: l) W):x.at W:=h.at' x (YC)
theorem Kept.tail(h:Kept w k0 (x :: l) W):Kept w k0 l W:=⟨h.bl,h.le,λy k=>h.at' y (Ym _ k)⟩
theorem At4.blk{k a b c d:Nat}(h:At4 W k a b c d):(Blk.mk k 0 a b c d).at W:=⟨h.c0,h.c1,h.c2,h.c3,h.f⟩
theorem Blk.at.at4{k a b c d:Nat}(h:(Blk.mk k 0 a b c d).at W):At4 W k a b c d:=⟨h.c0,h.c1,h.c2,h.c3,h.f⟩
theorem Kept.mk1(b:Below k0 w W)(k:k0<=W.heap.size):Kept w k0 [] W:=⟨b,k,λ_ h=>by cases h⟩
theorem Kept.cons(h:Kept w k0 l W)(hx:x.at W):Kept w k0 (x :: l) W:=
 ⟨h.bl,h.le,λy b=>by rcases YX.1 b with rfl|k;exact hx;exact h.at' y k⟩
theorem Kept.put{j a b c d:Nat}(h:Kept w k0 (⟨j,0,a,b,c,d⟩ :: l) W)(k:k0<=j)(e:∀x∈l,j≠x.k)(x y z t:Nat):
 Kept w k0 (⟨j,0,x,y,z,t⟩ :: l) ((((W.setCell (aZ j) (uZ x)).setCell ⟨j,1,none⟩ (uZ y)).setCell ⟨j,2,none⟩ (uZ z)).setCell ⟨j,3,none⟩ (uZ t)):=
 (h.tail.set4' k e _ _ _ _).cons (h.head.at4.self4 x y z t).blk
end
end Go.Proofs.YtlofhpkoaljmeaaGreat
