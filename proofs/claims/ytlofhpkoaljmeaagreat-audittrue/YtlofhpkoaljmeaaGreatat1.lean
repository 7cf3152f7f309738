import Derived.Test.YtlofhpkoaljmeaaGreatProg
import Derived.Sort.Row
import Derived.WalkKit
import Derived.ProofKit
import Derived.Below
import Derived.Deep.MidRow
import Derived.KernelRfl
import Derived.Test.YtlofhpkoaljmeaaGreatRows
import Derived.Lib.Mul64
import Derived.Laws.Bits64b
import Derived.Laws.Externs
import Derived.Deep.LoopGhost
import Derived.Deep.QuietTactic
import Derived.StillTailTactics
import Derived.BigRegion
import Derived.BigQuiet
import Derived.WalkSpells
import Derived.WalkLawsBesides
import Derived.OrdersHeld
import Derived.Orders
import Derived.Deep.CutRange
import Derived.Deep.Draws
set_option linter.unusedVariables false
set_option linter.defProp false
set_option linter.constructorNameAsVariable false
set_option linter.unusedSimpArgs false
set_option maxRecDepth 1000000
set_option maxHeartbeats 4000000
namespace Go.Proofs.YtlofhpkoaljmeaaGreat
theorem yE3{c:Prop}{h:Decidable c}(hc:c){α:Sort _}{t e:α}:ite c t e=t:=if_pos hc
theorem yE4{c:Prop}{h:Decidable c}(hc:¬c){α:Sort _}{t e:α}:ite c t e=e:=if_neg hc
theorem yE5:True:=True.intro
open _root_.Array renaming all_eq_true'->ZJ,any_eq_true'->yAF,getD_eq_getD_getElem?->XU,getElem?_eq_getElem->Ye,getElem?_eq_none->ZY,getElem?_eq_some_iff->X9,getElem?_replicate->yAZ,getElem?_setIfInBounds->ZF,getElem?_toList->YI,mapM_eq_mapM_toList->yAl,replicate->XW,size_setIfInBounds->YT
open _root_.Bool renaming and_eq_true->XZ,or_false->ZO,true_or->yAU
open _root_.Classical renaming byContradiction->Zw
open _root_.Fin renaming ext->yA4,val->yDZ,val_mul->yAw
open _root_.Go renaming Calls->ZI,Exit->yAN,FuncId->ZZ,Oper->Yw,Operand->yAp,Program->YO,Tmp->ZC,TypeId->Yj,Value->XG,World->XF,bodyPost_ret->XR,execOp->Ym,run_loadVar_mid->yAH,undef->ZB
open _root_.Go.Code renaming region->Zg
open _root_.Go.Instr renaming alloc->yEu,indexAt->YV,loadAt->yCm,sliceAt->ZH,storeAt->yBk,sureAddr->yAP
open _root_.Go.IntKind renaming u64->Yy,wrap_u64->ZX
open _root_.Go.Lib renaming half_mul_le->yCH
open _root_.Go.Next renaming value->ZW
open _root_.Go.Oper renaming upon_enter->ZU,wp->Y8
open _root_.Go.Region renaming binds->Y3,ready->Yq,wanted->Zd
open _root_.Go.Result renaming andThen->yCF
open _root_.Go.RowKit renaming Below->yDl
open _root_.Go.Sem renaming run_bind->X6
open _root_.Go.World renaming alloc->yAo,block_lt_of_cell?->yAa,cell?->YY,cell?_alloc_new->Yz,cell?_of_block->Yb,cell?_setCell_other->Yc,cell?_setCell_same->Zf,frozen?_alloc_new->Zz,frozen?_setCell->YX,setCells->yBv,size_alloc->XS
open _root_.Int renaming add_zero->yCE,eq_ofNat_of_zero_le->yDc,natCast_zero->ZG
open _root_.List renaming all_eq_true->Yv,append_nil->yAt,countP_cons->yDT,find?_some->yAX,getD_eq_getElem?_getD->Zn,getElem?_append_left->X1,getElem?_append_right->X4,getElem?_cons_succ->Yl,getElem?_cons_zero->Yn,getElem?_drop->yCa,getElem?_eq_getElem->XV,getElem?_eq_none->ZR,getElem?_eq_some_iff->XT,getElem?_map->YC,getElem?_of_mem->ZK,getElem?_take->ZE,length_append->XP,length_cons->YA,length_drop->yCy,length_map->X7,length_nil->ZD,length_take->Z8,mapM_cons->yBB,mapM_nil->yBN,map_append->Y5,map_cons->yAg,map_inj_left->yCh,mem_cons->Zc,mem_cons_of_mem->Yx,mem_cons_self->YL,mem_of_find?_eq_some->ZM,mem_of_getElem?->YZ,mem_range->Y9,mem_zipIdx_iff_getElem?->yBo,not_mem_nil->Yf,range->YB,size_toArray->YJ
open _root_.Nat renaming Coprime->yCD,add_mod->yB8,add_mod_right->yDQ,add_mul->yAB,add_mul_mod_self_left->yBD,add_sub_cancel_left->ZN,add_zero->yAi,ble_eq->yET,dvd_of_mod_eq_zero->yAD,dvd_trans->yB7,eq_zero_of_dvd_of_lt->yBJ,gcd->yDP,gcd_dvd_left->yCA,gcd_dvd_right->yCo,le_of_ble_eq_true->YM,le_of_dvd->yAW,le_of_lt->yAm,le_refl->XH,le_succ->yB6,le_total->yEw,le_trans->XN,lt_of_lt_of_le->XI,lt_of_succ_le->Z7,mod_add_mod->yEc,mod_eq_of_lt->Ya,mod_eq_sub_mod->yDF,mod_eq_zero_of_dvd->yBb,mod_lt->Zi,mod_mod->yEI,mod_mod_of_dvd->yCd,mod_mul_mod->yEb,mul_add->yBa,mul_assoc->yAO,mul_comm->YN,mul_le_mul->ZP,mul_left_comm->yCn,mul_mod->yAz,mul_one->yAe,mul_zero->yCQ,ne_of_lt->Z9,one_mul->Z6,pow_add->yA9,pow_dvd_pow->yEa,pow_mod->yDp,pow_mul->yCC,pow_one->yBG,pow_succ->Zr,pow_zero->yBA,strongRecOn->yD9,zero_add->XQ,zero_le->Zq,zero_mul->yDA,zero_pow->yEv
open _root_.Nat.Coprime renaming mul_dvd_of_dvd_of_dvd->ZQ
open _root_.Option renaming isSome_iff_exists->YP,map_eq_some_iff->XK,some->X5
open _root_.Or renaming inl->Yk,inr->Yd
open _root_.Prod renaming mk->Zl
open Go.Proofs.Tryz
open Go.RowKit Go.Sort
abbrev uZ(n:Int):XG:=.int .u64 n
abbrev iZ(n:Int):XG:=.int .i64 n
abbrev aZ(k:Nat):Go.Addr:=⟨k,0,none⟩
abbrev jZ(k:Nat):XG:=.pointer (some ⟨k,0,none⟩)
abbrev sZ(k n c:Nat):XG:=.slice (some ⟨k,0,none⟩) n c
abbrev oZ(k o:Nat):XG:=.pointer (some ⟨k,o,none⟩)
abbrev qZ(k o n c:Nat):XG:=.slice (some ⟨k,o,none⟩) n c
abbrev nZ:XG:=.slice none 0 0
abbrev tZ:XG:=.bool true
abbrev fZ:XG:=.bool false
abbrev lZ(w:XF)(c:List XG)(T:Yj):XF:=w.alloc (.cells c.toArray T)
abbrev gZ(T:Yj)(n:Nat):Prop:=(prog.info? T).map (·.size)=some n
abbrev yZ(T:Yj):Prop:=(prog.underlying T).map (·.isRow)=some true
abbrev wZ(T:Yj):Prop:=(prog.underlying T).map (·.isRow)=some false
abbrev cZ(f:Go.FuncId)(a:Array XG)(w:XF)(Q:Go.Ending->XF->Prop):Prop:=Go.Calls prog f a w Q
theorem gQ{T:Yj}{n:Nat}(h:(prog.info? T).map (·.size)=some n:=by kernel_rfl):gZ T n:=h
theorem yQ{T:Yj}(h:(prog.underlying T).map (·.isRow)=some true:=by kernel_rfl):yZ T:=h
theorem wQ{T:Yj}(h:(prog.underlying T).map (·.isRow)=some false:=by kernel_rfl):wZ T:=h
theorem vH{α:Sort _}(x:α):∃y,x=y:=⟨x,rfl⟩
theorem yH{α:Sort _}(x:α):∃y,Go.RowKit.Hid (x=y):=⟨x,rfl⟩
theorem oN{p q:Prop}(h:q)(k:q->p:=by intro _;omega):p:=k h
section
variable {P:Nat}[NeZero P]{N:Nat}
def oM{p:Prop}(h:p:=by omega):p:=h
def kR{p:Prop}(h:p:=by kernel_rfl):p:=h
def dC{p:Prop}(h:p:=by decide):p:=h
def dK{p:Prop}(h:p:=by decide +kernel):p:=h
end
section
def hE{α:Sort _}(x:α):∃y,Hid (x=y):=⟨x,rfl⟩
def mk1{p:Prop}(h:p):Hid p:=h
def mk2{p0 p1:Prop}(k:p0)(b:p1):Hid (p0/\p1):=⟨k,b⟩
def mk3{p0 p1 p2:Prop}(k:p0)(b:p1)(c:p2):Hid (p0/\p1/\p2):=⟨k,b,c⟩
def mk4{p0 p1 p2 k:Prop}(b:p0)(d:p1)(e:p2)(c:k):Hid (p0/\p1/\p2/\k):=⟨b,d,e,c⟩
def mk5{p0 p1 p2 k b:Prop}(d:p0)(f:p1)(g:p2)(e:k)(c:b):Hid (p0/\p1/\p2/\k/\b):=⟨d,f,g,e,c⟩
def mk6{p0 p1 p2 k c b:Prop}(e:p0)(g:p1)(i:p2)(f:k)(d:c)(j:b):Hid (p0/\p1/\p2/\k/\c/\b):=⟨e,g,i,f,d,j⟩
def mk7{p0 p1 p2 k c b p6:Prop}(e:p0)(i:p1)(j:p2)(f:k)(d:c)(l:b)(g:p6):Hid (p0/\p1/\p2/\k/\c/\b/\p6):=⟨e,i,j,f,d,l,g⟩
def mk8{p0 p1 p2 k c b p6 p7:Prop}(e:p0)(i:p1)(l:p2)(f:k)(d:c)(m:b)(g:p6)(j:p7):Hid (p0/\p1/\p2/\k/\c/\b/\p6/\p7):=⟨e,i,l,f,d,m,g,j⟩
section
variable {P:YO}{ops:Array Yw}{rest:List Yw}{op:Yw}{a:Act}{w w':XF}{Q:yAN->Act->XF->Prop}{T:Yj}{y:yAp}{g o:Nat}{cs:List XG}{v:XG}{ob:Obj}
def stR(t:ZC)(b:Hid (w.setCells g o cs=w'))(hv:Hid (.agg cs.toArray=v))(th:w.there g o cs.toArray.size)(c:(P.info? T).map (·.size)=some cs.toArray.size)(e:cs.toArray.all (·.oneCell')=true)(h:wpList P ops Q rest (a.put op.dst ZB) w')(k:op.guard=none:=by rfl)(ho:op.op=.store T (.tmp t) y:=by rfl)(hx:a.eval (.tmp t)=oZ g o:=by rfl)(d:a.eval y=v:=by rfl):wpList P ops Q (op :: rest) a w:=
 wpList_store_mid k T (.tmp t) y ho g o cs.toArray hx (d.trans hv.symm) th c e (by rw[show cs.toArray.toList=cs from rfl,b.out];exact h)
def ldR(t:ZC)(i:w.rangeAt g o cs)(hv:Hid (.agg cs.toArray=v))(c:(P.underlying T).map (·.isRow)=some true)(b:(P.info? T).map (·.size)=some cs.length)(h:wpList P ops Q rest (a.put op.dst v) w)(k:op.guard=none:=by rfl)(ho:op.op=.load T (.tmp t):=by rfl)(hx:a.eval (.tmp t)=oZ g o:=by rfl):wpList P ops Q (op :: rest) a w:=by
 obtain⟨d,e,f⟩:=XK.1 c;exact wpList_load_mid k T (.tmp t) ho g o hx cs d i e f b (hv.out▸h)
def alR(t:ZC)(c:Hid (w.heap.size=g))(b:Hid (w.alloc ob=w'))(h:wpList P ops Q rest (a.put op.dst (jZ g)) w')(hd:op.dst=some t:=by rfl)(k:op.guard=none:=by rfl)(e:(Ym a.eval op).run P w=.ok (.value (jZ w.heap.size)) (w.alloc ob):=by kernel_rfl):wpList P ops Q (op :: rest) a w:=
 wpList_plain k λK d=>by
  unfold Y8;rw[e,c.out,b.out];exact d _ _ h
end
end
section
variable {P:Nat}[NeZero P]{N:Nat}
def val(a b c d:Nat):Nat:=a+18446744073709551616*b+340282366920938463463374607431768211456*c+6277101735386680763835789423207666416102355444464034512896*d
def Four(v:XG)(n:Nat):Prop:=∃a b c d:Nat,v=.agg #[uZ a,uZ b,uZ c,uZ d] /\
 a<2^64/\b<2^64/\c<2^64/\d<2^64/\n=val a b c d
def top:Nat:=115792089237316195423570985008687907853269984665640564039457584007913129639936
def nM{a b c d:Nat}(e:a<2^64)(k:b<2^64)(f:c<2^64)(hd:d<2^64):val a b c d<top:=by
 unfold val top;omega
def Four.lt{v:XG}{n:Nat}(h:Four v n):n<top:=by
 obtain⟨a,b,c,d,-,e,k,f,hd,rfl⟩:=h;exact nM e k f hd
def val_inj{a b c d p q r s:Nat}(f:a<2^64)(e:b<2^64)(j:c<2^64)
 (g:p<2^64) (k:q<2^64) (i:r<2^64) (h:val a b c d=val p q r s):a=p/\b=q/\c=r/\d=s:=by
 unfold val at h;omega
def Four.inj{v k:XG}{n:Nat}(h:Four v n)(m:Four k n):v=k:=by
 obtain⟨a,b,c,d,rfl,j,o,l,hd,e⟩:=h;obtain⟨p,q,r,s,rfl,f,i,g,t,e'⟩:=m;obtain⟨rfl,rfl,rfl,rfl⟩:=val_inj j o l f i g (e.symm.trans e');rfl
def Four.num{v:XG}{n m:Nat}(h:Four v n)(k:Four v m):n=m:=by
 obtain⟨a,b,c,d,rfl,l,t,o,hd,rfl⟩:=h;obtain⟨p,q,r,s,e,f,i,g,j,rfl⟩:=k;simp only[Value.agg.injEq,Array.mk.injEq,List.cons.injEq,Value.int.injEq,true_and,and_true,Int.ofNat_inj]at e;obtain⟨rfl,rfl,rfl,rfl⟩:=e;rfl
def Four.mk{a b c d n:Nat}(f:a<2^64)(e:b<2^64)(g:c<2^64)(hd:d<2^64)(k:n=val a b c d):
 Four (.agg #[uZ a,uZ b,uZ c,uZ d]) n:=⟨a,b,c,d,rfl,f,e,g,hd,k⟩
def ret_int{k:IntKind}{a b:Int}(h:a=b):Ending.returned (.int k a)=.returned (.int k b):=by rw[h]
def mixed:prog.follows .mixedOrders=true:=kR
def Hz{x y c:Nat}(hx:x<2^64)(d:y<2^64)(b:c<=1):
 ∃s k:Nat,(∀w,(callFunc 102 #[uZ x,uZ y,uZ c]).run prog w=.ok (.value (.tuple #[uZ s,uZ k])) w) /\
  s<2^64/\k<=1/\s+18446744073709551616*k=x+y+c:=by
 refine⟨(x+y+c)%18446744073709551616,(x+y+c)/18446744073709551616,λw=>?_,oM,oM,oM⟩;rw[run_callFunc_extern func102 kR kR kR (e:=add64Entry) kR,run_add64 x y c oM oM oM oM];simp only[yCF]
 congr 5<;>omega
def FZ{x y c:Nat}(hx:x<2^64)(d:y<2^64)(b:c<=1):
 ∃s k:Nat,(∀w,(callFunc 214 #[uZ x,uZ y,uZ c]).run prog w=.ok (.value (.tuple #[uZ s,uZ k])) w) /\
  s<2^64/\k<=1/\s+y+c=x+18446744073709551616*k:=by
 refine⟨(x+18446744073709551616-y-c)%18446744073709551616,if x<y+c then 1 else 0,λw=>?_,oM,by split<;>omega,by split<;>omega⟩;rw[run_callFunc_extern func214 kR kR kR (e:=(Extern.MathBitsCarry.rows[1]).2) kR];have:c=0\/c=1:=oM;rcases this with rfl|rfl<;>rfl
def Aj{x y:Nat}(hx:x<2^64)(b:y<2^64):
 ∃s k:Nat,(∀w,(callFunc 102 #[uZ x,uZ y,uZ 0]).run prog w=.ok (.value (.tuple #[uZ s,uZ k])) w) /\
  s<2^64/\k<=1/\s+18446744073709551616*k=x+y:=Hz hx b (Zq 1)
def QX{x y:Nat}(hx:x<2^64)(b:y<2^64):
 ∃s k:Nat,(∀w,(callFunc 214 #[uZ x,uZ y,uZ 0]).run prog w=.ok (.value (.tuple #[uZ s,uZ k])) w) /\
  s<2^64/\k<=1/\s+y=x+18446744073709551616*k:=FZ hx b (Zq 1)
def maskN{a:Nat}(k:a<2^64):bits .and .u64 (a:Int) 4294967295=((a%4294967296:Nat):Int):=by
 have h:=bits_and_u64_nat a 4294967295 k oM;rw[show a &&& 4294967295=a%4294967296 from Nat.and_two_pow_sub_one_eq_mod a 32]at h;exact h
def divN(a:Nat):(a:Int)/4294967296=((a/4294967296:Nat):Int):=oM
def mulN(a b:Nat):(a:Int)*(b:Int)=((a*b:Nat):Int):=(Int.natCast_mul a b).symm
def addN(a b:Nat):(a:Int)+(b:Int)=((a+b:Nat):Int):=(Int.natCast_add a b).symm
def wrapN{a:Nat}(k:a<2^64):Yy.wrap (a:Int)=(a:Int):=by rw[ZX];omega
def wrapM(a:Nat):Yy.wrap (a:Int)=((a%18446744073709551616:Nat):Int):=by rw[ZX];omega
def Sr(x y:Nat)(hx:x<2^64)(d:y<2^64)(w:XF):
 ZI prog 208 #[uZ x,uZ y] w λe w'=>e=.returned (.tuple #[uZ ((x*y/18446744073709551616:Nat):Int),uZ ((x*y%18446744073709551616:Nat):Int)])/\w'=w:=by
 obtain⟨g,f,bw,k⟩:=Lib.mul64_hi x y hx d;have n:=yCH (a:=x/4294967296) (b:=y/4294967296) oM oM;have bb:=yCH (a:=x/4294967296) (b:=y%4294967296) oM oM;have m:=yCH (a:=x%4294967296) (b:=y/4294967296) oM oM;have b1:x/4294967296*(y/4294967296)<2^64:=oM;have j:x/4294967296*(y%4294967296)<2^64:=oM;have l:x%4294967296*(y/4294967296)<2^64:=oM;have c:x/4294967296*(y/4294967296)+(x/4294967296*(y%4294967296)+x%4294967296*(y%4294967296)/4294967296)/4294967296<2^64:=oM;have i:x/4294967296*(y/4294967296)+(x/4294967296*(y%4294967296)+x%4294967296*(y%4294967296)/4294967296)/4294967296+((x/4294967296*(y%4294967296)+x%4294967296*(y%4294967296)/4294967296)%4294967296+x%4294967296*(y/4294967296))/4294967296<2^64:=oM;go_enter func208,ntmps208;go_wp2;simp only[maskN hx,maskN d,divN,mulN,addN,wrapN g,wrapN j,wrapN f,maskN f,wrapN l,wrapN bw,wrapN b1,wrapN c,wrapN i,wrapM (x*y)];rw[k]
 go_ret2
 exact⟨rfl,rfl⟩
def KU{x y:Nat}(hx:x<2^64)(k:y<2^64):
 ∃h l:Nat,(∀w,ZI prog 208 #[uZ x,uZ y] w λe w'=>e=.returned (.tuple #[uZ h,uZ l])/\w'=w) /\
  h<2^64/\l<2^64/\l+18446744073709551616*h=x*y:=by
 have b:x*y<=18446744073709551615*18446744073709551615:=ZP oM oM;exact⟨_,_,λw=>Sr x y hx k w,oM,oM,oM⟩
def UF{x y:Nat}{w:XF}(hx:x<2^64)(c:y<2^64):
 ZI prog 208 #[uZ x,uZ y] w λe w'=>w'=w/\∃h l:Nat,e=.returned (.tuple #[uZ h,uZ l]) /\
  h<2^64/\l<2^64/\l+18446744073709551616*h=x*y:=by
 obtain⟨h,l,b,d,g,f⟩:=KU hx c;exact(b w).mono λe w' k=>⟨k.2,h,l,k.1,d,g,f⟩
def VY(x y o c:Nat)(hx:x<2^64)(p:y<2^64)(ho:o<2^64)(r:c<2^64):
 ∃h l s1 k s2 b g d:Nat,(∀w,ZI prog 208 #[uZ x,uZ y] w λe w'=>e=.returned (.tuple #[uZ h,uZ l])/\w'=w) /\
  (∀w,(callFunc 102 #[uZ l,uZ c,uZ 0]).run prog w=.ok (.value (.tuple #[uZ s1,uZ k])) w) /\
  (∀w,(callFunc 102 #[uZ o,uZ s1,uZ 0]).run prog w=.ok (.value (.tuple #[uZ s2,uZ b])) w) /\
  Yy.wrap ((h:Int)+(k:Int))=(g:Int)/\Yy.wrap ((g:Int)+(b:Int))=(d:Int) /\
  s2<2^64/\d<2^64/\s2+18446744073709551616*d=x*y+o+c:=by
 have n:x*y<=18446744073709551615*18446744073709551615:=ZP oM oM;obtain⟨h,l,m,hh,s,u⟩:=KU hx p;obtain⟨s1,k,i,d,q,t⟩:=Aj s r;obtain⟨s2,b,a2,f,j,e3⟩:=Aj ho d;refine⟨h,l,s1,k,s2,b,h+k,h+k+b,m,i,a2,?_,?_,f,oM,oM⟩
 .rw[addN];exact wrapN oM
 .rw[addN];exact wrapN oM
def sQ(x y o c:Nat)(hx:x<2^64)(i:y<2^64)(ho:o<2^64)(n:c<2^64)(w:XF):
 ZI prog 195 #[uZ x,uZ y,uZ o,uZ c] w λe w'=>w'=w/\∃l h:Nat,e=.returned (.tuple #[uZ l,uZ h]) /\
  h<2^64/\l<2^64/\l+18446744073709551616*h=x*y+o+c:=by
 have g:x*y<=18446744073709551615*18446744073709551615:=ZP oM oM;go_enter func195,ntmps195;go_wp2_with fail
 apply(UF hx i).mono;rintro e j ⟨rfl,h,l,rfl,hh,p,t⟩;obtain⟨s1,k,r,d,m,s⟩:=Aj p ho;obtain⟨s2,b,a2,q,f,e3⟩:=Aj d n;have j:Yy.wrap ((h:Int)+(k:Int))=((h+k:Nat):Int):=by rw[addN];exact wrapN oM
 have u:Yy.wrap (((h+k:Nat):Int)+(b:Int))=((h+k+b:Nat):Int):=by rw[addN];exact wrapN oM
 go_wp2
 go_ret2
 refine⟨rfl,s2,h+k+b,?_,oM,oM,oM⟩;rfl
def Ret(Q:XG->XF->Prop)(e:Ending)(w:XF):Prop:=∃v,e=.returned v/\Q v w
abbrev rZ(w:XF)(Q:XG->XF->Prop):Go.Ending->XF->Prop:=Ret λe w'=>yDl w.heap.size w w'/\Q e w'
abbrev kZ(w W:XF):Prop:=yDl w.heap.size w W
def aC{w:XF}(k:Obj):kZ w (w.alloc k):=(Below.refl _ _).alloc (XH _) k
def below2(w:XF)(k b:Obj):kZ w ((w.alloc k).alloc b):=(aC k).alloc (by simp) b
def below3{w:XF}(k c b:Obj):kZ w (((w.alloc k).alloc c).alloc b):=(below2 w k c).alloc (by simp;omega) b
def Fx(w:XF)(b c k d:Obj):kZ w ((((w.alloc b).alloc c).alloc k).alloc d):=(below3 b c k).alloc (by simp;omega) d
def rS(x y:XG)(m n:Nat)(hx:Four x m)(E:Four y n)(w:XF):
 cZ 54 #[x,y] w (rZ w λe w'=>∃(v:XG) (s k:Nat),e=.tuple #[v,uZ k]/\Four v s/\k<=1/\s+top*k=m+n):=by
 obtain⟨a,b,c,d,rfl,H,L,K,hd,D⟩:=hx;obtain⟨p,q,r,s,rfl,C,F,hr,G,en⟩:=E;obtain⟨s0,I,a0,g,l,P⟩:=Aj H C;obtain⟨s1,J,A,i,t,O⟩:=Hz L F l;obtain⟨s2,B,a2,u,f,N⟩:=Hz K hr t;obtain⟨s3,z,M,j,o,e3⟩:=Hz hd G f;have hv:val s0 s1 s2 s3+top*z=m+n:=by rw[D,en];unfold val top;omega
 go_enter func54,ntmps54;go_wp2_with (first|simp only[a0]|simp only[A]|simp only[a2]|simp only[M])
 refine XR (v:=?v) ?hr rfl ?hR
 case hr=>simp[results,Tryz.results54,go_sem];rfl
 exact⟨_,rfl,below3 _ _ _,_,_,z,rfl,Four.mk g i u j rfl,o,hv⟩
def uE(x y:XG)(m n:Nat)(hx:Four x m)(E:Four y n)(w:XF):
 cZ 202 #[x,y] w (rZ w λe w'=>∃(v:XG) (s k:Nat),e=.tuple #[v,uZ k]/\Four v s/\k<=1/\s+n=m+top*k):=by
 obtain⟨a,b,c,d,rfl,H,L,K,hd,D⟩:=hx;obtain⟨p,q,r,s,rfl,C,F,hr,G,en⟩:=E;obtain⟨s0,I,a0,g,l,P⟩:=QX H C;obtain⟨s1,J,A,i,t,O⟩:=FZ L F l;obtain⟨s2,B,a2,u,f,N⟩:=FZ K hr t;obtain⟨s3,z,M,j,o,e3⟩:=FZ hd G f;have hv:val s0 s1 s2 s3+n=m+top*z:=by rw[D,en];unfold val top;omega
 go_enter func202,ntmps202;go_wp2_with (first|simp only[a0]|simp only[A]|simp only[a2]|simp only[M])
 refine XR (v:=?v) ?hr rfl ?hR
 case hr=>simp[results,Tryz.results202,go_sem];rfl
 exact⟨_,rfl,below3 _ _ _,_,_,z,rfl,Four.mk g i u j rfl,o,hv⟩
def jY{x:XG}{m:Nat}{w:XF}(hx:Four x m):
 cZ 55 #[x] w (rZ w λe w'=>e=x):=by
 obtain⟨a,b,c,d,rfl,g,k,i,hd,f⟩:=hx;go_enter func55,ntmps55;go_wp2;refine XR (v:=?v) ?hr rfl ?hR
 case hr=>simp[results,Tryz.results55,go_sem];rfl
 exact⟨_,rfl,below2 _ _ _,rfl⟩
def jU{x:XG}{m:Nat}{w:XF}(hx:Four x m):
 cZ 99 #[x] w (rZ w λe w'=>e=x):=by
 obtain⟨a,b,c,d,rfl,g,k,i,hd,f⟩:=hx;go_enter func99,ntmps99;go_wp2;refine XR (v:=?v) ?hr rfl ?hR
 case hr=>simp[results,Tryz.results99,go_sem];rfl
 exact⟨_,rfl,below2 _ _ _,rfl⟩
def GE(x a b c d:Nat):x*val a b c d=val (x*a) (x*b) (x*c) (x*d):=by
 unfold val;rw[yBa,yBa,yBa,yCn x _ b,yCn x _ c,yCn x _ d]
def NW{x a b c d p q r s k e f o l i j g m n:Nat}(t:m=val a b c d)(en:n=val p q r s)
 (w:k+18446744073709551616*l=x*a+p+0) (v:e+18446744073709551616*i=x*b+q+l)
 (u:f+18446744073709551616*j=x*c+r+i) (e3:o+18446744073709551616*g=x*d+s+j) :
 k+18446744073709551616*val e f o g=x*m+n:=by
 rw[t,en,GE x a b c d];unfold val;omega
def kJ(x:Nat)(y z:XG)(m n:Nat)(hx:x<2^64)(G:Four y m)(D:Four z n)(w:XF):
 cZ 154 #[uZ x,y,z] w (rZ w λe w'=>∃(l:Nat) (v:XG) (s:Nat),e=.tuple #[uZ l,v]/\l<2^64/\Four v s/\l+18446744073709551616*s=x*m+n):=by
 obtain⟨a,b,c,d,rfl,M,Q,O,hd,E⟩:=G;obtain⟨p,q,r,s,rfl,B,I,hr,J,en⟩:=D;go_enter func154,ntmps154;go_wp2_with fail
 apply(sQ x a p 0 hx M B dC _).mono;rintro e o ⟨rfl,C,P,rfl,k,f,L⟩;go_wp2_with fail
 apply(sQ x b q P hx Q I k _).mono;rintro e o ⟨rfl,R,H,rfl,j,i,K⟩;go_wp2_with fail
 apply(sQ x c r H hx O hr j _).mono;rintro e o ⟨rfl,S,N,rfl,A,g,F⟩;go_wp2_with fail
 apply(sQ x d s N hx hd J A _).mono;rintro e o ⟨rfl,U,T,rfl,t,u,e3⟩;go_wp2;refine XR (v:=?v) ?hr rfl ?hR
 case hr=>simp[results,Tryz.results154,go_sem];rfl
 exact⟨_,rfl,below3 _ _ _,C,_,_,rfl,f,Four.mk i g u t rfl,NW E en L K F e3⟩
end
namespace RG
inductive SV where
 | v (x:XG)
 | p (b o:Nat)
 | s (b n c:Nat)
 | t (b n c:Nat) (y:XG)
def SV.at(μ:Nat->Nat):SV->XG
 | .v x=>x
 | .p b o=>oZ (μ b) o
 | .s b n c=>sZ (μ b) n c
 | .t b n c y=>.tuple #[sZ (μ b) n c,y]
def SV.blk:SV->Option Nat
 | .v _=>none
 | .p b _=>some b
 | .s b _ _=>some b
 | .t b _ _ _=>some b
def SV.at_congr{μ ν:Nat->Nat}{s:SV}(h:∀b,s.blk=some b->μ b=ν b):s.at μ=s.at ν:=by
 cases s with
 | v x=>rfl
 | p b o=>show oZ (μ b) o=oZ (ν b) o;rw[h b rfl]
 | s b n c=>show sZ (μ b) n c=sZ (ν b) n c;rw[h b rfl]
 | t b n c y=>show Value.tuple #[sZ (μ b) n c,y]=.tuple #[sZ (ν b) n c,y];rw[h b rfl]
inductive Kind where
 | stay
 | pass
 | call
 | make (b:Nat)
 | put (b:Nat)
structure It where
 dst:Option ZC
 need:List (ZC × Nat)
 out:SV
 kind:Kind
structure Bl where
 before:List XG
 after:List XG
 al:Option Nat
 st:Option Nat
def on(L:Array Bool)(i:Nat):Bool:=L.getD i false
def Bl.live(e:Bl)(L:Array Bool):Bool:=(e.al.map (on L)).getD true
def Bl.put(e:Bl)(L:Array Bool):Bool:=(e.st.map (on L)).getD false
def Bl.now(e:Bl)(L:Array Bool):List XG:=if e.put L=true then e.after else e.before
def eE{L:Array Bool}{i j:Nat}(h:i<L.size):on (L.setIfInBounds i true) j=(on L j || i == j):=by
 unfold on;simp only[XU,ZF];by_cases k:i=j
 .subst k;simp[h]
 .simp[k]
def iQ{e:Bl}{L:Array Bool}{i:Nat}(h:i<L.size):e.live (L.setIfInBounds i true)=(e.live L || e.al == some i):=by
 unfold Bl.live;cases d:e.al with
 | none=>rfl
 | some j =>
  show on _ j=(on L j || _);rw[eE h];by_cases k:i=j
  .subst k;simp
  .have b:(i == j)=false:=by simpa using k
   have c:(some j == some i)=false:=by simpa using λh=>k h.symm
   rw[b,c]
def kM{e:Bl}{L:Array Bool}{i:Nat}(h:i<L.size):e.put (L.setIfInBounds i true)=(e.put L || e.st == some i):=by
 unfold Bl.put;cases d:e.st with
 | none=>rfl
 | some j =>
  show on _ j=(on L j || _);rw[eE h];by_cases k:i=j
  .subst k;simp
  .have b:(i == j)=false:=by simpa using k
   have c:(some j == some i)=false:=by simpa using λh=>k h.symm
   rw[b,c]
def range_below{B k o:Nat}{w w':XF}{cs:List XG}(h:w.rangeAt k o cs)(b:Below B w w')(c:k<B):w'.rangeAt k o cs:=λj v hv=>by
 rw[b.cell (p:=⟨k,o+j,none⟩) c];exact h j v hv
def dJ{B k o n:Nat}{w w':XF}(h:w.there k o n)(b:Below B w w')(c:k<B):w'.there k o n:=λj d=>by
 rw[b.cell (p:=⟨k,o+j,none⟩) c,b.frozen (p:=⟨k,o+j,none⟩) c];exact h j d
def below_setCells{B k:Nat}{c:XF}(b:B<=k):∀(vs:List XG) (o:Nat) (w:XF),Below B c w->Below B c (w.setCells k o vs)
 | [],_,_,h=>h
 | v :: r,o,w,h=>below_setCells b r (o+1) _ (h.setCell (p:=⟨k,o,none⟩) b v)
def setCells_size(k:Nat):∀(vs:List XG) (o:Nat) (w:XF),(w.setCells k o vs).heap.size=w.heap.size
 | [],_,_=>rfl
 | v :: r,o,w=>by
  rw[yBv,setCells_size k r (o+1)];simp[World.setCell]
def there_setCells{k b o n:Nat}:∀(vs:List XG) (i:Nat) (w:XF),w.there b o n->(w.setCells k i vs).there b o n
 | [],_,_,h=>h
 | v :: r,i,w,h=>there_setCells r (i+1) _ λj c=>⟨World.isSome_setCells k [v] i w _ (h j c).1,by rw[YX];exact(h j c).2⟩
structure BelX(k0:Nat)(X:List Nat)(w w':XF):Prop where
 os:w'.os=w.os
 tape:w'.tape=w.tape
 output:w'.output=w.output
 size:w.heap.size<=w'.heap.size
 block:∀j,j<k0->j ∉ X->w'.heap[j]? = w.heap[j]?
def BelX.below{k:Nat}{w w':XF}(h:BelX k [] w w'):Below k w w':=⟨h.os,h.tape,h.output,h.size,λj b=>h.block j b Yf⟩
def BelX.drew{k:Nat}{X:List Nat}{w w':XF}(h:BelX k X w w'):BelX k X w w'.drew:=⟨h.os,h.tape,h.output,h.size,h.block⟩
def BelX.refl(k:Nat)(X:List Nat)(w:XF):BelX k X w w:=⟨rfl,rfl,rfl,XH _,λ_ _ _=>rfl⟩
def BelX.trans{d:Nat}{X:List Nat}{a b c:XF}(h:BelX d X a b)(k:BelX d X b c):BelX d X a c:=
 ⟨k.os.trans h.os,k.tape.trans h.tape,k.output.trans h.output,XN h.size k.size,λi e hx=>(k.block i e hx).trans (h.block i e hx)⟩
structure Wd(w0:XF)(k0:Nat)(X:List Nat)(bl:List Bl)(L:Array Bool)(μ:Nat->Nat)(w:XF):Prop where
 bel:BelX k0 X w0 w
 le:k0<=w.heap.size
 has:∀(b:Nat) (e:Bl),bl[b]? = some e->e.live L=true->w.rangeAt (μ b) 0 (e.now L)/\w.there (μ b) 0 e.before.length/\μ b<w.heap.size/\(k0<=μ b\/μ b∈X)
 inj:∀(b c:Nat) (e f:Bl),bl[b]? = some e->bl[c]? = some f->e.live L=true->f.live L=true->b≠c->μ b≠μ c
variable {w0 w w':XF}{k0:Nat}{X:List Nat}{bl:List Bl}{L:Array Bool}{μ:Nat->Nat}
def Wd.same{g:Array Bool}(h:Wd w0 k0 X bl L μ w)(d:∀(b:Nat) (e:Bl),bl[b]? = some e->e.live g=e.live L/\e.put g=e.put L):Wd w0 k0 X bl g μ w:=by
 refine⟨h.bel,h.le,λb e k hv=>?_,λb c e f k i j hf=>h.inj b c e f k i ((d b e k).1 ▸ j) ((d c f i).1 ▸ hf)⟩;have:=h.has b e k ((d b e k).1 ▸ hv);unfold Bl.now at this⊢;rw[(d b e k).2];exact this
def Wd.call(h:Wd w0 k0 X bl L μ w)(c:kZ w w'):Wd w0 k0 X bl L μ w':=by
 refine⟨h.bel.trans ⟨c.os,c.tape,c.output,c.size,λk i _=>c.block k (XI i h.le)⟩,XN h.le c.size,λb e d hv=>?_,h.inj⟩;obtain⟨g,j,f,l⟩:=h.has b e d hv;exact⟨range_below g c f,dJ j c f,XI f c.size,l⟩
def upd(μ:Nat->Nat)(b k:Nat):Nat->Nat:=λc=>if c=b then k else μ c
structure Made(w:XF)(k:Nat)(c:List XG)(w':XF):Prop where
 bel:kZ w w'
 le:w.heap.size<=k
 lt:k<w'.heap.size
 range:w'.rangeAt k 0 c
 there:w'.there k 0 c.length
def Made.alloc(w:XF)(c:List XG)(t:Yj):Made w w.heap.size c (w.alloc (.cells c.toArray t)):=by
 refine⟨aC _,XH _,by rw[XS];omega,λj v k=>?_,λj k=>⟨?_,Zz _ _ _ _⟩⟩
 .rw[XQ,Yz];simpa using k
 .rw[XQ,Yz];simp[k]
def Wd.make{i b k:Nat}{e:Bl}(h:Wd w0 k0 X bl L μ w)(y:i<L.size)(z:bl[b]? = some e)(D:e.al=some i)(u:∀(c:Nat) (f:Bl),bl[c]? = some f->c≠b->f.al≠some i)
 (j:∀(c:Nat) (f:Bl),bl[c]? = some f->f.st≠some i) (q:e.put L=false) (t:Made w k e.before w') :
 Wd w0 k0 X bl (L.setIfInBounds i true) (upd μ b k) w':=by
 have o:∀(c:Nat) (f:Bl),bl[c]? = some f->f.put (L.setIfInBounds i true)=f.put L:=λc f m=>by
  rw[kM y,show(f.st == some i)=false by simpa using j c f m,ZO]
 have n:∀(c:Nat) (f:Bl),bl[c]? = some f->c≠b->f.live (L.setIfInBounds i true)=f.live L:=λc f m j=>by
  rw[iQ y,show(f.al == some i)=false by simpa using u c f m j,ZO]
 have p:∀(c:Nat) (f:Bl),bl[c]? = some f->c≠b->f.live (L.setIfInBounds i true)=true->μ c<w.heap.size:=λc f m j hv=>(h.has c f m (n c f m j ▸ hv)).2.2.1
 have l:=t.bel;have r:=t.le;refine⟨h.bel.trans ⟨l.os,l.tape,l.output,l.size,λk a _=>l.block k (XI a h.le)⟩,XN h.le l.size,λc f m hv=>?_,λc d f g m hd hf x s=>?_⟩
 .by_cases j:c=b
  .subst j;rw[z]at m;obtain rfl:e=f:=X5.inj m;have v:e.now (L.setIfInBounds i true)=e.before:=by unfold Bl.now;rw[o c e z,q];rfl
   rw[v];unfold upd;rw[yE3 rfl];exact⟨t.range,t.there,t.lt,Yk (XN h.le r)⟩
  .obtain⟨A,B,q,C⟩:=h.has c f m (n c f m j ▸ hv);unfold upd;rw[yE4 j];have v:f.now (L.setIfInBounds i true)=f.now L:=by unfold Bl.now;rw[o c f m]
   rw[v];exact⟨range_below A l q,dJ B l q,XI q l.size,C⟩
 .unfold upd;by_cases j:c=b
  .subst j;rw[yE3 rfl,yE4 (λh=>s h.symm)];exact Nat.ne_of_gt (XI (p d g hd (λh=>s h.symm) x) r)
  .by_cases q:d=b
   .subst q;rw[yE3 rfl,yE4 j];exact Z9 (XI (p c f m j hf) r)
   .rw[yE4 j,yE4 q];exact h.inj c d f g m hd (n c f m j ▸ hf) (n d g hd q ▸ x) s
structure PutTo(k n:Nat)(cs:List XG)(w w':XF):Prop where
 os:w'.os=w.os
 tape:w'.tape=w.tape
 output:w'.output=w.output
 size:w.heap.size<=w'.heap.size
 block:∀j,j<w.heap.size->j≠k->w'.heap[j]? = w.heap[j]?
 range:w'.rangeAt k 0 cs
 there:w'.there k 0 n
def aE{k:Nat}:∀(vs:List XG) (o:Nat) (w:XF) (j:Nat),j≠k->(w.setCells k o vs).heap[j]? = w.heap[j]?
 | [],_,_,_,_=>rfl
 | v :: r,o,w,j,h=>by
  rw[yBv,aE (k:=k) r (o+1) _ j h,Below.heap_setCell _ _ _ _ h]
def nU(k:Nat):∀(vs:List XG) (o:Nat) (w:XF),(w.setCells k o vs).os=w.os/\(w.setCells k o vs).tape=w.tape/\(w.setCells k o vs).output=w.output
 | [],_,_=>⟨rfl,rfl,rfl⟩
 | v :: r,o,w=>by rw[yBv];exact nU k r (o+1) _
def PutTo.store{k n o:Nat}{b c vs:List XG}(f:w.there k 0 n)(l:w.rangeAt k 0 b)(x:o+vs.length<=n)(r:∀j,c[j]? = if o<=j/\j<o+vs.length then vs[j-o]? else b[j]?):PutTo k n c w (w.setCells k o vs):=by
 obtain⟨q,t,p⟩:=nU k vs o w;refine⟨q,t,p,by rw[setCells_size];exact XH _,λj _ d=>aE vs o w j d,λj v hv=>?_,there_setCells _ _ _ f⟩;have e:w.there k o vs.length:=λj d=>by have:=f (o+j) oM;rwa[XQ]at this
 rw[r j]at hv;rw[XQ];by_cases d:o<=j/\j<o+vs.length
 .rw[yE3 d]at hv;have:=World.rangeAt_setCells_same w k o vs e (j-o) v hv;rwa[show o+(j-o)=j by omega]at this
 .rw[yE4 d]at hv;have m:w.rangeAt k j [v]:=λi u g=>by
   cases i with
   | zero =>
    obtain rfl:v=u:=by simpa using g
    have:=l j v hv;rwa[XQ]at this
   | succ i=>simp at g
  have s:=World.rangeAt_setCells_apart m k o vs (Yd (by simp only[YA,ZD];omega));have:=s 0 v rfl;exact this
def PutTo.whole{k:Nat}{b c:List XG}(e:w.there k 0 b.length)(f:w.rangeAt k 0 b)(g:c.length=b.length):PutTo k b.length c w (w.setCells k 0 c):=
 PutTo.store e f oM (λj=>by
  by_cases d:0<=j/\j<0+c.length
  .rw[yE3 d];rfl
  .rw[yE4 d,ZR oM,ZR oM])
def Wd.put{i b:Nat}{e:Bl}(h:Wd w0 k0 X bl L μ w)(s:i<L.size)(u:bl[b]? = some e)(B:e.st=some i)(hv:e.live L=true)(l:PutTo (μ b) e.before.length e.after w w')
 (k:∀(c:Nat) (f:Bl),bl[c]? = some f->c≠b->f.st≠some i) (o:∀(c:Nat) (f:Bl),bl[c]? = some f->f.al≠some i) :
 Wd w0 k0 X bl (L.setIfInBounds i true) μ w':=by
 have m:∀(c:Nat) (f:Bl),bl[c]? = some f->f.live (L.setIfInBounds i true)=f.live L:=λc f n=>by
  rw[iQ s,show(f.al == some i)=false by simpa using o c f n,ZO]
 obtain⟨G,E,F,z⟩:=h.has b e u hv;have C:=h.le;refine⟨h.bel.trans ⟨l.os,l.tape,l.output,l.size,λj q hx=>l.block j oM (λe=>z.elim (λh=>oM) (λh=>hx (e ▸ h)))⟩,XN h.le l.size,λc f n o=>?_,λc d f g n hd hf y=>h.inj c d f g n hd (m c f n ▸ hf) (m d g hd ▸ y)⟩;rw[m c f n]at o;obtain⟨A,D,r,x⟩:=h.has c f n o;by_cases p:c=b
 .subst p;rw[u]at n;obtain rfl:e=f:=X5.inj n;have t:e.now (L.setIfInBounds i true)=e.after:=by
   unfold Bl.now;rw[kM s,B];simp
  rw[t];exact⟨l.range,l.there,XI r l.size,x⟩
 .have t:f.now (L.setIfInBounds i true)=f.now L:=by
   unfold Bl.now;rw[kM s,show(f.st == some i)=false by simpa using k c f n p,ZO]
  rw[t];have k:=l.block (μ c) r (h.inj c b f e n u o hv p);refine⟨λj v q=>?_,λj q=>?_,XI r l.size,x⟩
  .rw[Yb (w:=w) (a:=⟨μ c,0+j,none⟩) k];exact A j v q
  .rw[Yb (w:=w) (a:=⟨μ c,0+j,none⟩) k,World.frozen?_of_block (w:=w) (a:=⟨μ c,0+j,none⟩) k];exact D j q
end RG
namespace RG
variable {P:YO}{ops:Array Yw}{Q:yAN->Act->XF->Prop}{w0 w:XF}{k0:Nat}{X:List Nat}{its:List It}{bl:List Bl}{olds:List (ZC × SV)}{a0:Act}{L:Array Bool}{μ μ' μ0:Nat->Nat}
structure Ac(its:List It)(bl:List Bl)(a0:Act)(L:Array Bool)(μ:Nat->Nat)(a:Act):Prop where
 defers:a.defers=a0.defers
 size:a.tmps.size=a0.tmps.size
 got:∀(i:Nat) (it:It) (d:ZC),its[i]? = some it->on L i=true->it.dst=some d->a.tmps[d]? = some (it.out.at μ)/\∀b,it.out.blk=some b->∃e:Bl,bl[b]? = some e/\e.live L=true
 rest:∀t:ZC,(∀(i:Nat) (it:It),its[i]? = some it->on L i=true->it.dst≠some t)->a.tmps[t]? = a0.tmps[t]?
def cQ(o:Yw)(j:Nat):Bool:=o.after.any (λe=>Y3 .any e && e.on == j)
def GV(k:Array Yw)(b:List It)(i:Nat)(t:ZC):Bool:=b.zipIdx.all (λx=>x.1.dst != some t || (match k[x.2]? with|some o=>cQ o i|none=>false))
def Known(c:Array Yw)(i:Nat)(k:List It)(olds:List (ZC × SV))(b:List (ZC × Nat))(μ:Nat->Nat)(a:Act):Prop:=
 (∀(t:ZC) (j:Nat) (it:It),(t,j)∈b->k[j]? = some it->a.eval (.tmp t)=it.out.at μ)/\(∀(t:ZC) (s:SV),(t,s)∈olds->GV c k i t=true->a.eval (.tmp t)=s.at μ)
def readB(k:Array Yw)(i:Nat)(e:Bl):Bool:=match e.st with|none=>true|some s=>match k[s]? with|some o=>cQ o i|none=>false
def Reads(k:Array Yw)(i:Nat)(c:List Bl)(μ:Nat->Nat)(w:XF):Prop:=∀(b:Nat) (e:Bl),c[b]? = some e->(e.al=none\/∃(o:Yw) (j:Nat),k[i]? = some o/\e.al=some j/\cQ o j=true)->readB k i e=true->w.rangeAt (μ b) 0 e.before
def Does(P:YO)(Q:yAN->Act->XF->Prop)(c:List Bl)(o:Yw)(it:It)(μ:Nat->Nat)(a:Act)(w:XF)(K:Act->XF->Prop):Kind->Prop
 | .stay=>K (a.put o.dst (it.out.at μ)) w->o.wp P a w K Q
 | .pass=>it.out=.v ZB
 | .call=>(∀w',kZ w w'->K (a.put o.dst (it.out.at μ)) w')->o.wp P a w K Q
 | .make b=>∀e:Bl,c[b]? = some e->(∀(k:Nat) (w':XF),Made w k e.before w'->K (a.put o.dst (it.out.at (upd μ b k))) w')->o.wp P a w K Q
 | .put b=>∀e:Bl,c[b]? = some e->w.there (μ b) 0 e.before.length->w.rangeAt (μ b) 0 e.before->(∀w',PutTo (μ b) e.before.length e.after w w'->K (a.put o.dst (it.out.at μ)) w')->o.wp P a w K Q
def Cert(P:YO)(Q:yAN->Act->XF->Prop)(e:XF)(d:Nat)(X:List Nat)(k:Array Yw)(i:Nat)(b:List It)(c:List Bl)(olds:List (ZC × SV))(o:Yw)(it:It):Prop:=
 ∀(μ:Nat->Nat) (a:Act) (w:XF) (K:Act->XF->Prop),Known k i b olds it.need μ a->Reads k i c μ w->BelX d X e w->Does P Q c o it μ a w K it.kind
def Ld(k:List It)(c:List Bl)(o:Yw)(it:It)(b:Nat):Bool:=
 (match c[b]? with|some e=>(match e.al with|none=>true|some j=>cQ o j)|none=>false) || it.need.any (λx=>cQ o x.2 && (match k[x.2]? with|some jt=>jt.dst.isSome && jt.out.blk == some b|none=>false))
def A0(d:List It)(k:List Bl)(i:Nat)(o:Yw)(it:It):Kind->Bool
 | .stay | .pass | .call=>k.all (λe=>e.al != some i && e.st != some i) && (match it.out.blk with|none=>true|some b=>Ld d k o it b)
 | .make b=>(match it.out.blk with|some c=>c == b|none=>false) && k.zipIdx.all (λx=>x.1.st != some i && (x.1.al == some i) == (x.2 == b)) && (k[b]?).isSome
 | .put b=>(match it.out with | .v _=>true|_=>false) && k.zipIdx.all (λx=>x.1.al != some i && (x.1.st == some i) == (x.2 == b)) && (match k[b]? with|some e=>(match e.al with|none=>true|some j=>cQ o j)|none=>false)
def Kind.isPass:Kind->Bool
 | .pass=>true
 | _=>false
def LC(k:List It)(o:Yw)(it:It):Bool:=
 match o.guard with
 | none=>!it.kind.isPass
 | some (j,want)=>cQ o j && (match k[j]? with|some jt=>jt.dst.isSome && (match jt.out with | .v (.bool b)=>(b == want) == !it.kind.isPass|_=>false)|none=>false)
def okB(k:List It)(c:List Bl)(i:Nat)(o:Yw)(it:It):Bool:=
 (o.dst == it.dst) && LC k o it && o.after.all (λe=>!Y3 .any e || e.on<i) && it.need.all (λb=>cQ o b.2 && ((k[b.2]?).bind (·.dst)) == some b.1) && A0 k c i o it it.kind
def Aq:List It->Bool
 | []=>true
 | it :: r=>(match it.dst with|none=>true|some d=>r.all (λk=>k.dst != some d)) && Aq r
def WN(k:List Bl)(olds:List (ZC × SV)):Bool:=
 olds.all (λx=>(match x.2.blk with|none=>true|some b=>match k[b]? with|some e=>e.al.isNone|none=>false))
def allB(b:Array Yw)(k:List It)(c:List Bl)(olds:List (ZC × SV))(n:Nat):Bool:=
 b.size == k.length && Aq k && WN c olds && k.all (λit=>match it.dst with|none=>true|some d=>d<n) &&
 (YB k.length).all (λi=>match b[i]?,k[i]? with|some o,some it=>okB k c i o it|_,_=>false)
def LZ:∀ {k:List It},Aq k=true->∀(i j:Nat) (it b:It) (d:ZC),k[i]? = some it->k[j]? = some b->it.dst=some d->b.dst=some d->i=j
 | [],_,i,_,_,_,_,h,_,_,_=>by simp at h
 | x :: r,h,i,j,it,b,d,hi,hj,di,dj=>by
  simp only[Aq,XZ]at h;match i,j with
  | 0,0=>rfl
  | 0,j+1 =>
   simp only[Yn,X5.injEq]at hi;simp only[Yl]at hj;subst hi;rw[di]at h;have:=Yv.1 h.1 b (YZ hj);rw[dj]at this;simp at this
  | i+1,0 =>
   simp only[Yn,X5.injEq]at hj;simp only[Yl]at hi;subst hj;rw[dj]at h;have:=Yv.1 h.1 it (YZ hi);rw[di]at this;simp at this
  | i+1,j+1 =>
   simp only[Yl]at hi hj;rw[LZ h.2 i j it b d hi hj di dj]
def qA{e:Bl}{i:Nat}(k:i<L.size)(h:e.live L=true):e.live (L.setIfInBounds i true)=true:=by rw[iQ k,h,yAU]
def Ac.put{a:Act}{i:Nat}{it:It}(h:Ac its bl a0 L μ a)(hd:Aq its=true)(p:i<L.size)(n:its[i]? = some it)(hμ:∀(b:Nat) (e:Bl),bl[b]? = some e->e.live L=true->μ' b=μ b)
 (s:∀d,it.dst=some d->d<a0.tmps.size) (o:∀d,it.dst=some d->∀b,it.out.blk=some b->∃e:Bl,bl[b]? = some e/\e.live (L.setIfInBounds i true)=true)
 (v:XG) (hv:∀d,it.dst=some d->v=it.out.at μ'):Ac its bl a0 (L.setIfInBounds i true) μ' (a.put it.dst v):=by
 have m:∀(j:Nat) (f:It) (d:ZC),its[j]? = some f->on L j=true->f.dst=some d->a.tmps[d]? = some (f.out.at μ')/\∀b,f.out.blk=some b->∃e:Bl,bl[b]? = some e/\e.live (L.setIfInBounds i true)=true:=λj f d g ho c=>by
  obtain⟨r,q⟩:=h.got j f d g ho c;refine⟨?_,λb k=>?_⟩
  .rw[r]
   congr 1
   refine SV.at_congr λb u=>?_
   obtain⟨e,l,o⟩:=q b u;rw[hμ b e l o]
  .obtain⟨e,l,o⟩:=q b k;exact⟨e,l,qA p o⟩
 cases k:it.dst with
 | none =>
  show Ac its bl a0 _ μ' a;refine⟨h.defers,h.size,λj f d g ho c=>?_,λt q=>h.rest t λj f g ho=>q j f g (by rw[eE p,ho,yAU])⟩;rw[eE p]at ho;by_cases l:i=j
  .subst l;rw[n]at g;obtain rfl:it=f:=X5.inj g;rw[k]at c;cases c
  .exact m j f d g (by simpa[l]using ho) c
 | some d0 =>
  have u:=s d0 k;refine⟨h.defers,?_,λj f d g ho c=>?_,λt q=>?_⟩
  .show(a.tmps.setIfInBounds d0 v).size=_;rw[YT];exact h.size
  .show(a.tmps.setIfInBounds d0 v)[d]? = _/\_;rw[ZF];rw[eE p]at ho;by_cases l:i=j
   .subst l;rw[n]at g;obtain rfl:it=f:=X5.inj g;rw[k]at c;obtain rfl:d0=d:=X5.inj c;rw[yE3 rfl,yE3 (by rw[h.size];exact u),hv d0 k];exact⟨rfl,o d0 k⟩
   .have o:d0≠d:=λr=>l (LZ hd i j it f d0 n g k (r ▸ c))
    rw[yE4 o];exact m j f d g (by simpa[l]using ho) c
  .show(a.tmps.setIfInBounds d0 v)[t]? = _;have o:d0≠t:=λl=>q i it n (by rw[eE p];simp) (by rw[k,l])
   rw[ZF,yE4 o];exact h.rest t λj f g ho=>q j f g (by rw[eE p,ho,yAU])
structure Inv(ops:Array Yw)(its:List It)(bl:List Bl)(a0:Act)(w0:XF)(k0:Nat)(X:List Nat)(μ0:Nat->Nat)(L:Array Bool)(a:Act)(w:XF):Prop where
 size:L.size=its.length
 cl:∀(i:Nat) (o:Yw),ops[i]? = some o->on L i=true->∀e∈o.after,Y3 .any e=true->on L e.on=true
 all:∃μ,(∀(b:Nat) (e:Bl),bl[b]? = some e->e.al=none->μ b=μ0 b)/\Ac its bl a0 L μ a/\Wd w0 k0 X bl L μ w/\∀(b:Nat) (e:Bl),bl[b]? = some e->e.put L=true->e.live L=true
def Cs{o:Yw}(h:o.guard=none)(y:Nat->Option Bool):Zd o y=true:=by unfold Zd;rw[h]
def kC{b:Nat}{p:Bl × Nat->Bool}(h:bl.zipIdx.all p=true)(e:Bl)(k:bl[b]? = some e):p (e,b)=true:=
 Yv.1 h (e,b) (by rw[yBo];exact k)
def two{s t:Option Nat}{i c b:Nat}(h:(s != some i && (t == some i) == (c == b))=true):s≠some i/\(t=some i↔c=b):=by
 rw[XZ]at h;refine⟨by simpa using h.1,?_⟩;have k:(t == some i)=(c == b):=by simpa using h.2
 constructor
 .intro d;rw[d]at k;simpa using k.symm
 .intro d;rw[d]at k;simpa using k
def step{i:Nat}{o:Yw}{it:It}{a:Act}(hd:Aq its=true)(ho:ops[i]? = some o)(T:its[i]? = some it)(hu:okB its bl i o it=true)(Y:∀d,it.dst=some d->d<a0.tmps.size)
 (holds:∀(t:ZC) (s:SV),(t,s)∈olds->a0.tmps[t]? = some (s.at μ0)/\∀b,s.blk=some b->∃e:Bl,bl[b]? = some e/\e.al=none)
 (l:∀(j:Nat) (Z:Yw) (H:It),ops[j]? = some Z->its[j]? = some H->Z.dst=H.dst) (F:ops.size=its.length) (B:Cert P Q w0 k0 X ops i its bl olds o it) (h7:on L i=false) (M:∀e∈o.after,Y3 .any e=true->on L e.on=true) (h:Inv ops its bl a0 w0 k0 X μ0 L a w) :
 wpOp P ops Q i (Inv ops its bl a0 w0 k0 X μ0 (L.setIfInBounds i true)) a w:=by
 obtain⟨hr,h9,μ,hμ,hA,hW,hO⟩:=h;have D:i<L.size:=by rw[hr];exact(XT.1 T).1
 simp only[okB,XZ]at hu;obtain⟨⟨⟨⟨ht,V⟩,k2⟩,h8⟩,g⟩:=hu;have C:o.dst=it.dst:=by simpa using ht
 have r:∀j,cQ o j=true->on L j=true:=λj J=>by
  obtain⟨e,U,m⟩:=yAF.1 J;simp only[XZ,beq_iff_eq]at m;rw[<-m.2];exact M e U m.1
 have hq:Zd o (yielded ops a.tmps) = !it.kind.isPass:=by
  unfold Zd;unfold LC at V;cases N:o.guard with
  | none=>rw[N]at V;dsimp only at V⊢;rw[V]
  | some jw =>
   obtain⟨j,q⟩:=jw;rw[N]at V;dsimp only at V⊢;rw[XZ]at V;cases J:its[j]? with
   | none=>rw[J]at V;cases V.2
   | some H =>
    rw[J]at V;obtain⟨h1,A⟩:=V;dsimp only at A;rw[XZ]at A;obtain⟨d,I⟩:=YP.1 A.1;have K:j<its.length:=(XT.1 J).1;have E:ops[j]? = some (ops[j]'(by rw[F];exact K)):=Ye _;have G:=(hA.got j H d J (r j h1) I).1;have O:yielded ops a.tmps j=match H.out.at μ with | .bool b=>some b|_=>none:=by
     unfold yielded;rw[E];show(match (ops[j]'(by rw[F];exact K)).dst.bind (a.tmps[·]?) with|some (.bool b)=>some b|_=>none)=_;rw[l j _ H E J,I];show(match a.tmps[d]? with|some (.bool b)=>some b|_=>none)=_;rw[G];cases H.out.at μ<;>rfl
    rw[O];have l:=A.2;cases n:H.out with
    | p b x=>rw[n]at l;cases l
    | s b x y=>rw[n]at l;cases l
    | t b x y z=>rw[n]at l;cases l
    | v x =>
     rw[n]at l;cases x with
     | bool b =>
      show(some b == some q)=_;dsimp only at l;have:(b == q) = !it.kind.isPass:=by simpa using l
      rw[<-this];cases b<;>cases q<;>rfl
     | _=>cases l
 have hK:Known ops i its olds it.need μ a:=by
  refine⟨λt j H hm J=>?_,λt s hm K=>?_⟩
  .have h1:=Yv.1 h8 (t,j) hm;simp only[XZ,J]at h1;have A:H.dst=some t:=by simpa using h1.2
   have G:=(hA.got j H t J (r j h1.1) A).1;show a.tmps.getD t ZB=_;rw[XU,G];rfl
  .obtain⟨A,G⟩:=holds t s hm;have O:=hA.rest t (λj H J S I=>by
    have l:=Yv.1 K (H,j) (by rw[yBo];exact J);dsimp only at l;rw[I]at l;cases E:ops[j]? with
    | none=>rw[E]at l;simp at l
    | some Z =>
     rw[E]at l;have q:cQ Z i=true:=by simpa using l
     obtain⟨e',N,F⟩:=yAF.1 q;simp only[XZ,beq_iff_eq]at F;have:=h9 j Z E S e' N F.1;rw[F.2,h7]at this;cases this)
   show a.tmps.getD t ZB=_;rw[XU,O,A];show s.at μ0=s.at μ;refine SV.at_congr λb m=>?_
   obtain⟨e,U,q⟩:=G b m;rw[hμ b e U q]
 have hR:Reads ops i bl μ w:=λb e m q K=>by
  have:=(hW.has b e m (by
   unfold Bl.live;rcases q with q|⟨I,j,l,q,hd⟩
   .rw[q];rfl
   .rw[q];show on L j=true;rw[ho]at l;obtain rfl:=X5.inj l;exact r j hd)).1
  unfold Bl.now Bl.put at this;unfold readB at K;cases hs:e.st with
  | none=>rw[hs]at this;exact this
  | some s =>
   rw[hs]at this K;dsimp only at K;cases l:ops[s]? with
   | none=>rw[l]at K;cases K
   | some os =>
    rw[l]at K;have I:on L s=false:=by
     cases S:on L s with
     | false=>rfl
     | true =>
      obtain⟨e',N,F⟩:=yAF.1 K;simp only[XZ,beq_iff_eq]at F;have:=h9 s os l S e' N F.1;rw[F.2,h7]at this;cases this
    rw[show(Option.map (on L) (some s)).getD false=on L s from rfl,I]at this;exact this
 have h0:∀b,Ld its bl o it b=true->∃e:Bl,bl[b]? = some e/\e.live L=true:=λb m=>by
  unfold Ld at m;rw[Bool.or_eq_true]at m;rcases m with A|A
  .cases U:bl[b]? with
   | none=>rw[U]at A;cases A
   | some e =>
    rw[U]at A;dsimp only at A;refine⟨e,rfl,?_⟩;unfold Bl.live;cases q:e.al with
    | none=>rfl
    | some j=>rw[q]at A;exact r j A
  .obtain⟨x,hx,G⟩:=List.any_eq_true.1 A;rw[XZ]at G;cases J:its[x.2]? with
   | none=>rw[J]at G;cases G.2
   | some H =>
    rw[J]at G;dsimp only at G;rw[XZ]at G;obtain⟨d,l⟩:=YP.1 G.2.1;exact(hA.got x.2 H d J (r x.2 G.1) l).2 b (by simpa using G.2.2)
 have I:∀(j:Nat) (Z:Yw),ops[j]? = some Z->on (L.setIfInBounds i true) j=true->∀e∈Z.after,Y3 .any e=true->on (L.setIfInBounds i true) e.on=true:=λj Z E S e U m=>by
  rw[eE D]at S⊢;by_cases l:i=j
  .subst l;rw[ho]at E;obtain rfl:o=Z:=X5.inj E;rw[M e U m,yAU]
  .rw[h9 j Z E (by simpa[l]using S) e U m,yAU]
 have G:(L.setIfInBounds i true).size=its.length:=by rw[YT];exact hr
 have hC:=B μ a w (Inv ops its bl a0 w0 k0 X μ0 (L.setIfInBounds i true)) hK hR hW.bel;unfold wpOp;rw[ho];dsimp only;rw[hq];cases hk:it.kind with
 | pass =>
  rw[hk]at hC g;simp only[A0,XZ]at g;have H:∀(b:Nat) (e:Bl),bl[b]? = some e->e.al≠some i/\e.st≠some i:=λb e m=>by simpa using Yv.1 g.1 e (YZ m)
  have l:∀(b:Nat) (e:Bl),bl[b]? = some e->e.live (L.setIfInBounds i true)=e.live L/\e.put (L.setIfInBounds i true)=e.put L:=λb e m =>
   ⟨by rw[iQ D,show(e.al == some i)=false by simpa using(H b e m).1,ZO],by rw[kM D,show(e.st == some i)=false by simpa using(H b e m).2,ZO]⟩
  show Inv ops its bl a0 w0 k0 X μ0 (L.setIfInBounds i true) (a.put o.dst ZB) w;refine⟨G,I,μ,hμ,?_,hW.same l,λb e m=>by rw[(l b e m).1,(l b e m).2];exact hO b e m⟩;rw[C];have n:it.out=.v ZB:=hC;refine hA.put hd D T (λ_ _ _ _=>rfl) Y (λ_ _ b M=>?_) _ (λ_ _=>by rw[n];rfl);rw[n]at M;cases M
 | stay =>
  rw[hk]at hC g;simp only[A0,XZ]at g;show o.wp P a w _ Q\/_;left;refine hC ?_;have H:∀(b:Nat) (e:Bl),bl[b]? = some e->e.al≠some i/\e.st≠some i:=λb e m=>by simpa using Yv.1 g.1 e (YZ m)
  have l:∀(b:Nat) (e:Bl),bl[b]? = some e->e.live (L.setIfInBounds i true)=e.live L/\e.put (L.setIfInBounds i true)=e.put L:=λb e m =>
   ⟨by rw[iQ D,show(e.al == some i)=false by simpa using(H b e m).1,ZO],by rw[kM D,show(e.st == some i)=false by simpa using(H b e m).2,ZO]⟩
  refine⟨G,I,μ,hμ,?_,hW.same l,λb e m=>by rw[(l b e m).1,(l b e m).2];exact hO b e m⟩;rw[C];refine hA.put hd D T (λ_ _ _ _=>rfl) Y (λ_ _ b M=>?_) _ (λ_ _=>rfl);have A:=g.2;rw[M]at A;obtain⟨e,U,hl⟩:=h0 b A;exact⟨e,U,qA D hl⟩
 | call =>
  rw[hk]at hC g;simp only[A0,XZ]at g;show o.wp P a w _ Q\/_;left;refine hC λw' F=>?_
  have H:∀(b:Nat) (e:Bl),bl[b]? = some e->e.al≠some i/\e.st≠some i:=λb e m=>by simpa using Yv.1 g.1 e (YZ m)
  have l:∀(b:Nat) (e:Bl),bl[b]? = some e->e.live (L.setIfInBounds i true)=e.live L/\e.put (L.setIfInBounds i true)=e.put L:=λb e m =>
   ⟨by rw[iQ D,show(e.al == some i)=false by simpa using(H b e m).1,ZO],by rw[kM D,show(e.st == some i)=false by simpa using(H b e m).2,ZO]⟩
  refine⟨G,I,μ,hμ,?_,(hW.call F).same l,λb e m=>by rw[(l b e m).1,(l b e m).2];exact hO b e m⟩;rw[C];refine hA.put hd D T (λ_ _ _ _=>rfl) Y (λ_ _ b M=>?_) _ (λ_ _=>rfl);have A:=g.2;rw[M]at A;obtain⟨e,U,hl⟩:=h0 b A;exact⟨e,U,qA D hl⟩
 | make b =>
  rw[hk]at hC g;simp only[A0,XZ]at g;obtain⟨⟨n,hz⟩,H⟩:=g;obtain⟨e,l⟩:=YP.1 H;have ha:e.al=some i:=(two (kC hz e l)).2.2 rfl;have F:∀(c:Nat) (f:Bl),bl[c]? = some f->f.st≠some i:=λc f B=>(two (kC hz f B)).1
  have O:∀(c:Nat) (f:Bl),bl[c]? = some f->c≠b->f.al≠some i:=λc f B R h=>R ((two (kC hz f B)).2.1 h)
  have M:e.live L=false:=by unfold Bl.live;rw[ha];exact h7
  have hpt:e.put L=false:=by
   cases hp:e.put L with
   | false=>rfl
   | true=>have:=hO b e l hp;rw[M]at this;cases this
  have hn:it.out.blk=some b:=by
   cases N:it.out.blk with
   | none=>rw[N]at n;cases n
   | some c =>
    rw[N]at n;rw[show c=b by simpa using n]
  show o.wp P a w _ Q\/_;left;refine hC e l λk w' hm=>?_
  have hμb:∀(c:Nat) (f:Bl),bl[c]? = some f->f.live L=true->upd μ b k c=μ c:=λc f B hl=>by
   unfold upd;rw[yE4];rintro rfl;rw[l]at B;obtain rfl:e=f:=X5.inj B;rw[M]at hl;cases hl
  refine⟨G,I,upd μ b k,λc f B q=>?_,?_,hW.make D l ha O F hpt hm,λc f B=>?_⟩
  .rw[hμb c f B (by unfold Bl.live;rw[q];rfl)];exact hμ c f B q
  .rw[C];refine hA.put hd D T hμb Y (λ_ _ c W=>?_) _ (λ_ _=>rfl);rw[hn]at W;have h1:b=c:=X5.inj W;subst h1;exact⟨e,l,by rw[iQ D,ha];simp⟩
  .rw[kM D,show(f.st == some i)=false by simpa using F c f B,ZO];exact λhp=>qA D (hO c f B hp)
 | put b =>
  rw[hk]at hC g;simp only[A0,XZ]at g;obtain⟨⟨n,hz⟩,H⟩:=g;cases l:bl[b]? with
  | none=>rw[l]at H;cases H
  | some e =>
   rw[l]at H;dsimp only at H;have hs:e.st=some i:=(two (kC hz e l)).2.2 rfl;have O:∀(c:Nat) (f:Bl),bl[c]? = some f->f.al≠some i:=λc f B=>(two (kC hz f B)).1
   have F:∀(c:Nat) (f:Bl),bl[c]? = some f->c≠b->f.st≠some i:=λc f B R h=>R ((two (kC hz f B)).2.1 h)
   have M:e.live L=true:=by
    unfold Bl.live;cases q:e.al with
    | none=>rfl
    | some j =>
     have A:=H;rw[q]at A;exact r j A
   show o.wp P a w _ Q\/_;left;have k1:e.put L=false:=by unfold Bl.put;rw[hs];exact h7
   have A:e.now L=e.before:=by unfold Bl.now;rw[k1];rfl
   refine hC e l (hW.has b e l M).2.1 (A ▸ (hW.has b e l M).1) λw' hy=>?_
   refine⟨G,I,μ,hμ,?_,hW.put D l hs M hy F O,λc f B hp=>?_⟩
   .rw[C];refine hA.put hd D T (λ_ _ _ _=>rfl) Y (λd hw c W=>?_) _ (λd hw=>rfl);cases N:it.out with
    | v x=>rw[N]at W;cases W
    | p x y=>rw[N]at n;cases n
    | s x y z=>rw[N]at n;cases n
    | t x y z u=>rw[N]at n;cases n
   .rw[iQ D,show(f.al == some i)=false by simpa using O c f B,ZO];rw[kM D]at hp;by_cases R:c=b
    .subst R;rw[l]at B;obtain rfl:e=f:=X5.inj B;exact M
    .rw[show(f.st == some i)=false by simpa using F c f B R,ZO]at hp;exact hO c f B hp
end RG
namespace RG
variable {P:YO}{ops:Array Yw}{Q:yAN->Act->XF->Prop}{w0 w:XF}{k0:Nat}{X:List Nat}{its:List It}{bl:List Bl}{olds:List (ZC × SV)}{a0:Act}{L:Array Bool}{μ μ0:Nat->Nat}
def puts(μ:Nat->Nat):List It->Act->Act
 | [],a=>a
 | it :: r,a=>puts μ r (a.put it.dst (it.out.at μ))
def oC(μ:Nat->Nat):∀(k:List It) (a:Act),(puts μ k a).defers=a.defers
 | [],_=>rfl
 | it :: r,a=>by
  rw[puts,oC μ r];cases it.dst<;>rfl
def rP(a:Act)(d:Option ZC)(v:XG):(a.put d v).tmps.size=a.tmps.size:=by
 cases d with
 | none=>rfl
 | some d=>exact YT ..
def AL(μ:Nat->Nat):∀(k:List It) (a:Act),(puts μ k a).tmps.size=a.tmps.size
 | [],_=>rfl
 | it :: r,a=>by rw[puts,AL μ r,rP]
def pO(a:Act){d:Option ZC}(v:XG){t:ZC}(h:d≠some t):(a.put d v).tmps[t]? = a.tmps[t]?:=by
 cases d with
 | none=>rfl
 | some d =>
  show(a.tmps.setIfInBounds d v)[t]? = _;rw[ZF,yE4 (λe=>h (by rw[e]))]
def mU(μ:Nat->Nat):∀(k:List It) (a:Act) (t:ZC),(∀it∈k,it.dst≠some t)->(puts μ k a).tmps[t]? = a.tmps[t]?
 | [],_,_,_=>rfl
 | it :: r,a,t,h=>by
  rw[puts,mU μ r _ t (λx hx=>h x (Yx _ hx)),pO a _ (h it YL)]
def tQ{μ:Nat->Nat}:∀(k:List It) (a:Act) (i:Nat) (it:It) (d:ZC),Aq k=true->k[i]? = some it->it.dst=some d->d<a.tmps.size->(puts μ k a).tmps[d]? = some (it.out.at μ)
 | [],_,i,_,_,_,h,_,_=>by simp at h
 | x :: r,a,0,it,d,hB,h,hd,hs=>by
  obtain rfl:x=it:=by simpa using h
  simp only[Aq,XZ,hd]at hB;rw[puts,mU μ r _ d (λy b=>by simpa using Yv.1 hB.1 y b),hd];show(a.tmps.setIfInBounds d _)[d]? = _;rw[ZF,yE3 rfl,yE3 hs]
 | x :: r,a,i+1,it,d,hB,h,hd,hs=>by
  simp only[Aq,XZ]at hB;rw[puts];exact tQ r _ i it d hB.2 (by simpa using h) hd (by rw[rP];exact hs)
def Act.ext'{a b:Act}(k:a.tmps=b.tmps)(c:a.defers=b.defers):a=b:=by
 cases a;cases b;subst k;subst c;rfl
def Ac.done{a:Act}(h:Ac its bl a0 L μ a)(f:Aq its=true)(c:∀it∈its,∀d,it.dst=some d->d<a0.tmps.size)(b:∀i,i<its.length->on L i=true):a=puts μ its a0:=by
 refine Act.ext' ?_ (by rw[oC];exact h.defers);apply Array.ext_getElem?;intro t;by_cases e:∃(i:Nat) (it:It),its[i]? = some it/\it.dst=some t
 .obtain⟨i,it,k,hd⟩:=e;rw[(h.got i it t k (b i (XT.1 k).1) hd).1,tQ (μ:=μ) its a0 i it t f k hd (c it (YZ k) t hd)]
 .rw[h.rest t (λi it k _ hd=>e ⟨i,it,k,hd⟩),mU μ its a0 t (λit g hd=>?_)];obtain⟨i,k⟩:=ZK g;exact e ⟨i,it,k,hd⟩
def unl(L:Array Bool):Nat:=L.toList.countP (λb=>!b)
def count_set:∀(l:List Bool) (i:Nat),l[i]? = some false->(l.set i true).countP (λb=>!b)+1=l.countP (λb=>!b)
 | [],i,h=>by simp at h
 | x :: r,0,h=>by
  obtain rfl:x=false:=by simpa using h
  simp
 | x :: r,i+1,h=>by
  have:=count_set r i (by simpa using h);rw[List.set_cons_succ,yDT,yDT];omega
def mK{i:Nat}(h:L.getD i true=false):unl (L.setIfInBounds i true)+1=unl L:=by
 unfold unl;rw[Array.toList_setIfInBounds];refine count_set _ _ ?_;rw[YI];rw[XU]at h;cases hh:L[i]? with
 | none=>rw[hh]at h;cases h
 | some b=>rw[hh]at h;rw[show b=false from h]
def lE{i:Nat}(h:unl L=0)(k:i<L.size):on L i=true:=by
 have b:=List.countP_eq_zero.1 h;have c:=b L[i] (by simp);unfold on;rw[XU,Ye k];simpa using c
structure Reg(P:YO)(ops:Array Yw)(Q:yAN->Act->XF->Prop)(w0:XF)(k0:Nat)(X:List Nat)(its:List It)(bl:List Bl)(olds:List (ZC × SV))(a0:Act)(μ0:Nat->Nat):Prop where
 chk:allB ops its bl olds a0.tmps.size=true
 old:∀(t:ZC) (s:SV),(t,s)∈olds->a0.tmps[t]? = some (s.at μ0)
 cert:∀(i:Nat) (o:Yw) (it:It),ops[i]? = some o->its[i]? = some it->Cert P Q w0 k0 X ops i its bl olds o it
def Reg.step{i:Nat}{o:Yw}{a:Act}(R:Reg P ops Q w0 k0 X its bl olds a0 μ0)(ho:ops[i]? = some o)(v:on L i=false)(m:∀e∈o.after,Y3 .any e=true->on L e.on=true)(h:Inv ops its bl a0 w0 k0 X μ0 L a w):
 wpOp P ops Q i (Inv ops its bl a0 w0 k0 X μ0 (L.setIfInBounds i true)) a w:=by
 have x:=R.chk;simp only[allB,XZ,beq_iff_eq]at x;obtain⟨⟨⟨⟨f,hd⟩,n⟩,r⟩,l⟩:=x;have B:i<its.length:=by rw[<-f];exact(X9.1 ho).1
 obtain⟨it,k⟩:∃it,its[i]? = some it:=⟨its[i],XV B⟩
 have A:=Yv.1 l i (Y9.2 B);rw[ho,k]at A;refine RG.step (olds:=olds) hd ho k A (λd p=>?_) (λt s y=>?_) (λj E D q g=>?_) f (R.cert i o it ho k) v m h
 .have:=Yv.1 r it (YZ k);rw[p]at this;simpa using this
 .have C:=Yv.1 n (t,s) y;refine⟨R.old t s y,λb u=>?_⟩;have c:=C;dsimp only at c;rw[u]at c;dsimp only at c;cases z:bl[b]? with
  | none=>rw[z]at c;cases c
  | some e=>rw[z]at c;exact⟨e,rfl,by simpa using c⟩
 .have c:=Yv.1 l j (Y9.2 (XT.1 g).1);rw[q,g]at c;simp only[okB,XZ]at c;simpa using c.1.1.1.1
def Reg.back{i:Nat}{o:Yw}(R:Reg P ops Q w0 k0 X its bl olds a0 μ0)(ho:ops[i]? = some o):i<its.length/\∀e∈o.after,Y3 .any e=true->e.on<i:=by
 have g:=R.chk;simp only[allB,XZ,beq_iff_eq]at g;obtain⟨⟨⟨⟨d,hd⟩,f⟩,l⟩,k⟩:=g;have b:i<its.length:=by rw[<-d];exact(X9.1 ho).1
 have c:=Yv.1 k i (Y9.2 b);rw[ho,XV b]at c;simp only[okB,XZ]at c;refine⟨b,λe m j=>?_⟩;have:=ZJ.1 c.1.1.2 e m;simpa[j]using this
def Reg.size(R:Reg P ops Q w0 k0 X its bl olds a0 μ0):ops.size=its.length:=by
 have k:=R.chk;simp only[allB,XZ,beq_iff_eq]at k;exact k.1.1.1.1
def Reg.full{a:Act}(R:Reg P ops Q w0 k0 X its bl olds a0 μ0)(h:Inv ops its bl a0 w0 k0 X μ0 L a w)(g:Yq .any ops L=[]):∀i,i<its.length->on L i=true:=by
 intro i;induction i using yD9 with
 | ind i ih =>
  intro c;have ho:ops[i]? = some (ops[i]'(by rw[R.size];exact c)):=Ye _;cases k:on L i with
  | true=>rfl
  | false =>
   have:i∈Yq .any ops L:=mem_ready.2 ⟨?_,_,ho,λe f d=>?_⟩
   .rw[g]at this;cases this
   .unfold on at k;rw[XU,Ye (by rw[h.size];exact c)]at k⊢;exact k
   .have b:=(R.back ho).2 e f d;exact ih e.on b (Nat.lt_trans b c)
def ad(ks:List Nat)(b:Nat):Nat:=ks.getD b 0
structure St(w0:XF)(k0:Nat)(X:List Nat)(cs:List (List XG))(ks:List Nat)(w:XF):Prop where
 bel:BelX k0 X w0 w
 le:k0<=w.heap.size
 len:ks.length=cs.length
 has:∀(b:Nat) (c:List XG),cs[b]? = some c->w.rangeAt (ad ks b) 0 c/\w.there (ad ks b) 0 c.length/\ad ks b<w.heap.size/\(k0<=ad ks b\/ad ks b∈X)
 inj:∀(b c:Nat),b<cs.length->c<cs.length->b≠c->ad ks b≠ad ks c
def St.drew{cs:List (List XG)}{ks:List Nat}(h:St w0 k0 X cs ks w):St w0 k0 X cs ks w.drew:=⟨h.bel.drew,h.le,h.len,h.has,h.inj⟩
def Bl.fin(e:Bl):List XG:=if e.st.isSome=true then e.after else e.before
def nQ(k:List Bl)(n:Nat):Bool:=k.zipIdx.all (λx=>x.1.al.isNone == decide (x.2<n)) && decide (n<=k.length)
def AE{s:Array Yw}{cs:List (List XG)}{ks:List Nat}(q:St w0 k0 X cs ks w)(x:nQ bl cs.length=true)(u:(bl.map (·.before)).take cs.length=cs):
 Inv s its bl a0 w0 k0 X (ad ks) (XW its.length false) a0 w:=by
 simp only[nQ,XZ]at x;have g:∀i,on (XW its.length false) i=false:=λi=>by
  unfold on;rw[XU,yAZ];by_cases h:i<its.length
  .rw[yE3 h];rfl
  .rw[yE4 h];rfl
 have k:∀(b:Nat) (e:Bl),bl[b]? = some e->e.live (XW its.length false)=true->b<cs.length:=λb e l p=>by
  have n:=kC x.1 e l;unfold Bl.live at p;cases m:e.al with
  | none=>simpa[m]using n
  | some j=>rw[m]at p;have:on (XW its.length false) j=true:=p;rw[g]at this;cases this
 have m:∀e:Bl,e.put (XW its.length false)=false:=λe=>by
  unfold Bl.put;cases e.st with
  | none=>rfl
  | some j=>exact g j
 have n:∀(b:Nat) (e:Bl),bl[b]? = some e->b<cs.length->cs[b]? = some e.before:=λb e l t=>by
  rw[<-u,ZE,yE3 t,YC,l];rfl
 refine⟨Array.size_replicate,(λi o _ h=>by rw[g]at h;cases h),ad ks,λ_ _ _ _=>rfl,⟨rfl,rfl,λi it d a ho=>?_,λ_ _=>rfl⟩,⟨q.bel,q.le,λb e l p=>?_,λb c e f l z y hf r=>q.inj b c (k b e l y) (k c f z hf) r⟩,λb e l v=>?_⟩
 .rw[g]at ho;cases ho
 .unfold Bl.now;rw[m e];exact q.has b e.before (n b e l (k b e l p))
 .rw[m e]at v;cases v
def Inv.done{a:Act}{cs:List (List XG)}{ks:List Nat}(R:Reg P ops Q w0 k0 X its bl olds a0 (ad ks))(h:Inv ops its bl a0 w0 k0 X (ad ks) L a w)(o:ks.length=cs.length)(C:nQ bl cs.length=true)(k:∀i,i<its.length->on L i=true)
 (p:∀e∈bl,∀j,e.al=some j\/e.st=some j->j<its.length) (s:∀e∈bl,e.fin.length=e.before.length)
 (I:∀(new:List Nat) (w':XF),new.length=bl.length-cs.length->St w0 k0 X (bl.map Bl.fin) (ks++new) w'->Q .normal (puts (ad (ks++new)) its a0) w'):Q .normal a w:=by
 obtain⟨E,-,μ,hμ,H,A,N⟩:=h;have J:=R.chk;simp only[allB,XZ,beq_iff_eq]at J;obtain⟨⟨⟨⟨u,hd⟩,y⟩,v⟩,G⟩:=J;have M:=C;simp only[nQ,XZ,decide_eq_true_eq]at C;have f:∀(b:Nat) (e:Bl),bl[b]? = some e->e.live L=true:=λb e m=>by
  unfold Bl.live;cases g:e.al with
  | none=>rfl
  | some j=>exact k j (p e (YZ m) j (Yk g))
 have z:∀(b:Nat) (e:Bl),bl[b]? = some e->e.now L=e.fin:=λb e m=>by
  unfold Bl.now Bl.put Bl.fin;cases g:e.st with
  | none=>rfl
  | some j =>
   have:=k j (p e (YZ m) j (Yd g));simp[this]
 have g:∀b,b<bl.length->ad (ks++(YB (bl.length-cs.length)).map (λj=>μ (cs.length+j))) b=μ b:=λb m=>by
  unfold ad;rw[Zn];by_cases n:b<cs.length
  .rw[X1 (by rw[o];exact n)];obtain⟨e,l⟩:∃e,bl[b]? = some e:=⟨bl[b],XV m⟩
   have t:=kC C.1 e l;have q:e.al=none:=by simpa[n]using t
   rw[hμ b e l q];unfold ad;rw[Zn]
  .rw[X4 (by rw[o];omega),YC,o,List.getElem?_range oM];show μ (cs.length+(b-cs.length))=μ b
   congr 1
   omega
 have q:=H.done hd (λit D d n=>by
  have:=Yv.1 v it D;rw[n]at this;simpa using this) k
 have F:puts μ its a0=puts (ad (ks++(YB (bl.length-cs.length)).map (λj=>μ (cs.length+j)))) its a0:=by
  have key:∀it∈its,∀d,it.dst=some d->it.out.at μ=it.out.at (ad (ks++(YB (bl.length-cs.length)).map (λj=>μ (cs.length+j)))):=λit D d n=>by
   obtain⟨i,B⟩:=ZK D;have K:=(H.got i it d B (k i (XT.1 B).1) n).2;refine SV.at_congr λb m=>?_
   obtain⟨e,l,-⟩:=K b m;rw[g b (XT.1 l).1]
  clear H q y G v hd u E R k p I;generalize a0=B;induction its generalizing B with
  | nil=>rfl
  | cons it r ih =>
   rw[puts,puts];have t:B.put it.dst (it.out.at μ)=B.put it.dst (it.out.at (ad (ks++(YB (bl.length-cs.length)).map (λj=>μ (cs.length+j))))):=by
    cases n:it.dst with
    | none=>rfl
    | some d=>rw[key it YL d n]
   rw[t];exact ih (λx hx=>key x (Yx _ hx)) _
 rw[q,F];refine I _ w (by simp) ⟨A.bel,A.le,?_,λb c p=>?_,λb c m p B=>?_⟩
 .simp only[XP,X7,List.length_range];omega
 .rw[YC]at p;cases l:bl[b]? with
  | none=>rw[l]at p;cases p
  | some e =>
   rw[l]at p;obtain rfl:e.fin=c:=X5.inj p;have t:=A.has b e l (f b e l);rw[z b e l]at t;rw[g b (XT.1 l).1,s e (YZ l)];exact t
 .rw[X7]at m p;rw[g b m,g c p];exact A.inj b c _ _ (XV m) (XV p) (f b _ (XV m)) (f c _ (XV p)) B
def region_draws'{id:Nat}{cs:List (List XG)}{ks:List Nat}(v:P.follows .mixedOrders=true)(q:St w0 k0 X cs ks w)(R:Reg P ops Q w0 k0 X its bl olds a0 (ad ks))(p:nQ bl cs.length=true)(s:(bl.map (·.before)).take cs.length=cs)(hE:(∀e∈bl,∀j,e.al=some j\/e.st=some j->j<its.length)/\∀e∈bl,e.fin.length=e.before.length)
 (t:∀(new:List Nat) (w':XF),new.length=bl.length-cs.length->St w0 k0 X (bl.map Bl.fin) (ks++new) w'->Q .normal (puts (ad (ks++new)) its a0) w'):(Zg id ops true).wp P Q a0 w:=by
 obtain⟨l,c⟩:=hE;have key:∀(k:Nat) (L:Array Bool) (a:Act) (w:XF),unl L=k->Inv ops its bl a0 w0 k0 X (ad ks) L a w->wpAny P .any ops Q k L a w:=by
  intro k;induction k with
  | zero =>
   intro L a w u g;have f:∀i,i<its.length->on L i=true:=λi m=>lE u (by rw[g.size];exact m)
   refine⟨?_,g.done R q.len p f l c t⟩;apply List.eq_nil_iff_forall_not_mem.2;intro i m;obtain⟨d,o,ho,-⟩:=mem_ready.1 m;have n:=f i (R.back ho).1;unfold on at n;rw[XU]at d n;cases hh:L[i]? with
   | none=>rw[hh]at d;cases d
   | some b=>rw[hh]at d n;rw[show b=false from d]at n;cases n
  | succ k ih =>
   intro L a w u g;refine⟨λx=>g.done R q.len p (R.full g x) l c t,λi m=>?_⟩;obtain⟨d,o,ho,n⟩:=mem_ready.1 m;have f:on L i=false:=by
    unfold on;rw[XU]at d⊢;cases hh:L[i]? with
    | none=>rfl
    | some b=>rw[hh]at d;exact d
   exact wpOp_mono (λy w' r=>ih _ y w' (oN (mK d)) r) (R.step ho f n g)
 refine wp_region_any v (key _ _ a0 _ ?_ ?_)
 .unfold unl;rw[Array.toList_replicate,List.countP_replicate];simp
 .rw[R.size];exact AE q.drew p s
def region_text'{id:Nat}{cs:List (List XG)}{ks:List Nat}(p:St w0 k0 X cs ks w)(R:Reg P ops Q w0 k0 X its bl olds a0 (ad ks))(o:nQ bl cs.length=true)(n:(bl.map (·.before)).take cs.length=cs)(hE:(∀e∈bl,∀j,e.al=some j\/e.st=some j->j<its.length)/\∀e∈bl,e.fin.length=e.before.length)
 (g:∀(new:List Nat) (w':XF),new.length=bl.length-cs.length->St w0 k0 X (bl.map Bl.fin) (ks++new) w'->Q .normal (puts (ad (ks++new)) its a0) w'):(Zg id ops false).wp P Q a0 w:=by
 obtain⟨f,k⟩:=hE;have key:∀(m i:Nat) (L:Array Bool) (a:Act) (w:XF),i+m=its.length->(∀j,j<its.length->on L j=decide (j<i))->Inv ops its bl a0 w0 k0 X (ad ks) L a w->wpOps P ops Q (List.range' i m) a w:=by
  intro m;induction m with
  | zero =>
   intro i L a w t b d;exact d.done R p.len o (λj c=>by rw[b j c];simp;omega) f k g
  | succ m ih =>
   intro i L a w t b d;rw[List.range'_succ,wpOps_cons];have ho:ops[i]? = some (ops[i]'(by rw[R.size];omega)):=Ye _;refine wpOp_mono (λs w' l=>ih (i+1) _ s w' oM (λj c=>?_) l) (R.step ho (by rw[b i oM];simp) (λe r u=>?_) d)
   .rw[eE (by rw[d.size];omega),b j c];by_cases g:j<i
    .simp[g];omega
    .by_cases q:i=j
     .subst q;simp
     .have:¬j<i+1:=oM;simp[g,q,this]
   .have g:=(R.back ho).2 e r u;rw[b e.on oM];simpa using g
 refine wp_region ?_;rw[List.range_eq_range',R.size];refine key its.length 0 (XW its.length false) a0 w oM (λj c=>?_) (AE p o n);unfold on;rw[XU,yAZ,yE3 c];simp
end RG
namespace RG
variable {P:YO}{Q:yAN->Act->XF->Prop}{its:List It}{bl:List Bl}{olds:List (ZC × SV)}{ops:Array Yw}{i:Nat}{o:Yw}{it:It}{w0:XF}{k0:Nat}{X:List Nat}
def eC(c:it.kind=.stay)(k:∀(μ:Nat->Nat) (a:Act) (w:XF),Known ops i its olds it.need μ a->BelX k0 X w0 w->(Ym a.eval o).run P w=.ok (.value (it.out.at μ)) w):Cert P Q w0 k0 X ops i its bl olds o it:=by
 intro μ a w K d _ b;rw[c];intro h;unfold Y8;rw[k μ a w d b];exact h
def qF{b off:Nat}{T:Yj}{t:ZC}{cs:List XG}(r:it.kind=.stay)(e:Bl)(x:bl[b]? = some e)(m:e.al=none)(g:readB ops i e=true)(ho:o.op=.load T (.tmp t))(c:it.out=.v (.agg cs.toArray))(hx:∀(μ:Nat->Nat) (a:Act),Known ops i its olds it.need μ a->a.eval (.tmp t)=(SV.p b off).at μ)(k:(e.before.drop off).take cs.length=cs)(n:(P.underlying T).map (·.isRow)=some true)(u:(P.info? T).map (·.size)=some cs.length):Cert P Q w0 k0 X ops i its bl olds o it:=by
 intro μ a w K s hR _;rw[r];intro h;rw[c]at h;obtain⟨d,n,hd⟩:=XK.1 n;refine wp_load_mid T (.tmp t) ho (μ b) off (hx μ a s) cs d (λj v f=>?_) n hd u h;have p:=hR b e x (Yk m) g (off+j) v ?_
 .rw[XQ]at p;exact p
 .rw[<-k]at f;have l:j<cs.length:=by
   have q:=(XT.1 f).1;rw[k]at q;exact q
  rw[ZE,yE3 l,yCa]at f;exact f
def uO{args:Array XG}{v:XG}(d:it.kind=.call)(f:ZZ)(b:it.out=.v v)(c:∀(μ:Nat->Nat) (a:Act) (w:XF),Known ops i its olds it.need μ a->BelX k0 X w0 w->(Ym a.eval o).run P w=.ok (.enter f args) w)(j:∀w,BelX k0 X w0 w->ZI P f args w (rZ w λe w'=>e=v)):Cert P Q w0 k0 X ops i its bl olds o it:=by
 intro μ a w K g _ k;rw[d];intro h;rw[b]at h;unfold Y8;rw[c μ a w g k,ZU];refine(j w k).mono ?_;rintro e w' ⟨m,rfl,l,rfl⟩;exact h w' l
def A7{b:Nat}(j:it.kind=.make b)(e:Bl)(g:bl[b]? = some e)(t:Yj)(k:∀(μ:Nat->Nat) (a:Act) (w:XF),Known ops i its olds it.need μ a->BelX k0 X w0 w->(Ym a.eval o).run P w=.ok (.value (it.out.at (upd μ b w.heap.size))) (w.alloc (.cells e.before.toArray t))):Cert P Q w0 k0 X ops i its bl olds o it:=by
 intro μ a w K f _ c;rw[j];intro e' d h;rw[g]at d;obtain rfl:e=e':=X5.inj d;unfold Y8;rw[k μ a w f c];exact h _ _ (Made.alloc w e.before t)
def Mo{b:Nat}{e:Bl}{x y:yAp}(l:it.kind=.put b)(r:bl[b]? = some e)(T:Yj)(ho:o.op=.store T x y)(f:o.dst=none)(k:e.after.length=e.before.length)(hx:∀(μ:Nat->Nat) (a:Act),Known ops i its olds it.need μ a->a.eval x=(SV.p b 0).at μ)(n:∀(μ:Nat->Nat) (a:Act),Known ops i its olds it.need μ a->a.eval y=.agg e.after.toArray)(q:(P.info? T).map (·.size)=some e.after.length)(p:e.after.all (·.oneCell')=true):Cert P Q w0 k0 X ops i its bl olds o it:=by
 intro μ a w K g _ _;rw[l];intro e' c j m h;rw[r]at c;obtain rfl:e=e':=X5.inj c;have d:=PutTo.whole j m k;refine wp_store_mid T x y ho (μ b) 0 e.after.toArray (hx μ a g) (n μ a g) ?_ ?_ ?_ ?_
 .rw[YJ,k];exact j
 .rw[YJ];exact q
 .exact all_oneCell_toArray (λv hv=>Yv.1 p v hv)
 .have:=h _ d;rw[f]at this⊢;exact this
def Known.op{k:List (ZC × Nat)}{μ:Nat->Nat}{a:Act}(h:Known ops i its olds k μ a)(t:ZC)(j:Nat)(d:(t,j)∈k){b:It}(c:its[j]? = some b):a.eval (.tmp t)=b.out.at μ:=h.1 t j b d c
def Known.old{k:List (ZC × Nat)}{μ:Nat->Nat}{a:Act}(h:Known ops i its olds k μ a)(t:ZC)(s:SV)(b:(t,s)∈olds)(hf:GV ops its i t=true):a.eval (.tmp t)=s.at μ:=h.2 t s b hf
def len1{l:List Nat}(h:l.length=1):∃k,l=[k]:=List.length_eq_one_iff.1 h
def len2{l:List Nat}(h:l.length=2):∃k j,l=[k,j]:=by
 match l,h with
 | [k,j],_=>exact⟨k,j,rfl⟩
end RG
namespace RG
variable {P:YO}{ops:Array Yw}{Q:yAN->Act->XF->Prop}{w0 w:XF}{k0:Nat}{X:List Nat}{its:List It}{bl:List Bl}{olds:List (ZC × SV)}{a0:Act}{L:Array Bool}{μ μ0:Nat->Nat}{i:Nat}{o:Yw}{it:It}
def Certs(P:YO)(Q:yAN->Act->XF->Prop)(e:XF)(d:Nat)(X:List Nat)(k:Array Yw)(b:List It)(c:List Bl)(olds:List (ZC × SV)):Nat->List Yw->List It->Prop
 | _,[],_=>True
 | _,_ :: _,[]=>False
 | i,o :: os,it :: is=>Cert P Q e d X k i b c olds o it/\Certs P Q e d X k b c olds (i+1) os is
def Certs.get:∀ {b:List Yw}{k:List It}{n:Nat},Certs P Q w0 k0 X ops its bl olds n b k->∀(i:Nat) (o:Yw) (it:It),b[i]? = some o->k[i]? = some it->Cert P Q w0 k0 X ops (n+i) its bl olds o it
 | [],_,_,_,i,_,_,h,_=>by simp at h
 | _ :: _,[],_,h,_,_,_,_,_=>h.elim
 | o :: b,it :: k,_,h,0,o',it',ho,hi=>by
  obtain rfl:o=o':=by simpa using ho
  obtain rfl:it=it':=by simpa using hi
  exact h.1
 | o :: b,it :: k,n,h,i+1,o',it',ho,hi=>by
  have:=Certs.get h.2 i o' it' (by simpa using ho) (by simpa using hi);rw[show n+(i+1)=n+1+i by omega];exact this
def Olds(a0:Act)(k:Nat->Nat):List (ZC × SV)->Prop
 | []=>True
 | x :: r=>a0.tmps[x.1]? = some (x.2.at k)/\Olds a0 k r
def Olds.get:∀ {l:List (ZC × SV)},Olds a0 μ0 l->∀(t:ZC) (s:SV),(t,s)∈l->a0.tmps[t]? = some (s.at μ0)
 | [],_,_,_,h=>by cases h
 | x :: r,h,t,s,hm=>by
  rcases Zc.1 hm with e|e
  .subst e;exact h.1
  .exact Olds.get h.2 t s e
def Reg.mk'(chk:allB ops its bl olds a0.tmps.size=true)(old:Olds a0 μ0 olds)(k:Certs P Q w0 k0 X ops its bl olds 0 ops.toList its):Reg P ops Q w0 k0 X its bl olds a0 μ0:=
 ⟨chk,λt s c=>old.get t s c,λi o it ho b=>by have:=k.get i o it (by rw[YI];exact ho) b;rwa[XQ]at this⟩
def zZ{f:ZZ}{t1:ZC}{v1 v:XG}(c:it.kind=.call)(b:it.out=.v v)(k:∀(a:Act) (w:XF),(Ym a.eval o).run P w=.ok (.enter f #[a.eval (.tmp t1)]) w)(d:∀(μ:Nat->Nat) (a:Act),Known ops i its olds it.need μ a->a.eval (.tmp t1)=v1)(j:∀w,ZI P f #[v1] w (rZ w λe w'=>e=v)):Cert P Q w0 k0 X ops i its bl olds o it:=
 uO c f (args:=#[v1]) b (λμ a w g _=>by rw[k,d μ a g]) (λw _=>j w)
def Pw{b k:Nat}(c:it.out=.p b 0):it.out.at (upd μ b k)=jZ k:=by
 rw[c];show jZ (upd μ b k b)=_;unfold upd;rw[yE3 rfl]
def rD{e:Bl}{T:Yj}(b:Nat)(d:it.kind=.make b)(k:it.out=.p b 0)(c:bl[b]? = some e)(ho:o.op=.alloc T)(f:∀w:XF,(yEu T true (.tuple #[])).run P w=.ok (jZ w.heap.size) (w.alloc (.cells e.before.toArray T))):Cert P Q w0 k0 X ops i its bl olds o it:=by
 refine A7 d e c T λμ a w g _=>?_
 unfold Ym;rw[ho];rw[Pw k];show((yEu T true (.tuple #[])) >>= λv=>pure (ZW v)).run P w=_;rw[X6,f];rfl
def aH{t:ZC}{T:Yj}{b:Nat}{c:List XG}{e:Func}{a:Act}{cs:List (List XG)}{ks:List Nat}(j:St w0 k0 X cs ks w)(m:e.results=#[.cell t T])(g:cs[b]? = some c)(l:a.tmps[t]? = some (jZ (ad ks b)))(k:(P.underlying T).map (·.isRow)=some true)(f:(P.info? T).map (·.size)=some c.length):(results e a.tmps).run P w=.ok (.agg c.toArray) w:=by
 obtain⟨d,k,hd⟩:=XK.1 k;have n:=yAH (P:=P) w (ad ks b) 0 T c d (j.has b c g).1 k hd f;have i:a.tmps.getD t ZB=jZ (ad ks b):=by rw[XU,l];rfl
 unfold results;rw[m];simp only[yAl,yBB,yBN,i,asAddr];simp[X6,n]
def St.begin(w:XF):St w w.heap.size [] [] [] w:=⟨BelX.refl _ _ _,XH _,rfl,λb c h=>by simp at h,λb c h=>by simp at h⟩
end RG
namespace RG
variable {P:YO}{ops:Array Yw}{Q:yAN->Act->XF->Prop}{w0 w:XF}{k0:Nat}{X:List Nat}{its:List It}{bl:List Bl}{olds:List (ZC × SV)}{a0:Act}{i:Nat}{o:Yw}{it:It}
def dD(k:it.kind=.pass)(h:it.out=.v ZB):Cert P Q w0 k0 X ops i its bl olds o it:=by
 intro μ a w K _ _ _;rw[k];exact h
def aO{T:Yj}{t1 t2:ZC}{v1 v2 v:XG}(d:it.kind=.stay)(op:BinOp)(e:Yj)(ho:o.op=.binOp op T (.tmp t1) (.tmp t2) e)(k:it.out=.v v)(f:∀(μ:Nat->Nat) (a:Act),Known ops i its olds it.need μ a->a.eval (.tmp t1)=v1)(g:∀(μ:Nat->Nat) (a:Act),Known ops i its olds it.need μ a->a.eval (.tmp t2)=v2)(c:∀w,(eqGuard op T (.tmp t1) (.tmp t2) v1 v2).run P w=.ok () w)(j:∀w,(binOp op T v1 v2).run P w=.ok v w):Cert P Q w0 k0 X ops i its bl olds o it:=by
 refine eC d λμ a w b _=>?_
 unfold Ym;rw[ho,k];dsimp only;rw[f μ a b,g μ a b,X6,X6,c];dsimp only[yCF];rw[j];rfl
def jJ{t:ZC}{v:XG}{k:Func}{a:Act}(d:k.results=#[.tmp t])(c:a.tmps[t]? = some v):(results k a.tmps).run P w=.ok v w:=by
 have b:a.tmps.getD t ZB=v:=by rw[XU,c];rfl
 unfold results;rw[d];simp only[yAl,yBB,yBN,b];simp[X6]
def cV{t u:ZC}{T:Yj}{b:Nat}{c:List XG}{v:XG}{f:Func}{a:Act}{cs:List (List XG)}{ks:List Nat}(m:St w0 k0 X cs ks w)(g:f.results=#[.cell t T,.tmp u])(p:cs[b]? = some c)(n:a.tmps[t]? = some (jZ (ad ks b)))(k:a.tmps[u]? = some v)(e:(P.underlying T).map (·.isRow)=some true)(l:(P.info? T).map (·.size)=some c.length):(results f a.tmps).run P w=.ok (.tuple #[.agg c.toArray,v]) w:=by
 obtain⟨d,e,hd⟩:=XK.1 e;have j:=yAH (P:=P) w (ad ks b) 0 T c d (m.has b c p).1 e hd l;have o:a.tmps.getD t ZB=jZ (ad ks b):=by rw[XU,n];rfl
 have i:a.tmps.getD u ZB=v:=by rw[XU,k];rfl
 unfold results;rw[g];simp only[yAl,yBB,yBN,o,i,asAddr];simp[X6,j]
end RG
namespace RG
variable {P:YO}{ops:Array Yw}{Q:yAN->Act->XF->Prop}{w0 w:XF}{k0:Nat}{X:List Nat}{its:List It}{bl:List Bl}{olds:List (ZC × SV)}{a0 a:Act}{i:Nat}{o:Yw}{it:It}{μ:Nat->Nat}
structure Sl(a:Act)(n:Nat):Prop where
 size:a.tmps.size=n
 defers:a.defers=[]
def Sl.puts{n:Nat}(h:Sl a n):Sl (puts μ its a) n:=⟨by rw[AL];exact h.size,by rw[oC];exact h.defers⟩
def B8{t:ZC}{v:XG}(h:a.tmps[t]? = some v):a.eval (.tmp t)=v:=by
 show a.tmps.getD t ZB=v;rw[XU,h];rfl
def results_none{k:Func}{tmps:Array XG}(b:k.results=#[]):(results k tmps).run P w=.ok (.tuple #[]) w:=by
 unfold results;rw[b];simp
def Jr{c:Code}{v0:XG}{n:Nat}(k:a.tmps[0]? = some v0)(b:a.tmps.size=n)(hd:a.defers=[])(h:∀a,Sl a n->a.tmps[0]? = some v0->c.wp P Q a w):c.wp P Q a w:=h a ⟨b,hd⟩ k
def QO{c:Code}{v0 v1:XG}{n:Nat}(k:a.tmps[0]? = some v0)(d:a.tmps[1]? = some v1)(b:a.tmps.size=n)(hd:a.defers=[])(h:∀a,Sl a n->a.tmps[0]? = some v0->a.tmps[1]? = some v1->c.wp P Q a w):c.wp P Q a w:=h a ⟨b,hd⟩ k d
def V0{c:Code}{v0 v1 v2:XG}{n:Nat}(k:a.tmps[0]? = some v0)(d:a.tmps[1]? = some v1)(e:a.tmps[2]? = some v2)(b:a.tmps.size=n)(hd:a.defers=[])(h:∀a,Sl a n->a.tmps[0]? = some v0->a.tmps[1]? = some v1->a.tmps[2]? = some v2->c.wp P Q a w):c.wp P Q a w:=h a ⟨b,hd⟩ k d e
def nG{e:Bl}{T E:Yj}{t1 t2:ZC}{n:Nat}(b:Nat)(d:it.kind=.make b)(m:bl[b]? = some e)(k:it.out=.s b n n)(ho:o.op=.makeSlice T (.tmp t1) (.tmp t2))(j:∀(μ:Nat->Nat) (a:Act),Known ops i its olds it.need μ a->a.eval (.tmp t1)=iZ n)(l:∀(μ:Nat->Nat) (a:Act),Known ops i its olds it.need μ a->a.eval (.tmp t2)=iZ n)(g:∀w:XF,(Instr.makeSlice T (iZ n) (iZ n)).run P w=.ok (sZ w.heap.size n n) (w.alloc (.cells e.before.toArray E))):Cert P Q w0 k0 X ops i its bl olds o it:=by
 refine A7 d e m E λμ a w c _=>?_
 have f:it.out.at (upd μ b w.heap.size)=sZ w.heap.size n n:=by
  rw[k];show sZ (upd μ b w.heap.size b) n n=_;unfold upd;rw[yE3 rfl]
 unfold Ym;rw[ho];dsimp only;rw[j μ a c,l μ a c,f,X6,g];rfl
def gJ{t:ZC}(c:it.kind=.stay)(s:SV)(v:XG)(k:it.out=.v v)(hx:∀(μ:Nat->Nat) (a:Act),Known ops i its olds it.need μ a->a.eval (.tmp t)=s.at μ)(hE:∀(a:Act) (w:XF),(Ym a.eval o).run P w=(Ym (λ_=>a.eval (.tmp t)) o).run P w)(b:∀(μ:Nat->Nat) (w:XF),(Ym (λ_=>s.at μ) o).run P w=.ok (.value v) w):Cert P Q w0 k0 X ops i its bl olds o it:=by
 refine eC c λμ a w d _=>?_
 rw[hE,hx μ a d,b,k];rfl
def Fj{b:Nat}{f:ZZ}{v:XG}(n:it.kind=.call)(e:Bl)(y:bl[b]? = some e)(l:e.al=none)(g:readB ops i e=true)(p:e.before≠[])(args:(Nat->Nat)->Array XG)(c:it.out=.v v)(d:∀(μ:Nat->Nat) (a:Act) (w:XF),Known ops i its olds it.need μ a->(Ym a.eval o).run P w=.ok (.enter f (args μ)) w)(u:∀(μ:Nat->Nat) (w:XF),μ b<w.heap.size->w.rangeAt (μ b) 0 e.before->ZI P f (args μ) w (rZ w λr w'=>r=v)):Cert P Q w0 k0 X ops i its bl olds o it:=by
 intro μ a w K q hR _;rw[n];intro h;rw[c]at h;have m:=hR b e y (Yk l) g;have j:μ b<w.heap.size:=by
  cases k:e.before with
  | nil=>exact absurd k p
  | cons x r =>
   have s:=m 0 x (by rw[k];rfl);exact Zw λz=>by
    have t:w.heap[μ b]? = none:=ZY oM;simp[YY,t]at s
 unfold Y8;rw[d μ a w q,ZU];refine(u μ w j m).mono ?_;rintro r w' ⟨s,rfl,k,rfl⟩;exact h w' k
def tP{k o:Nat}{C cs:List XG}(h:w.rangeAt k 0 C)(b:∀j,j<cs.length->C[o+j]? = cs[j]?):w.rangeAt k o cs:=λj v hv=>by
 have c:=(XT.1 hv).1;have:=h (o+j) v (by rw[b j c];exact hv);rwa[XQ]at this
def aY{t u:ZC}{iv:XG}(c:it.kind=.stay)(T:Yj)(ho:o.op=.indexAddr T (.tmp t) (.tmp u))(s:SV)(hx:∀(μ:Nat->Nat) (a:Act),Known ops i its olds it.need μ a->a.eval (.tmp t)=s.at μ)(b:∀(μ:Nat->Nat) (a:Act),Known ops i its olds it.need μ a->a.eval (.tmp u)=iv)(hf:∀(μ:Nat->Nat) (w:XF),(YV T (s.at μ) iv).run P w=.ok (it.out.at μ) w):Cert P Q w0 k0 X ops i its bl olds o it:=by
 refine eC c λμ a w k _=>?_
 unfold Ym;rw[ho];dsimp only;rw[hx μ a k,b μ a k,X6,hf];rfl
def eU{t:ZC}(b:it.kind=.stay)(T:Yj)(iv:XG)(ho:o.op=.indexAddr T (.tmp t) (.const iv))(s:SV)(hx:∀(μ:Nat->Nat) (a:Act),Known ops i its olds it.need μ a->a.eval (.tmp t)=s.at μ)(hf:∀(μ:Nat->Nat) (w:XF),(YV T (s.at μ) iv).run P w=.ok (it.out.at μ) w):Cert P Q w0 k0 X ops i its bl olds o it:=by
 refine eC b λμ a w k _=>?_
 unfold Ym;rw[ho];dsimp only;rw[hx μ a k];show((YV T (s.at μ) iv) >>= λv=>pure (ZW v)).run P w=_;rw[X6,hf];rfl
def aN{T:Yj}{t1:ZC}{v1 v2 v:XG}(g:it.kind=.stay)(op:BinOp)(e:Yj)(ho:o.op=.binOp op T (.tmp t1) (.const v2) e)(k:it.out=.v v)(f:∀(μ:Nat->Nat) (a:Act),Known ops i its olds it.need μ a->a.eval (.tmp t1)=v1)(c:∀w,(eqGuard op T (.tmp t1) (.const v2) v1 v2).run P w=.ok () w)(d:∀w,(binOp op T v1 v2).run P w=.ok v w):Cert P Q w0 k0 X ops i its bl olds o it:=by
 refine eC g λμ a w b _=>?_
 unfold Ym;rw[ho,k];dsimp only;rw[f μ a b];show(((eqGuard op T (.tmp t1) (.const v2) v1 v2) >>= λ_=>binOp op T v1 v2) >>= λv=>pure (ZW v)).run P w=_;rw[X6,X6,c];dsimp only[yCF];rw[d];rfl
def IZ{S T:Yj}{t:ZC}{v b:XG}(d:it.kind=.stay)(ho:o.op=.convert S T (.tmp t))(k:it.out=.v b)(hx:∀(μ:Nat->Nat) (a:Act),Known ops i its olds it.need μ a->a.eval (.tmp t)=v)(e:∀w,(convert S T v).run P w=.ok b w):Cert P Q w0 k0 X ops i its bl olds o it:=by
 refine eC d λμ a w c _=>?_
 unfold Ym;rw[ho,k];dsimp only;rw[hx μ a c,X6,e];rfl
def O9{t:ZC}{v b:XG}(d:it.kind=.stay)(op:UnOp)(T:Yj)(ho:o.op=.unOp op T (.tmp t))(k:it.out=.v b)(hx:∀(μ:Nat->Nat) (a:Act),Known ops i its olds it.need μ a->a.eval (.tmp t)=v)(e:∀w,(Op.unary op v).run P w=.ok b w):Cert P Q w0 k0 X ops i its bl olds o it:=by
 refine eC d λμ a w c _=>?_
 unfold Ym;rw[ho,k];dsimp only;rw[hx μ a c,X6,e];rfl
def eK{k off:Nat}{T:Yj}{t:ZC}{cs:List XG}(g:it.kind=.stay)(c:k<k0)(f:k ∉ X)(ho:o.op=.load T (.tmp t))(b:it.out=.v (.agg cs.toArray))(hx:∀(μ:Nat->Nat) (a:Act),Known ops i its olds it.need μ a->a.eval (.tmp t)=oZ k off)(m:w0.rangeAt k off cs)(e:(P.underlying T).map (·.isRow)=some true)(n:(P.info? T).map (·.size)=some cs.length):Cert P Q w0 k0 X ops i its bl olds o it:=by
 intro μ a w K l _ p;rw[g];intro h;rw[b]at h;obtain⟨d,e,hd⟩:=XK.1 e;refine wp_load_mid T (.tmp t) ho k off (hx μ a l) cs d (λj v q=>?_) e hd n h;rw[Yb (w:=w0) (a:=⟨k,off+j,none⟩) (p.block k c f)];exact m j v q
def eN{T:Yj}{k off:Nat}{v:XG}(e:w.cell? ⟨k,off,none⟩=some v)(c:(P.underlying T).map (·.isRow)=some false):(yCm T (oZ k off)).run P w=.ok v w:=by
 obtain⟨d,c,hd⟩:=XK.1 c;have b:(isAgg T).run P w=.ok false w:=by
  unfold isAgg;rw[X6,run_underlying c w];cases d<;>simp_all
 simp[yCm,yAP,loadVar,X6,b,e]
def zY{b off:Nat}{e:Bl}{T:Yj}{t:ZC}{v:XG}(j:it.kind=.stay)(m:bl[b]? = some e)(f:e.al=none)(d:readB ops i e=true)(ho:o.op=.load T (.tmp t))(k:it.out=.v v)(hx:∀(μ:Nat->Nat) (a:Act),Known ops i its olds it.need μ a->a.eval (.tmp t)=(SV.p b off).at μ)(c:e.before[off]? = some v)(n:(P.underlying T).map (·.isRow)=some false):Cert P Q w0 k0 X ops i its bl olds o it:=by
 intro μ a w K l hR _;rw[j];intro h;rw[k]at h;have g:=hR b e m (Yk f) d off v c;rw[XQ]at g;unfold Y8 Ym;rw[ho];dsimp only;rw[hx μ a l];show o.upon P a K Q (((yCm T (oZ (μ b) off)) >>= λv=>pure (ZW v)).run P w);rw[X6,eN g n];exact h
def yB{T:Yj}{k off:Nat}{v u:XG}(g:w.cell? ⟨k,off,none⟩=some u)(hf:w.frozen? ⟨k,off,none⟩=false)(f:v.oneCell'=true)(hv:v.cells=#[v])(d:(P.info? T).map (·.size)=some 1):(yBk T (oZ k off) v).run P w=.ok () (w.setCells k off [v]):=by
 have:=run_storeCells_cells (P:=P) k off [v] 0 w (λj c=>by
  obtain rfl:j=0:=by simpa using c
  simp[g]) (λj c=>by
  obtain rfl:j=0:=by simpa using c
  simpa using hf) (λx hx=>by
  obtain rfl:x=v:=by simpa using hx
  exact f)
 cases b:P.info? T with
 | none=>simp[b]at d
 | some inf =>
  have e:inf.size=1:=by simp[b]at d;omega
  simp only[yAi]at this;simp[yBk,yAP,storeVar,sizeOf,typeInfo,b,hv,e,this]
def IY{b off:Nat}{e:Bl}{T:Yj}{x y:yAp}{v:XG}(p:it.kind=.put b)(z:bl[b]? = some e)(ho:o.op=.store T x y)(f:o.dst=none)(hx:∀(μ:Nat->Nat) (a:Act),Known ops i its olds it.need μ a->a.eval x=(SV.p b off).at μ)(r:∀(μ:Nat->Nat) (a:Act),Known ops i its olds it.need μ a->a.eval y=v)(k:off<e.before.length)(c:e.after=e.before.set off v)(t:(P.info? T).map (·.size)=some 1)(s:v.oneCell'=true)(hv:v.cells=#[v]):Cert P Q w0 k0 X ops i its bl olds o it:=by
 intro μ a w K l _ _;rw[p];intro e' d m q h;rw[z]at d;obtain rfl:e=e':=X5.inj d;have g:PutTo (μ b) e.before.length e.after w (w.setCells (μ b) off [v]):=PutTo.store m q (by simp only[YA,ZD];omega) (λj=>by
  rw[c,List.getElem?_set];by_cases n:off=j
  .subst n;rw[yE3 rfl,yE3 k,yE3 (by simp)];simp
  .rw[yE4 n,yE4 (by simp only[YA,ZD];omega)])
 have c:=m off k;rw[XQ]at c;obtain⟨u,n⟩:=YP.1 c.1;unfold Y8 Ym;rw[ho];dsimp only;rw[hx μ a l,r μ a l];show o.upon P a K Q (((yBk T (oZ (μ b) off) v) >>= λ_=>pure Next.skip).run P w);rw[X6,yB n c.2 s hv t];have:=h _ g;rw[f]at this;show K (a.put o.dst ZB) _;rw[f];exact this
def fN{b off:Nat}{T:Yj}{x y:yAp}{vs:List XG}(n:it.kind=.put b)(e:Bl)(t:bl[b]? = some e)(ho:o.op=.store T x y)(g:o.dst=none)(hx:∀(μ:Nat->Nat) (a:Act),Known ops i its olds it.need μ a->a.eval x=(SV.p b off).at μ)(q:∀(μ:Nat->Nat) (a:Act),Known ops i its olds it.need μ a->a.eval y=.agg vs.toArray)(k:off+vs.length<=e.before.length)(c:∀j,e.after[j]? = if off<=j/\j<off+vs.length then vs[j-off]? else e.before[j]?)(s:(P.info? T).map (·.size)=some vs.length)(r:vs.all (·.oneCell')=true):Cert P Q w0 k0 X ops i its bl olds o it:=by
 intro μ a w K l _ _;rw[n];intro e' d m p h;rw[t]at d;obtain rfl:e=e':=X5.inj d;have f:=PutTo.store m p k c;refine wp_store_mid T x y ho (μ b) off vs.toArray (hx μ a l) (q μ a l) ?_ ?_ ?_ ?_
 .intro j u;have:=m (off+j) (by rw[YJ]at u;omega);rwa[XQ]at this
 .rw[YJ];exact s
 .exact all_oneCell_toArray (λv hv=>Yv.1 r v hv)
 .have:=h _ f;rw[g]at this⊢;exact this
def Cg{b:Nat}{v:XG}(l:it.kind=.put b)(e:Bl)(s:bl[b]? = some e)(f:ZZ)(args:(Nat->Nat)->Array XG)(d:it.out=.v v)(g:∀(μ:Nat->Nat) (a:Act) (w:XF),Known ops i its olds it.need μ a->BelX k0 X w0 w->(Ym a.eval o).run P w=.ok (.enter f (args μ)) w)(q:∀(μ:Nat->Nat) (w:XF),BelX k0 X w0 w->w.there (μ b) 0 e.before.length->w.rangeAt (μ b) 0 e.before->ZI P f (args μ) w (Ret λr w'=>PutTo (μ b) e.before.length e.after w w'/\r=v)):Cert P Q w0 k0 X ops i its bl olds o it:=by
 intro μ a w K m _ k;rw[l];intro e' c p n h;rw[s]at c;obtain rfl:e=e':=X5.inj c;rw[d]at h;unfold Y8;rw[g μ a w m k,ZU];refine(q μ w k p n).mono ?_;rintro r w' ⟨t,rfl,j,rfl⟩;exact h w' j
def St.lent{k:Nat}{C:List XG}(i:k<w.heap.size)(j:w.rangeAt k 0 C)(g:w.there k 0 C.length):St w w.heap.size [k] [C] [k] w:=by
 refine⟨BelX.refl _ _ _,XH _,rfl,λb c h=>?_,λb c e f d=>?_⟩
 .cases b with
  | zero =>
   obtain rfl:C=c:=by simpa using h
   exact⟨j,g,i,Yd YL⟩
  | succ b=>simp at h
 .simp only[YA,ZD]at e f;omega
def St.putTo{k:Nat}{C:List XG}{cs:List (List XG)}{ks:List Nat}{n:Nat}(h:St w0 w0.heap.size [k] (C :: cs) (k :: ks) w)(e:C.length=n):PutTo k n C w0 w:=by
 obtain⟨d,f,-,-⟩:=h.has 0 C rfl;refine⟨h.bel.os,h.bel.tape,h.bel.output,h.bel.size,λj c b=>h.bel.block j c (by simpa using b),d,?_⟩;rw[<-e];exact f
def rep(C:List XG)(o:Nat)(vs:List XG):List XG:=C.take o++(vs++C.drop (o+vs.length))
def cY{C vs:List XG}{o:Nat}(h:o+vs.length<=C.length):(rep C o vs).length=C.length:=by
 unfold rep;rw[XP,XP,Z8,yCy];omega
def rep_at{C vs:List XG}{o:Nat}(h:o+vs.length<=C.length)(j:Nat):(rep C o vs)[j]? = if o<=j/\j<o+vs.length then vs[j-o]? else C[j]?:=by
 unfold rep;have k:(C.take o).length=o:=by rw[Z8];omega
 by_cases b:j<o
 .rw[X1 (by rw[k];exact b),ZE,yE3 b,yE4 oM]
 .rw[X4 (by rw[k];omega),k];by_cases c:j<o+vs.length
  .rw[X1 oM,yE3 ⟨oM,c⟩]
  .rw[X4 oM,yE4 oM,yCa]
   congr 1
   omega
def QW{C cs:List XG}{o:Nat}(h:∀j,j<cs.length->C[o+j]? = cs[j]?)(b:o+cs.length<=C.length):(C.drop o).take cs.length=cs:=by
 apply List.ext_getElem?;intro j;by_cases k:j<cs.length
 .rw[ZE,yE3 k,yCa,h j k]
 .rw[ZR (by rw[Z8,yCy];omega),ZR oM]
def As{e:Bl}{t1 t2 j:ZC}{v2 g:XG}(b:Nat)(l:it.kind=.put b)(u:bl[b]? = some e)(f:ZZ)(s1:SV)(v:XG)(k:it.out=.v v)(c:∀(a:Act) (w:XF),(Ym a.eval o).run P w=.ok (.enter f #[a.eval (.tmp t1),a.eval (.tmp t2),a.eval (.tmp j)]) w)(p:∀(μ:Nat->Nat) (a:Act),Known ops i its olds it.need μ a->a.eval (.tmp t1)=s1.at μ)(s:∀(μ:Nat->Nat) (a:Act),Known ops i its olds it.need μ a->a.eval (.tmp t2)=v2)(n:∀(μ:Nat->Nat) (a:Act),Known ops i its olds it.need μ a->a.eval (.tmp j)=g)(t:∀(μ:Nat->Nat) (w:XF),w.there (μ b) 0 e.before.length->w.rangeAt (μ b) 0 e.before->ZI P f #[s1.at μ,v2,g] w (Ret λr w'=>PutTo (μ b) e.before.length e.after w w'/\r=v)):Cert P Q w0 k0 X ops i its bl olds o it:=
 Cg l e u f (λμ=>#[s1.at μ,v2,g]) k (λμ a w d _=>by rw[c,p μ a d,s μ a d,n μ a d]) (λμ w _ q m=>t μ w q m)
def DC{e:Bl}{t1 t2:ZC}{v2:XG}(l:it.kind=.call)(b:Nat)(s:bl[b]? = some e)(g:e.al=none)(d:readB ops i e=true)(m:e.before≠[])(f:ZZ)(s1:SV)(v:XG)(k:it.out=.v v)(c:∀(a:Act) (w:XF),(Ym a.eval o).run P w=.ok (.enter f #[a.eval (.tmp t1),a.eval (.tmp t2)]) w)(n:∀(μ:Nat->Nat) (a:Act),Known ops i its olds it.need μ a->a.eval (.tmp t1)=s1.at μ)(p:∀(μ:Nat->Nat) (a:Act),Known ops i its olds it.need μ a->a.eval (.tmp t2)=v2)(q:∀(μ:Nat->Nat) (w:XF),μ b<w.heap.size->w.rangeAt (μ b) 0 e.before->ZI P f #[s1.at μ,v2] w (rZ w λr w'=>r=v)):Cert P Q w0 k0 X ops i its bl olds o it:=
 Fj l e s g d m (λμ=>#[s1.at μ,v2]) k (λμ a w j=>by rw[c,n μ a j,p μ a j]) q
end RG
namespace RG
variable {P:YO}{ops:Array Yw}{Q:yAN->Act->XF->Prop}{w0 w:XF}{k0:Nat}{X:List Nat}{its:List It}{bl:List Bl}{olds:List (ZC × SV)}{a:Act}{i:Nat}{o:Yw}{it:It}
def vU{T:Yj}{t:ZC}{b v c:XG}(e:it.kind=.stay)(ho:o.op=.slice T (.tmp t) (some (.const b)) none none)(k:it.out=.v c)(hx:∀(μ:Nat->Nat) (a:Act),Known ops i its olds it.need μ a->a.eval (.tmp t)=v)(hf:∀w:XF,(ZH T v (some b) none none).run P w=.ok c w):Cert P Q w0 k0 X ops i its bl olds o it:=by
 refine eC e λμ a w d _=>?_
 unfold Ym;rw[ho,k];dsimp only;rw[hx μ a d];show((ZH T v (some b) none none) >>= λv=>pure (ZW v)).run P w=_;rw[X6,hf];rfl
def Dy{T:Yj}{t:ZC}{v b:XG}(d:it.kind=.stay)(ho:o.op=.sliceToArrayPointer T (.tmp t))(k:it.out=.v b)(hx:∀(μ:Nat->Nat) (a:Act),Known ops i its olds it.need μ a->a.eval (.tmp t)=v)(hf:∀w:XF,(Instr.arrayAt T v).run P w=.ok b w):Cert P Q w0 k0 X ops i its bl olds o it:=by
 refine eC d λμ a w c _=>?_
 unfold Ym;rw[ho,k];dsimp only;rw[hx μ a c,X6,hf];rfl
def bO{k off:Nat}{T:Yj}{t:ZC}{v:XG}(e:it.kind=.stay)(c:k<k0)(d:k ∉ X)(ho:o.op=.load T (.tmp t))(b:it.out=.v v)(hx:∀(μ:Nat->Nat) (a:Act),Known ops i its olds it.need μ a->a.eval (.tmp t)=oZ k off)(g:w0.cell? ⟨k,off,none⟩=some v)(m:(P.underlying T).map (·.isRow)=some false):Cert P Q w0 k0 X ops i its bl olds o it:=by
 refine eC e λμ a w f l=>?_
 have j:w.cell? ⟨k,off,none⟩=some v:=by
  rw[Yb (w:=w0) (a:=⟨k,off,none⟩) (l.block k c d)];exact g
 unfold Ym;rw[ho,b];dsimp only;rw[hx μ a f,X6,eN j m];rfl
def kT{f:ZZ}{t1 t2:ZC}{v1 v2 v:XG}(d:it.kind=.call)(k:it.out=.v v)(b:∀(a:Act) (w:XF),(Ym a.eval o).run P w=.ok (.enter f #[a.eval (.tmp t1),a.eval (.tmp t2)]) w)(g:∀(μ:Nat->Nat) (a:Act),Known ops i its olds it.need μ a->a.eval (.tmp t1)=v1)(j:∀(μ:Nat->Nat) (a:Act),Known ops i its olds it.need μ a->a.eval (.tmp t2)=v2)(l:∀w,BelX k0 X w0 w->ZI P f #[v1,v2] w (rZ w λe w'=>e=v)):Cert P Q w0 k0 X ops i its bl olds o it:=
 uO d f k (λμ a w c _=>by rw[b,g μ a c,j μ a c]) l
def vW{f:ZZ}{t1:ZC}{v1 v:XG}(c:it.kind=.call)(b:it.out=.v v)(k:∀(a:Act) (w:XF),(Ym a.eval o).run P w=.ok (.enter f #[a.eval (.tmp t1)]) w)(d:∀(μ:Nat->Nat) (a:Act),Known ops i its olds it.need μ a->a.eval (.tmp t1)=v1)(j:∀w,BelX k0 X w0 w->ZI P f #[v1] w (rZ w λe w'=>e=v)):Cert P Q w0 k0 X ops i its bl olds o it:=
 uO c f b (λμ a w g _=>by rw[k,d μ a g]) j
def St.init{cs:List (List XG)}{c:List XG}{ks:List Nat}{k:Nat}(h:St w0 k0 X (cs++[c]) (ks++[k]) w):St w0 k0 X cs ks w:=by
 have l:ks.length=cs.length:=by have:=h.len;simp only[XP,YA,ZD]at this;omega
 have d:∀b,b<cs.length->ad (ks++[k]) b=ad ks b:=λb e=>by
  unfold ad;rw[Zn,Zn,X1 oM]
 refine⟨h.bel,h.le,l,λb g e=>?_,λb g e j i=>?_⟩
 .have f:=(XT.1 e).1;have:=h.has b g (by rw[X1 f];exact e);rwa[d b f]at this
 .have:=h.inj b g (by rw[XP];omega) (by rw[XP];omega) i;rwa[d b e,d g j]at this
def dT{v k:XG}{b:Func}{a:Act}(t u:ZC)(g:b.results=#[.tmp t,.tmp u])(d:a.tmps[t]? = some v)(f:a.tmps[u]? = some k):(results b a.tmps).run P w=.ok (.tuple #[v,k]) w:=by
 have c:a.tmps.getD t ZB=v:=by rw[XU,d];rfl
 have e:a.tmps.getD u ZB=k:=by rw[XU,f];rfl
 unfold results;rw[g];simp only[yAl,yBB,yBN,c,e];simp[X6]
end RG
namespace RG
variable {P:YO}{ops:Array Yw}{Q:yAN->Act->XF->Prop}{w0 w:XF}{k0 n:Nat}{X:List Nat}{its:List It}{bl:List Bl}{os:List (ZC × SV)}{a:Act}{i:Nat}{o:Yw}{it:It}{μ:Nat->Nat}{need:List (ZC × Nat)}
def src(c:Array Yw)(k:List It)(d:List (ZC × SV))(b:List (ZC × Nat))(i:Nat)(t:ZC):Option SV:=
 match b.find? (λx=>x.1 == t) with
 | some x=>(k[x.2]?).map (·.out)
 | none=>match d.find? (λx=>x.1 == t) with
  | some x=>bif GV c k i t then some x.2 else none
  | none=>none
def nR{t:ZC}{s:SV}(h:src ops its os need i t=some s)(K:Known ops i its os need μ a):a.eval (.tmp t)=s.at μ:=by
 unfold src at h;cases k:need.find? (λx=>x.1 == t) with
 | some x =>
  rw[k]at h;dsimp only at h;have b:=ZM k;have c:x.1=t:=by simpa using yAX k
  obtain⟨e,d,rfl⟩:=XK.1 h;exact K.op t x.2 (by rw[<-c];exact b) d
 | none =>
  rw[k]at h;dsimp only at h;cases ho:os.find? (λx=>x.1 == t) with
  | none=>rw[ho]at h;cases h
  | some x =>
   rw[ho]at h;dsimp only at h;have b:=ZM ho;have c:x.1=t:=by simpa using yAX ho
   cases hf:GV ops its i t with
   | false=>rw[hf]at h;cases h
   | true =>
    rw[hf]at h;obtain rfl:x.2=s:=X5.inj h;exact K.old t x.2 (by rw[<-c];exact b) hf
def sx{t:ZC}{f:(Nat->Nat)->XG}(h:∀μ:Nat->Nat,(src ops its os need i t).map (λs=>s.at μ)=some (f μ):=by intro _;kernel_rfl):∀(μ:Nat->Nat) (a:Act),Known ops i its os need μ a->a.eval (.tmp t)=f μ:=λμ _ K=>by
 obtain⟨s,k,b⟩:=XK.1 (h μ);rw[nR k K];exact b
def ro(b:Array Yw)(c:List It)(d:List (ZC × SV))(k:List (ZC × Nat))(i:Nat)(μ:Nat->Nat):yAp->XG
 | .tmp t=>match src b c d k i t with|some s=>s.at μ|none=>ZB
 | .const v=>v
 | .global g=>jZ g
 | .func f=>.func (.func f) #[] #[]
def seen(b:Array Yw)(c:List It)(d:List (ZC × SV))(k:List (ZC × Nat))(i:Nat)(o:Yw):Bool:=
 (match o.op with | .select _ _=>false|_=>true) && o.op.operands.all (λx=>match x with | .tmp t=>(src b c d k i t).isSome|_=>true)
def qC(h:seen ops its os need i o=true)(K:Known ops i its os need μ a):Ym a.eval o=Ym (ro ops its os need i μ) o:=by
 simp only[seen,XZ]at h;refine execOp_congr o (λcs b d=>?_) (λx hx=>?_)
 .rw[d]at h;exact absurd h.1 (by simp)
 .have c:=ZJ.1 h.2 x hx;cases x with
  | tmp t =>
   dsimp only at c;obtain⟨s,k⟩:=YP.1 c;rw[nR k K];show _=(match src ops its os need i t with|some s=>s.at μ|none=>ZB);rw[k]
  | const v=>rfl
  | global g=>rfl
  | func f=>rfl
def st(h:∀(μ:Nat->Nat) (w:XF),((seen ops its os it.need i o,it.kind),(Ym (ro ops its os it.need i μ) o).run P w)=((true,Kind.stay),.ok (.value (it.out.at μ)) w):=by intro _ _;kernel_rfl):Cert P Q w0 k0 X ops i its bl os o it:=by
 intro μ a w K d _ c;have k:=h μ w;simp only[Zl.injEq]at k;rw[k.1.2];intro b;unfold Y8;rw[qC k.1.1 d,k.2];exact b
def se{v d:XG}(e:d=v)(h:∀(μ:Nat->Nat) (w:XF),((seen ops its os it.need i o,it.kind,it.out),(Ym (ro ops its os it.need i μ) o).run P w)=((true,Kind.stay,SV.v v),.ok (.value d) w):=by intro _ _;kernel_rfl):Cert P Q w0 k0 X ops i its bl os o it:=by
 intro μ a w K f _ c;have k:=h μ w;simp only[Zl.injEq]at k;rw[k.1.2.1];intro b;rw[k.1.2.2]at b;unfold Y8;rw[qC k.1.1 f,k.2,e];exact b
def mk(b:Nat)(T:Yj)(h:∀(μ:Nat->Nat) (w:XF),((seen ops its os it.need i o,it.kind),(Ym (ro ops its os it.need i μ) o).run P w)=((true,Kind.make b),.ok (.value (it.out.at (upd μ b w.heap.size))) (w.alloc (.cells (((bl[b]?).map (·.before)).getD []).toArray T))):=by intro _ _;kernel_rfl):Cert P Q w0 k0 X ops i its bl os o it:=by
 intro μ a w K f _ c;have k:=h μ w;simp only[Zl.injEq]at k;rw[k.1.2];intro e d g;unfold Y8;rw[qC k.1.1 f,k.2,d];exact g _ _ (Made.alloc w e.before T)
def clB{f:ZZ}{args:Array XG}{v:XG}(h:∀(μ:Nat->Nat) (w:XF),((seen ops its os it.need i o,it.kind,it.out),(Ym (ro ops its os it.need i μ) o).run P w)=((true,Kind.call,SV.v v),.ok (.enter f args) w))
 (g:∀w,BelX k0 X w0 w->ZI P f args w (rZ w λe w'=>e=v)):Cert P Q w0 k0 X ops i its bl os o it:=by
 intro μ a w K d _ k;have b:=h μ w;simp only[Zl.injEq]at b;rw[b.1.2.1];intro c;rw[b.1.2.2]at c;unfold Y8;rw[qC b.1.1 d,b.2,ZU];refine(g w k).mono ?_;rintro e w' ⟨l,rfl,j,rfl⟩;exact c w' j
def cl{f:ZZ}{args:Array XG}{v:XG}(k:∀w,ZI P f args w (rZ w λe w'=>e=v))(h:∀(μ:Nat->Nat) (w:XF),((seen ops its os it.need i o,it.kind,it.out),(Ym (ro ops its os it.need i μ) o).run P w)=((true,Kind.call,SV.v v),.ok (.enter f args) w):=by intro _ _;kernel_rfl):Cert P Q w0 k0 X ops i its bl os o it:=
 clB h (λw _=>k w)
def cm(b:Nat){f:ZZ}{args:Array XG}{c:List XG}(v:∀w,BelX k0 X w0 w->ZI P f args w (Ret λe w'=>∃k,Made w k c w'/\e=it.out.at (λ_=>k)))
 (h:∀(μ:Nat->Nat) (w:XF),((seen ops its os it.need i o,it.kind,(bl[b]?).map (·.before),it.out.blk),(Ym (ro ops its os it.need i μ) o).run P w)=((true,Kind.make b,some c,some b),.ok (.enter f args) w)):Cert P Q w0 k0 X ops i its bl os o it:=by
 intro μ a w K q _ d;have l:=h μ w;simp only[Zl.injEq]at l;obtain⟨⟨t,u,j,x⟩,s⟩:=l;rw[u];intro e y m;rw[y]at j;obtain rfl:e.before=c:=X5.inj j;unfold Y8;rw[qC t q,s,ZU];refine(v w d).mono ?_;rintro r w' ⟨B,rfl,k,n,rfl⟩;have p:it.out.at (upd μ b k)=it.out.at (λ_=>k):=SV.at_congr λz g=>by
  rw[x]at g;obtain rfl:=X5.inj g;unfold upd;rw[yE3 rfl]
 have:=m k w' n;rw[p]at this;exact this
def Ci(k:Array Yw)(i:Nat)(o:Yw)(c:List Bl)(b:Nat):Bool:=match c[b]? with
 | some e=>(match e.al with|none=>true|some j=>cQ o j) && readB k i e
 | none=>false
def Seen(k:List Bl)(c:List Nat)(μ:Nat->Nat)(w:XF):Prop:=∀b∈c,∀e:Bl,k[b]? = some e->e.before≠[]->w.rangeAt (μ b) 0 e.before/\μ b<w.heap.size
def NS{f:List Nat}(ho:ops[i]? = some o)(h:f.all (Ci ops i o bl)=true)(hR:Reads ops i bl μ w):Seen bl f μ w:=λb m e g d=>by
 have k:=Yv.1 h b m;unfold Ci at k;rw[g]at k;dsimp only at k;rw[XZ]at k;have l:=hR b e g (by
  cases c:e.al with
  | none=>exact Yk rfl
  | some j=>rw[c]at k;exact Yd ⟨o,j,ho,rfl,k.1⟩) k.2
 refine⟨l,?_⟩;cases c:e.before with
 | nil=>exact absurd c d
 | cons x r =>
  have p:=l 0 x (by rw[c];rfl);exact Zw λq=>by
   have n:w.heap[μ b]? = none:=ZY oM;simp[YY,n]at p
def cr(d:List Nat){f:ZZ}{args:(Nat->Nat)->Array XG}{v:XG}(q:∀(μ:Nat->Nat) (w:XF),BelX k0 X w0 w->Seen bl d μ w->ZI P f (args μ) w (rZ w λe w'=>e=v))
 (h:∀(μ:Nat->Nat) (w:XF),((seen ops its os it.need i o,it.kind,it.out,d.all (Ci ops i o bl),ops[i]?),(Ym (ro ops its os it.need i μ) o).run P w)=((true,Kind.call,SV.v v,true,some o),.ok (.enter f (args μ)) w)):Cert P Q w0 k0 X ops i its bl os o it:=by
 intro μ a w K g hR k;have c:=h μ w;simp only[Zl.injEq]at c;obtain⟨⟨m,p,l,r,n⟩,j⟩:=c;rw[p];intro b;rw[l]at b;unfold Y8;rw[qC m g,j,ZU];refine(q μ w k (NS n r hR)).mono ?_;rintro e w' ⟨t,rfl,s,rfl⟩;exact b w' s
def ldv(k:Array Yw)(c:List It)(d:List Bl)(f:List (ZC × SV))(i:Nat)(o:Yw)(it:It)(T:Yj)(n:Nat):Option SV:=
 match it.kind,o.op with
 | .stay,.load T' (.tmp t)=>match src k c f it.need i t with
  | some (.p b off)=>match d[b]? with
   | some e=>bif T' == T && e.al.isNone && readB k i e && (off+n).ble e.before.length then some (.v (.agg ((e.before.drop off).take n).toArray)) else none
   | none=>none
  | _=>none
 | _,_=>none
def ld{T:Yj}{n:Nat}(j:(P.underlying T).map (·.isRow)=some true)(g:(P.info? T).map (·.size)=some n)(h:ldv ops its bl os i o it T n=some it.out:=by kernel_rfl):Cert P Q w0 k0 X ops i its bl os o it:=by
 unfold ldv at h;split at h
 .rename_i T' t hk ho
  split at h
  .rename_i b off hs
   split at h
   .rename_i e hb
    cases c:(T' == T && e.al.isNone && readB ops i e && (off+n).ble e.before.length) with
    | false=>rw[c]at h;cases h
    | true =>
     rw[c]at h;have f:=h;simp only[XZ,beq_iff_eq,Option.isNone_iff_eq_none,yET]at c;obtain⟨⟨⟨rfl,d⟩,m⟩,l⟩:=c;have k:((e.before.drop off).take n).length=n:=by rw[Z8,yCy];omega
     refine qF hk (off:=off) e hb d m ho (X5.inj f).symm (λ_ _ K=>nR hs K) ?_ j (by rw[k];exact g);rw[k]
   .cases h
  .cases h
 .cases h
def ptv(k:Array Yw)(c:List It)(f:List Bl)(d:List (ZC × SV))(i:Nat)(o:Yw)(it:It)(T:Yj)(n:Nat):Option (List XG):=
 match it.kind,o.op,o.dst with
 | .put b,.store T' (.tmp x) (.tmp y),none=>match src k c d it.need i x,src k c d it.need i y with
  | some (.p b' off),some (.v (.agg vs))=>match f[b]? with
   | some e=>bif T' == T && b' == b && vs.size == n && (off+n).ble e.before.length && vs.toList.all (·.oneCell') then some (rep e.before off vs.toList) else none
   | none=>none
  | _,_=>none
 | _,_,_=>none
def pt{T:Yj}{n:Nat}(p:(P.info? T).map (·.size)=some n)(h:((ptv ops its bl os i o it T n).isSome,ptv ops its bl os i o it T n)=(true,match it.kind with | .put b=>(bl[b]?).map (·.after)|_=>none):=by kernel_rfl):Cert P Q w0 k0 X ops i its bl os o it:=by
 simp only[Zl.injEq]at h;obtain⟨k,h⟩:=h;rw[h]at k;unfold ptv at h;split at h
 .rename_i b T' x y hk ho hdn
  rw[hk]at h k;dsimp only at h k;cases g:bl[b]? with
  | none=>rw[g]at k;cases k
  | some e =>
   rw[g]at h;split at h
   .rename_i b' off vs hx hy
    dsimp only at h;cases f:(T' == T && b' == b && vs.size == n && (off+n).ble e.before.length && vs.toList.all (·.oneCell')) with
    | false=>rw[f]at h;cases h
    | true =>
     rw[f]at h;have l:some (rep e.before off vs.toList)=some e.after:=h;simp only[XZ,beq_iff_eq,yET]at f;obtain⟨⟨⟨⟨rfl,rfl⟩,m⟩,d⟩,q⟩:=f;have c:vs.toList.length=n:=by rw[Array.length_toList];exact m
     refine fN (off:=off) hk e g ho hdn (λ_ _ K=>nR hx K) (λ_ _ K=>?_) (by rw[c];exact d) (λj=>?_) (by rw[c];exact p) q
     .rw[Array.toArray_toList];exact nR hy K
     .rw[<-X5.inj l,rep_at (by rw[c];exact d)]
   .cases h
 .rw[<-h]at k;cases k
def aft(pu:List (Nat × Nat × List XG))(b:Nat)(c:List XG):List XG:=match pu.find? (λx=>x.1 == b) with|some x=>x.2.2|none=>c
def sto(pu:List (Nat × Nat × List XG))(b:Nat):Option Nat:=(pu.find? (λx=>x.1 == b)).map (·.2.1)
def olB(pu:List (Nat × Nat × List XG)):Nat->List (List XG)->List Bl
 | _,[]=>[]
 | b,c :: r=>⟨c,aft pu b c,none,sto pu b⟩ :: olB pu (b+1) r
def mkB(pu:List (Nat × Nat × List XG)):Nat->List (Nat × List XG)->List Bl
 | _,[]=>[]
 | b,c :: r=>⟨c.2,aft pu b c.2,some c.1,sto pu b⟩ :: mkB pu (b+1) r
def bls(cs:List (List XG))(mk:List (Nat × List XG))(pu:List (Nat × Nat × List XG)):List Bl:=olB pu 0 cs++mkB pu cs.length mk
def rV(pu:List (Nat × Nat × List XG)):∀(cs:List (List XG)) (b:Nat),(olB pu b cs).length=cs.length
 | [],_=>rfl
 | c :: r,b=>by rw[olB,YA,rV pu r,YA]
def GH(pu:List (Nat × Nat × List XG)):∀(cs:List (Nat × List XG)) (b:Nat),(mkB pu b cs).length=cs.length
 | [],_=>rfl
 | c :: r,b=>by rw[mkB,YA,GH pu r,YA]
def yP(pu:List (Nat × Nat × List XG)):∀(cs:List (List XG)) (b:Nat),(olB pu b cs).map (·.before)=cs
 | [],_=>rfl
 | c :: r,b=>by rw[olB,yAg,yP pu r]
def yU(pu:List (Nat × Nat × List XG)):∀(cs:List (Nat × List XG)) (b:Nat),(mkB pu b cs).map (·.before)=cs.map (·.2)
 | [],_=>rfl
 | c :: r,b=>by rw[mkB,yAg,yU pu r,yAg]
def Gy{pu:List (Nat × Nat × List XG)}:∀(cs:List (List XG)) (b j:Nat) (e:Bl),(olB pu b cs)[j]? = some e->e.al=none/\e.after=aft pu (b+j) e.before/\e.st=sto pu (b+j)
 | [],_,_,_,h=>by simp[olB]at h
 | c :: r,b,0,e,h=>by
  rw[olB,Yn]at h;obtain rfl:=X5.inj h;exact⟨rfl,rfl,rfl⟩
 | c :: r,b,j+1,e,h=>by
  rw[olB,Yl]at h;have:=Gy r (b+1) j e h;rwa[show b+1+j=b+(j+1) by omega]at this
def GI(pu:List (Nat × Nat × List XG)):∀(cs:List (Nat × List XG)) (b j:Nat) (e:Bl),(mkB pu b cs)[j]? = some e->(∃x∈cs,e.al=some x.1)/\e.after=aft pu (b+j) e.before/\e.st=sto pu (b+j)
 | [],_,_,_,h=>by simp[mkB]at h
 | c :: r,b,0,e,h=>by
  rw[mkB,Yn]at h;obtain rfl:=X5.inj h;exact⟨⟨c,YL,rfl⟩,rfl,rfl⟩
 | c :: r,b,j+1,e,h=>by
  rw[mkB,Yl]at h;obtain⟨⟨x,hx,k⟩,d⟩:=GI pu r (b+1) j e h;refine⟨⟨x,Yx _ hx,k⟩,?_⟩;rwa[show b+1+j=b+(j+1) by omega]at d
variable {cs cs':List (List XG)}{mk:List (Nat × List XG)}{pu:List (Nat × Nat × List XG)}{ks:List Nat}
def Cj:(bls cs mk pu).length=cs.length+mk.length:=by rw[bls,XP,rV,GH]
def Ae:(bls cs mk pu).map (·.before)=cs++mk.map (·.2):=by rw[bls,Y5,yP,yU]
def xI{b:Nat}{e:Bl}(h:(bls cs mk pu)[b]? = some e):e.after=aft pu b e.before/\e.st=sto pu b/\((b<cs.length/\e.al=none)\/(cs.length<=b/\∃x∈mk,e.al=some x.1)):=by
 unfold bls at h;by_cases k:b<cs.length
 .rw[X1 (by rw[rV];exact k)]at h;have:=Gy cs 0 b e h;rw[XQ]at this;exact⟨this.2.1,this.2.2,Yk ⟨k,this.1⟩⟩
 .rw[X4 (by rw[rV];omega),rV]at h;have:=GI pu mk cs.length (b-cs.length) e h;rw[show cs.length+(b-cs.length)=b by omega]at this;exact⟨this.2.1,this.2.2,Yd ⟨oM,this.1⟩⟩
def A8:nQ (bls cs mk pu) cs.length=true:=by
 simp only[nQ,XZ,decide_eq_true_eq];refine⟨Yv.2 λx hx=>?_,by rw[Cj];omega⟩;rw[yBo]at hx;rcases(xI hx).2.2 with⟨b,k⟩|⟨b,y,-,k⟩
 .rw[k];simp[b]
 .rw[k];simp;omega
def inB(m:Nat)(mk:List (Nat × List XG))(pu:List (Nat × Nat × List XG)):Bool:=mk.all (λx=>x.1.blt m) && pu.all (λx=>x.2.1.blt m)
def Hp(h:inB its.length mk pu=true)(m:pu.map (λx=>x.2.2.length)=pu.map (λx=>(((cs++mk.map (·.2))[x.1]?).getD []).length)):
 (∀e∈bls cs mk pu,∀j,e.al=some j\/e.st=some j->j<its.length)/\∀e∈bls cs mk pu,e.fin.length=e.before.length:=by
 simp only[inB,XZ]at h;refine⟨λe f j k=>?_,λe f=>?_⟩
 .obtain⟨b,c⟩:=ZK f;obtain⟨i,g,l⟩:=xI c;rcases k with k|k
  .rcases l with⟨-,d⟩|⟨-,x,hx,d⟩
   .rw[d]at k;cases k
   .rw[d]at k;obtain rfl:=X5.inj k;have:=Yv.1 h.1 x hx;exact Z7 (YM this)
  .rw[g]at k;unfold sto at k;obtain⟨x,hx,rfl⟩:=XK.1 k;have:=Yv.1 h.2 x (ZM hx);exact Z7 (YM this)
 .obtain⟨b,c⟩:=ZK f;obtain⟨i,g,-⟩:=xI c;unfold Bl.fin;rw[g,i];unfold sto aft;cases d:pu.find? (λx=>x.1 == b) with
  | none=>rfl
  | some x =>
   show x.2.2.length=_;have l:=ZM d;have hx:x.1=b:=by simpa using yAX d
   have n:=yCh.1 m x l;rw[n,<-Ae (pu:=pu),hx,YC,c];rfl
def lk(k:List It)(b:List (ZC × SV))(t:ZC):Option SV:=
 match k.find? (λit=>it.dst == some t) with
 | some it=>some it.out
 | none=>(b.find? (λx=>x.1 == t)).map (·.2)
structure M(w0:XF)(k0:Nat)(X:List Nat)(n:Nat)(cs:List (List XG))(ks:List Nat)(os:List (ZC × SV))(a:Act)(w:XF):Prop where
 st:St w0 k0 X cs ks w
 sl:Sl a n
 os:Olds a (ad ks) os
def All:Nat->(List Nat->Prop)->Prop
 | 0,f=>f []
 | n+1,f=>∀k:Nat,All n λl=>f (k :: l)
def All.get:∀ {n:Nat}{f:List Nat->Prop},All n f->∀l:List Nat,l.length=n->f l
 | 0,f,h,l,hl=>by rw[List.length_eq_zero_iff.1 hl];exact h
 | n+1,f,h,[],hl=>by simp at hl
 | n+1,f,h,k :: l,hl=>All.get (h k) l (by simpa using hl)
def Pv{s:SV}{new:List Nat}(h:∀b,s.blk=some b->b<ks.length):s.at (ad (ks++new))=s.at (ad ks):=SV.at_congr λb k=>by
 unfold ad;rw[Zn,Zn,X1 (h b k)]
def Olds.mk'{μ:Nat->Nat}:∀ {l:List (ZC × SV)},(∀x∈l,a.tmps[x.1]? = some (x.2.at μ))->Olds a μ l
 | [],_=>trivial
 | x :: r,h=>⟨h x YL,Olds.mk' λy k=>h y (Yx _ k)⟩
def M.next{d:List (ZC × SV)}{new:List Nat}{w':XF}(h:M w0 k0 X n cs ks os a w)(c:allB ops its (bls cs mk pu) os n=true)(r:(d.map λx=>lk its os x.1)=d.map λx=>some x.2)
 (B:St w0 k0 X cs' (ks++new) w'):M w0 k0 X n cs' (ks++new) d (puts (ad (ks++new)) its a) w':=by
 refine⟨B,h.sl.puts,Olds.mk' λx hx=>?_⟩;have g:=yCh.1 r x hx;simp only[allB,XZ,beq_iff_eq]at c;obtain⟨⟨⟨⟨u,hd⟩,l⟩,q⟩,A⟩:=c;unfold lk at g;cases hf:its.find? (λit=>it.dst == some x.1) with
 | some it =>
  rw[hf]at g;have f:=ZM hf;have k:it.dst=some x.1:=by simpa using yAX hf
  obtain⟨j,m⟩:=ZK f;have i:=Yv.1 q it f;rw[k]at i;have:=tQ (μ:=(ad (ks++new))) its a j it x.1 hd m k (by rw[h.sl.size];simpa using i);rw[this,<-X5.inj g]
 | none =>
  rw[hf]at g;obtain⟨y,t,i⟩:=XK.1 g;have f:=ZM t;have s:y.1=x.1:=by simpa using yAX t
  have C:=h.os.get y.1 y.2 f;rw[mU _ its a x.1 (λit m p=>by
   have:=List.find?_eq_none.1 hf it m;rw[p]at this;simp at this),<-s,C,<-i]
  congr 1
  refine(Pv λb E=>?_).symm;have k:=Yv.1 l y f;rw[E]at k;dsimp only at k;cases o:(bls cs mk pu)[b]? with
  | none=>rw[o]at k;cases k
  | some e =>
   rw[o]at k;rcases(xI o).2.2 with⟨D,-⟩|⟨-,z,-,v⟩
   .rw[h.st.len];exact D
   .dsimp only at k;rw[v]at k;simp at k
def M.reg(h:M w0 k0 X n cs ks os a w)(k:allB ops its (bls cs mk pu) os n=true)(b:Certs P Q w0 k0 X ops its (bls cs mk pu) os 0 ops.toList its):Reg P ops Q w0 k0 X its (bls cs mk pu) os a (ad ks):=
 Reg.mk' (by rw[h.sl.size];exact k) h.os b
def DJ:((bls cs mk pu).map (·.before)).take cs.length=cs:=by rw[Ae,List.take_left'];rfl
def M.tx{id:Nat}(h:M w0 k0 X n cs ks os a w)(k:List It)(mk:List (Nat × List XG))(pu:List (Nat × Nat × List XG))(c:List (List XG))(b:List (ZC × SV))
 (d:(allB ops k (bls cs mk pu) os n && inB k.length mk pu,(bls cs mk pu).map Bl.fin,b.map λx=>lk k os x.1)=(true,c,b.map λx=>some x.2))
 (o:pu.map (λx=>x.2.2.length)=pu.map (λx=>(((cs++mk.map (·.2))[x.1]?).getD []).length))
 (m:Certs P Q w0 k0 X ops k (bls cs mk pu) os 0 ops.toList k)
 (g:All mk.length λnew=>∀e w',M w0 k0 X n c (ks++new) b e w'->Q .normal e w'):(Zg id ops false).wp P Q a w:=by
 simp only[Zl.injEq,XZ]at d;obtain⟨⟨e,l⟩,i,p⟩:=d;refine region_text' h.st (h.reg e m) A8 DJ (Hp l o) λnew w' f j=>?_
 rw[Cj,ZN]at f;exact g.get new f _ _ (h.next e p (i ▸ j))
def M.dr{id:Nat}(h:M w0 k0 X n cs ks os a w)(i:P.follows .mixedOrders=true)(k:List It)(mk:List (Nat × List XG))(pu:List (Nat × Nat × List XG))(c:List (List XG))(b:List (ZC × SV))
 (d:(allB ops k (bls cs mk pu) os n && inB k.length mk pu,(bls cs mk pu).map Bl.fin,b.map λx=>lk k os x.1)=(true,c,b.map λx=>some x.2))
 (p:pu.map (λx=>x.2.2.length)=pu.map (λx=>(((cs++mk.map (·.2))[x.1]?).getD []).length))
 (o:Certs P Q w0 k0 X ops k (bls cs mk pu) os 0 ops.toList k)
 (g:All mk.length λnew=>∀e w',M w0 k0 X n c (ks++new) b e w'->Q .normal e w'):(Zg id ops true).wp P Q a w:=by
 simp only[Zl.injEq,XZ]at d;obtain⟨⟨e,m⟩,j,q⟩:=d;refine region_draws' i h.st (h.reg e o) A8 DJ (Hp m p) λnew w' f l=>?_
 rw[Cj,ZN]at f;exact g.get new f _ _ (h.next e q (j ▸ l))
def Pr:(bls cs [] []).map Bl.fin=cs:=by
 have h:∀(cs:List (List XG)) (b:Nat),(olB [] b cs).map Bl.fin=cs:=λcs=>by
  induction cs with
  | nil=>intro _;rfl
  | cons c r ih=>intro b;rw[olB,yAg,ih];rfl
 rw[bls,Y5,h];exact yAt _
def M.tx0{id:Nat}(h:M w0 k0 X n cs ks os a w)(k:List It)(b:List (ZC × SV))(d:(allB ops k (bls cs [] []) os n,b.map λx=>lk k os x.1)=(true,b.map λx=>some x.2))
 (g:Certs P Q w0 k0 X ops k (bls cs [] []) os 0 ops.toList k) (f:∀c w',M w0 k0 X n cs ks b c w'->Q .normal c w'):(Zg id ops false).wp P Q a w:=by
 simp only[Zl.injEq]at d;refine h.tx k [] [] cs b (by simp only[d.1,d.2,Pr];rfl) rfl g (λc w' e=>f c w' ?_);rwa[yAt]at e
def M.t{id:Nat}(h:M w0 k0 X n cs ks os a w)(k:List It)(mk:List (Nat × List XG))(pu:List (Nat × Nat × List XG))(c:List (List XG))(b:List (ZC × SV))(i:Certs P Q w0 k0 X ops k (bls cs mk pu) os 0 ops.toList k)(f:All mk.length λnew=>∀d w',M w0 k0 X n c (ks++new) b d w'->Q .normal d w')(g:(allB ops k (bls cs mk pu) os n && inB k.length mk pu,(bls cs mk pu).map Bl.fin,b.map λx=>lk k os x.1)=(true,c,b.map λx=>some x.2):=by kernel_rfl)(e:pu.map (λx=>x.2.2.length)=pu.map (λx=>(((cs++mk.map (·.2))[x.1]?).getD []).length):=by kernel_rfl):(Zg id ops false).wp P Q a w:=h.tx k mk pu c b g e i f
def M.d{id:Nat}(h:M w0 k0 X n cs ks os a w)(k:List It)(mk:List (Nat × List XG))(pu:List (Nat × Nat × List XG))(c:List (List XG))(b:List (ZC × SV))(j:Certs P Q w0 k0 X ops k (bls cs mk pu) os 0 ops.toList k)(f:All mk.length λnew=>∀d w',M w0 k0 X n c (ks++new) b d w'->Q .normal d w')(g:(allB ops k (bls cs mk pu) os n && inB k.length mk pu,(bls cs mk pu).map Bl.fin,b.map λx=>lk k os x.1)=(true,c,b.map λx=>some x.2):=by kernel_rfl)(e:pu.map (λx=>x.2.2.length)=pu.map (λx=>(((cs++mk.map (·.2))[x.1]?).getD []).length):=by kernel_rfl)(i:P.follows .mixedOrders=true:=by kernel_rfl):(Zg id ops true).wp P Q a w:=h.dr i k mk pu c b g e j f
def M.u{id:Nat}(h:M w0 k0 X n cs ks os a w)(k:List It)(b:List (ZC × SV))(f:Certs P Q w0 k0 X ops k (bls cs [] []) os 0 ops.toList k)(d:∀c w',M w0 k0 X n cs ks b c w'->Q .normal c w')(e:(allB ops k (bls cs [] []) os n,b.map λx=>lk k os x.1)=(true,b.map λx=>some x.2):=by kernel_rfl):(Zg id ops false).wp P Q a w:=h.tx0 k b e f d
def M.at(h:M w0 k0 X n cs ks os a w){t:ZC}{s:SV}(c:(os.find? (λx=>x.1 == t)).map (·.2)=some s:=by kernel_rfl):a.tmps[t]? = some (s.at (ad ks)):=by
 obtain⟨y,b,rfl⟩:=XK.1 c;have k:y.1=t:=by simpa using yAX b
 rw[<-k];exact h.os.get y.1 y.2 (ZM b)
def St.made{w w':XF}{cs:List (List XG)}{ks:List Nat}(h:St w w.heap.size [] cs ks w'){b:Nat}{c:List XG}(d:cs[b]? = some c):Made w (ad ks b) c w':=by
 obtain⟨e,g,f,k⟩:=h.has b c d;exact⟨h.bel.below,k.elim id (λh=>absurd h Yf),f,e,g⟩
def M.av(h:M w0 k0 X n cs ks os a w){t:ZC}{v:XG}(k:(os.find? (λx=>x.1 == t)).map (·.2)=some (.v v):=by kernel_rfl):a.tmps[t]? = some v:=h.at k
def M.ev(h:M w0 k0 X n cs ks os a w){t:ZC}{v:XG}(k:(os.find? (λx=>x.1 == t)).map (·.2)=some (.v v):=by kernel_rfl):a.eval (.tmp t)=v:=B8 (h.at k)
def M.enter{c:Code}(k:List (ZC × SV))(n:Nat)(h:(k.map λx=>a.tmps[x.1]?,a.tmps.size,a.defers)=(k.map λx=>some (x.2.at (ad [])),n,[]))(b:∀a,M w w.heap.size [] n [] [] k a w->c.wp P Q a w):c.wp P Q a w:=by
 simp only[Zl.injEq]at h;exact b a ⟨St.begin w,⟨h.2.1,h.2.2⟩,Olds.mk' λx hx=>yCh.1 h.1 x hx⟩
def M.drop{j w:XF}{i n:Nat}{X:List Nat}{cs cs2:List (List XG)}{ks ks2:List Nat}{g:List (ZC × SV)}{a:Act}(h:M j i X n (cs++cs2) (ks++ks2) g a w)(l:ks.length=cs.length)
 (ho:g.all (λx=>match x.2.blk with|none=>true|some b=>b.blt cs.length)=true):M j i X n cs ks g a w:=by
 have k:∀b,b<cs.length->ad (ks++ks2) b=ad ks b:=λb d=>by
  unfold ad;rw[Zn,Zn,X1 oM]
 refine⟨⟨h.st.bel,h.st.le,l,λb c d=>?_,λb c d m f=>?_⟩,h.sl,Olds.mk' λx hx=>?_⟩
 .have e:=(XT.1 d).1;have:=h.st.has b c (by rw[X1 e];exact d);rwa[k b e]at this
 .have:=h.st.inj b c (by rw[XP];omega) (by rw[XP];omega) f;rwa[k b d,k c m]at this
 .rw[h.os.get x.1 x.2 hx]
  congr 1
  refine SV.at_congr λb d=>?_
  have e:=Yv.1 ho x hx;rw[d]at e;exact k b (Z7 (YM e))
abbrev z(n:Nat):List XG:=List.replicate n (uZ 0)
def It.s(d:ZC)(k:List (ZC × Nat))(b:SV):It:=⟨some d,k,b,.stay⟩
def It.x(d:ZC)(k:List (ZC × Nat))(v:XG):It:=⟨some d,k,.v v,.stay⟩
def It.c(d:ZC)(k:List (ZC × Nat))(v:XG):It:=⟨some d,k,.v v,.call⟩
def It.u(k:List (ZC × Nat))(b:Nat):It:=⟨none,k,.v ZB,.put b⟩
end RG
namespace RG
variable {P:YO}{ops:Array Yw}{Q:yAN->Act->XF->Prop}{w0 w:XF}{k0 n:Nat}{X ks:List Nat}{cs:List (List XG)}{os:List (ZC × SV)}{a:Act}
inductive Hh where
 | x (v:XG)
 | c (v:XG)
 | s (v:SV)
 | m (b:Nat)
 | u (b:Nat)
def nd(k:Array Yw)(i:Nat):List (ZC × Nat):=
 match k[i]? with
 | none=>[]
 | some o=>o.op.operands.toList.filterMap λx=>match x with
  | .tmp t=>((YB i).find? λj=>match k[j]? with|some p=>p.dst == some t && cQ o j|none=>false).map λj=>(t,j)
  | _=>none
def dt(k:Array Yw)(i:Nat):Option ZC:=(k[i]?).bind (·.dst)
def Hh.it(k:Array Yw)(i:Nat):Hh->It
 | .x v=>⟨dt k i,nd k i,.v v,.stay⟩
 | .c v=>⟨dt k i,nd k i,.v v,.call⟩
 | .s v=>⟨dt k i,nd k i,v,.stay⟩
 | .m b=>⟨dt k i,nd k i,.p b 0,.make b⟩
 | .u b=>⟨none,nd k i,.v ZB,.put b⟩
def mkL(k:Array Yw):Nat->List Hh->List It
 | _,[]=>[]
 | i,h :: r=>h.it k i :: mkL k (i+1) r
def kps(k:List It)(b:List (ZC × SV))(l:List ZC):List (ZC × SV):=l.filterMap λt=>(lk k b t).map λs=>(t,s)
def M.U{id:Nat}(h:M w0 k0 X n cs ks os a w)(k:List Hh)(b:List ZC)(f:Certs P Q w0 k0 X ops (mkL ops 0 k) (bls cs [] []) os 0 ops.toList (mkL ops 0 k))(d:∀c w',M w0 k0 X n cs ks (kps (mkL ops 0 k) os b) c w'->Q .normal c w')(e:(allB ops (mkL ops 0 k) (bls cs [] []) os n,(kps (mkL ops 0 k) os b).map λx=>lk (mkL ops 0 k) os x.1)=(true,(kps (mkL ops 0 k) os b).map λx=>some x.2):=by kernel_rfl):(Zg id ops false).wp P Q a w:=h.u _ _ f d e
def M.T{id:Nat}(h:M w0 k0 X n cs ks os a w)(k:List Hh)(mk:List (Nat × List XG))(pu:List (Nat × Nat × List XG))(b:List (List XG))(c:List ZC)(i:Certs P Q w0 k0 X ops (mkL ops 0 k) (bls cs mk pu) os 0 ops.toList (mkL ops 0 k))(f:All mk.length λnew=>∀d w',M w0 k0 X n b (ks++new) (kps (mkL ops 0 k) os c) d w'->Q .normal d w')(g:(allB ops (mkL ops 0 k) (bls cs mk pu) os n && inB (mkL ops 0 k).length mk pu,(bls cs mk pu).map Bl.fin,(kps (mkL ops 0 k) os c).map λx=>lk (mkL ops 0 k) os x.1)=(true,b,(kps (mkL ops 0 k) os c).map λx=>some x.2):=by kernel_rfl)(e:pu.map (λx=>x.2.2.length)=pu.map (λx=>(((cs++mk.map (·.2))[x.1]?).getD []).length):=by kernel_rfl):(Zg id ops false).wp P Q a w:=h.t _ mk pu b _ i f g e
def M.D{id:Nat}(h:M w0 k0 X n cs ks os a w)(k:List Hh)(mk:List (Nat × List XG))(pu:List (Nat × Nat × List XG))(b:List (List XG))(c:List ZC)(j:Certs P Q w0 k0 X ops (mkL ops 0 k) (bls cs mk pu) os 0 ops.toList (mkL ops 0 k))(f:All mk.length λnew=>∀d w',M w0 k0 X n b (ks++new) (kps (mkL ops 0 k) os c) d w'->Q .normal d w')(g:(allB ops (mkL ops 0 k) (bls cs mk pu) os n && inB (mkL ops 0 k).length mk pu,(bls cs mk pu).map Bl.fin,(kps (mkL ops 0 k) os c).map λx=>lk (mkL ops 0 k) os x.1)=(true,b,(kps (mkL ops 0 k) os c).map λx=>some x.2):=by kernel_rfl)(e:pu.map (λx=>x.2.2.length)=pu.map (λx=>(((cs++mk.map (·.2))[x.1]?).getD []).length):=by kernel_rfl)(i:P.follows .mixedOrders=true:=by kernel_rfl):(Zg id ops true).wp P Q a w:=h.d _ mk pu b _ j f g e i
end RG
namespace NT
def IsP(n:Nat):Prop:=2<=n/\∀m,m ∣ n->m=1\/m=n
def IsP.cop{p k:Nat}(h:IsP p)(b:0<k)(c:k<p):yCD p k:=by
 unfold yCD;rcases h.2 _ (yCA p k)with e|e
 .exact e
 .have:=yAW b (yCo p k);omega
def IsP.cop_of{p k:Nat}(h:IsP p)(b:¬p ∣ k):yCD p k:=by
 unfold yCD;rcases h.2 _ (yCA p k)with e|e
 .exact e
 .exact absurd (e ▸ yCo p k) b
def IsP.euclid{p a b:Nat}(h:IsP p)(hd:p ∣ a*b):p ∣ a\/p ∣ b:=by
 by_cases k:p ∣ a
 .exact Yk k
 .exact Yd ((h.cop_of k).dvd_of_dvd_mul_left hd)
/-! the binomials -/
def ch: Nat -> Nat -> Nat
  | _, 0 => 1
  | 0, _ + 1 => 0
  | n + 1, k + 1 => ch n k + ch n (k + 1)
def sO(n:Nat):ch n 0=1:=by cases n<;>rfl
def sP:∀(n k:Nat),n<k->ch n k=0
 | 0,k+1,_=>rfl
 | n+1,k+1,h=>by
  rw[ch,sP n k oM,sP n (k+1) oM]
def Hb:∀(n:Nat),ch n n=1
 | 0=>rfl
 | n+1=>by rw[ch,Hb n,sP n (n+1) oM]
def xF:∀(n k:Nat),(k+1)*ch (n+1) (k+1)=(n+1)*ch n k
 | 0,0=>rfl
 | 0,k+1=>by simp[ch]
 | n+1,0=>by
  have h:=xF n 0;have e:ch (n+1+1) (0+1)=ch (n+1) 0+ch (n+1) (0+1):=rfl;rw[sO]at h;rw[e,sO];omega
 | n+1,k+1=>by
  have b:=xF n k;have c:=xF n (k+1);have e:ch (n+1+1) (k+1+1)=ch (n+1) (k+1)+ch (n+1) (k+1+1):=rfl;have e3:ch (n+1) (k+1)=ch n k+ch n (k+1):=rfl;rw[e,yBa,c];have:(k+1+1)*ch (n+1) (k+1)=(n+1)*ch n k+ch (n+1) (k+1):=by
   rw[<-b,yAB (k+1) 1,Z6]
  rw[this,e3,yAB (n+1) 1,Z6,yBa];omega
def sumTo:Nat->(Nat->Nat)->Nat
 | 0,_=>0
 | n+1,f=>sumTo n f+f n
def sumTo_congr(f g:Nat->Nat):∀n,(∀k,k<n->f k=g k)->sumTo n f=sumTo n g
 | 0,_=>rfl
 | n+1,h=>by
  rw[sumTo,sumTo,sumTo_congr f g n (λk b=>h k oM),h n oM]
def AA(f g:Nat->Nat):∀n,sumTo n (λk=>f k+g k)=sumTo n f+sumTo n g
 | 0=>rfl
 | n+1=>by simp only[sumTo];rw[AA f g n];omega
def Ax(a:Nat)(f:Nat->Nat):∀n,sumTo n (λk=>a*f k)=a*sumTo n f
 | 0=>rfl
 | n+1=>by simp only[sumTo];rw[Ax a f n,yBa]
def kF{f:Nat->Nat}:∀n,sumTo (n+1) f=f 0+sumTo n (λk=>f (k+1))
 | 0=>by simp[sumTo]
 | n+1=>by rw[sumTo,kF (f:=f) n];simp only[sumTo];omega
def Ay{p:Nat}{f:Nat->Nat}:∀n,(∀k,k<n->p ∣ f k)->p ∣ sumTo n f
 | 0,_=>Nat.dvd_zero p
 | n+1,h=>Nat.dvd_add (Ay n (λk b=>h k oM)) (h n oM)
def Qu(a:Nat):∀n,(a+1)^n=sumTo (n+1) (λk=>ch n k*a^k)
 | 0=>by simp[sumTo,ch]
 | n+1=>by
  rw[Zr,Qu a n,yBa,yAe];rw[kF (f:=(λk=>ch (n+1) k*a^k)) (n+1)];have e:sumTo (n+1) (λk=>ch (n+1) (k+1)*a^(k+1))
   = sumTo (n+1) (λk=>a*(ch n k*a^k))+sumTo (n+1) (λk=>ch n (k+1)*a^(k+1)):=by
   rw[<-AA];refine sumTo_congr _ _ _ ?_;intro k _;show(ch n k+ch n (k+1))*a^(k+1)=_;rw[yAB,Zr];have:ch n k*(a^k*a)=a*(ch n k*a^k):=by
    rw[YN a,yAO]
   rw[this]
  rw[e,Ax];have c:sumTo (n+1) (λk=>ch n k*a^k)
   = ch n 0*a^0+sumTo n (λk=>ch n (k+1)*a^(k+1)):=kF n
  have e3:sumTo (n+1) (λk=>ch n (k+1)*a^(k+1))=sumTo n (λk=>ch n (k+1)*a^(k+1)):=by
   rw[sumTo,sP n (n+1) oM,yDA,yAi]
  have b:ch (n+1) 0*a^0=ch n 0*a^0:=by rw[sO,sO]
  rw[e3,b,YN _ a];omega
def IsP.ch_dvd{p k:Nat}(h:IsP p)(b:k+1<p):p ∣ ch p (k+1):=by
 obtain⟨n,rfl⟩:∃n,p=n+1:=⟨p-1,oN h.1⟩
 have e:=xF n k;have hd:(n+1) ∣ (k+1)*ch (n+1) (k+1):=e ▸ Nat.dvd_mul_right _ _;exact(h.cop oM b).dvd_of_dvd_mul_left hd
def IsP.frob{p:Nat}(h:IsP p)(a:Nat):(a+1)^p%p=(a^p+1)%p:=by
 obtain⟨n,rfl⟩:∃n,p=n+1:=⟨p-1,oN h.1⟩
 rw[Qu,sumTo,kF,Hb,sO];obtain⟨c,b⟩:(n+1) ∣ sumTo n (λk=>ch (n+1) (k+1)*a^(k+1)):=
  Ay _ (λk d=>Nat.dvd_mul_right_of_dvd (h.ch_dvd oM) _)
 rw[b];have:1*a^0+(n+1)*c+1*a^(n+1)=(a^(n+1)+1)+(n+1)*c:=by
  rw[yBA];omega
 rw[this,yBD]
def IsP.fermat{p:Nat}(h:IsP p):∀a,a^p%p=a%p
 | 0=>by
  rw[yEv (oN h.1)]
 | a+1=>by
  rw[h.frob,yB8,h.fermat a,<-yB8]
def IsP.cancel{p a x y:Nat}(h:IsP p)(d:¬p ∣ a)(e:a*x%p=a*y%p):x%p=y%p:=by
 have key:∀x y,y<=x->a*x%p=a*y%p->x%p=y%p:=by
  intro x y k e;have b:=yAD (Nat.sub_mod_eq_zero_of_mod_eq e);rw[<-Nat.mul_sub]at b;obtain⟨c,f⟩:=(h.cop_of d).dvd_of_dvd_mul_left b;have:x=y+p*c:=oM;rw[this,yBD]
 rcases yEw y x with k|k
 .exact key x y k e
 .exact(key y x k e.symm).symm
def IsP.fermat1{p:Nat}(h:IsP p)(a:Nat)(k:¬p ∣ a):a^(p-1)%p=1:=by
 obtain⟨n,rfl⟩:∃n,p=n+1:=⟨p-1,oN h.1⟩
 have e:=h.fermat a;rw[Zr,YN]at e;have:=h.cancel k (x:=a^n) (y:=1) (by rw[e,yAe]);rw[Nat.add_sub_cancel,this,Ya h.1]
/-! powers that are 1 -/
def Oi{b r:Nat}(hr : 1<r)(x y : Nat): b^x%r=1 -> b^y%r=1 -> b^(yDP x y)%r=1:=by
  induction x, y using yDP.induction with
  | H0 n => intro _ h; rw[Nat.gcd_zero_left]; exact h
  | H1 m n hm ih =>
    intro h1 h2;rw[Nat.gcd_rec];refine ih ?_ h1;have e : b^n=(b^m)^(n/m) * b^(n%m):=by
      rw[<-yCC, <-yA9, Nat.div_add_mod]
    rw[e, yAz, yDp, h1, Nat.one_pow, Ya hr, Z6, yEI]at h2;exact h2
def sN:∀n,2<=n->∃r,IsP r/\r ∣ n/\(IsP n\/r*r<=n):=by
 intro n;induction n using yD9 with
 | _ n ih =>
  intro q;by_cases g:IsP n
  .exact⟨n,g,Nat.dvd_refl n,Yk g⟩
  .have:∃m,m ∣ n/\m≠1/\m≠n:=by
    refine Zw λd=>g ⟨q,λm c=>?_⟩
    refine Zw λb=>d ⟨m,c,λe=>b (Yk e),λe=>b (Yd e)⟩
   obtain⟨m,⟨k,d⟩,t,u⟩:=this;have o:m≠0:=by intro e;rw[e,yDA]at d;omega
   have p:k≠0:=by intro e;rw[e,yCQ]at d;omega
   have s:k≠1:=by intro e;rw[e,yAe]at d;omega
   have j:m<n:=by
    have:=yAW oM (⟨k,d⟩:m ∣ n);omega
   have l:k<n:=by
    have:=Nat.mul_le_mul_right k (show 2<=m by omega);omega
   rcases yEw m k with f|f
   .obtain⟨r,i,b,_⟩:=ih m j oM;have c:=yAW oM b;refine⟨r,i,yB7 b ⟨k,d⟩,Yd ?_⟩;rw[d];exact ZP c (XN c f)
   .obtain⟨r,i,b,_⟩:=ih k l oM;have c:=yAW oM b;refine⟨r,i,yB7 b ⟨m,by rw[d,YN]⟩,Yd ?_⟩;rw[d];exact ZP (XN c f) c
/-! what of a prime of n - 1 goes into the primes of n -/
def part{n q a r : Nat}(hq : IsP q)(hr : IsP r)(hrn : r ∣ n)(hn : 1<n)
    (h1 : a^(n-1)%n=1) (hd : q ∣ n-1) (h2 : yDP (a^((n-1)/q)%n + (n-1)) n=1) : q ∣ r-1:=by
  have hr2:=hr.1;have toR : ∀x y, x%n=y%n -> x%r=y%r:=by
    intro x y e;rw[<-yCd x hrn, e, yCd y hrn]
  have hm : a^(n-1)%r=1:=by
    have:=toR (a^(n-1)) 1 (by rw[h1, Ya hn]);rw[this, Ya hr2]
  have hra : ¬r ∣ a:=by
    intro hc;have hz : a^(n-1)%r=0:=yBb (yB7 hc (by
      have : a^1 ∣ a^(n-1):=yEa a oM;rwa[yBG]at this))
    omega
  have hb : (a^((n-1)/q))^q%r=1:=by
    rw[<-yCC, Nat.div_mul_cancel hd]; exact hm
  have hbr : ¬r ∣ a^((n-1)/q):=by
    intro hc;have : r ∣ (a^((n-1)/q))^q:=yB7 hc (by
      have : (a^((n-1)/q))^1 ∣ (a^((n-1)/q))^q:=yEa _ (by have:=hq.1; omega);rwa[yBG]at this)
    have:=yBb this;omega
  have hg:=Oi hr2 q (r-1) hb (hr.fermat1 _ hbr);rcases hq.2 _ (yCA q (r-1))with e|e
  · rw[e, yBG]at hg
    exfalso;have hx : r ∣ a^((n-1)/q)%n + (n-1):=by
      refine yAD ?_;have e1 : (a^((n-1)/q)%n)%r=1:=by rw[yCd _ hrn]; exact hg
      have e2 : (n-1 + 1)%r=0:=by
        rw[Nat.sub_add_cancel oM]; exact yBb hrn
      have : (a^((n-1)/q)%n + (n-1))%r=(1 + (n-1))%r:=by
        rw[yB8, e1, yB8 1 (n-1), Ya hr2]
      rw[this, Nat.add_comm, e2]
    have:=Nat.dvd_gcd hx hrn;rw[h2]at this;have:=yAW oM this;omega
  · rw[<-e]; exact yCo _ _
def CV{n f:Nat}(e:1<n)(hf:n<(f+1)*(f+1))
 (k:∀r,IsP r->r ∣ n->f ∣ r-1):IsP n:=by
 obtain⟨r,c,b,h|h⟩:=sN n e
 .exact h
 .have:=yAW (oN c.1) (k r c b);have d:f+1<=r:=oN c.1;have:=ZP d d;omega
/-! trial -/
def trial(n : Nat): Nat -> Nat -> Bool
  | 0, _ => true
  | k + 1, d => (n%d != 0) && trial n k (d + 1)
def Ct{n:Nat}:∀k d,trial n k d=true->∀m,d<=m->m<d+k->¬m ∣ n
 | 0,_,_,m,_,_=>oM
 | k+1,d,h,m,h1,h2=>by
  simp only[trial,XZ,bne_iff_ne,ne_eq]at h;rcases Nat.lt_or_ge d m with b|c
  .exact Ct k (d+1) h.2 m b oM
  .have:m=d:=oM;subst this;intro hd;exact h.1 (yBb hd)
def small{n k:Nat}(f:2<=n)(d:trial n k 2=true)(i:n<(k+2)*(k+2)):IsP n:=by
 obtain⟨r,e,b,h|h⟩:=sN n f
 .exact h
 .have g:=e.1;have c:r<2+k:=by
   refine Zw λj=>?_
   have:=ZP (show k+2<=r by omega) (show k+2<=r by omega);omega
  exact absurd b (Ct k 2 d r g c)
/-! powers, reckoned -/
def pm(n : Nat): Nat -> Nat -> Nat -> Nat -> Nat
  | 0, _, _, acc => acc
  | k + 1, a, e, acc => pm n k (a * a%n) (e/2) (if e%2=1 then acc * a%n else acc)
def Gp(n:Nat):∀k a e b,e<2^k->b<n->pm n k a e b=b*a^e%n
 | 0,a,e,b,h,ha=>by
  have:e=0:=by simpa using h
  subst this;rw[pm,yBA,yAe,Ya ha]
 | k+1,a,e,b,h,ha=>by
  have g:0<n:=oM;have c:(if e%2=1 then b*a%n else b)<n:=by
   split
   .exact Zi _ g
   .exact ha
  rw[pm,Gp n k _ _ _ (by rw[Zr]at h;omega) c];have d:∀y,y*(a*a%n)^(e/2)%n=y*(a*a)^(e/2)%n:=by
   intro y;rw[yAz,<-yDp,<-yAz]
  rw[d];have f:a^e=a^(e%2)*(a*a)^(e/2):=by
   have:(a*a)=a^2:=by rw[Zr,yBG]
   rw[this,<-yCC,<-yA9,Nat.mod_add_div]
  rw[f];split
  .rename_i h1
   rw[h1,yBG,yAz,yEI,<-yAz,yAO]
  .rename_i h1
   have:e%2=0:=oM;rw[this,yBA,Z6]
def part'{n q a r k:Nat}(f:IsP q)(g:IsP r)(b:r ∣ n)(c:1<n)(i:n<2^k)
 (d:pm n k a (n-1) 1=1) (hd:(n-1)%q=0) (e:yDP (pm n k a ((n-1)/q) 1+(n-1)) n=1):q ∣ r-1:=by
 rw[Gp n k a (n-1) 1 oM c,Z6]at d;rw[Gp n k a _ 1 (Nat.lt_of_le_of_lt (Nat.div_le_self _ _) oM) c,Z6]at e;exact part f g b c d (yAD hd) e
/-! the two primes -/
def x21: IsP 1627771:=small (k:=1275) dC dK dC
def x30:IsP 545358713:=small (k:=23352) dC dK dC
def x26:IsP 44706919:=small (k:=6686) dC dK dC
def x17:IsP 120233:=small (k:=346) dC dK dC
def x27:IsP 107590001:=small (k:=10372) dC dK dC
def x23:IsP 7240687:=small (k:=2690) dC dK dC
def x16:IsP 96557:=small (k:=310) dC dK dC
def x39:IsP 297159362677:=
 CV (f:=1627771) dC dK (λr b hd=>part' (k:=39) (a:=2) x21 b hd dC dK dK dK dK)
def c95:IsP 29047611873442575647497758179:=
 CV (f:=(545358713*297159362677)) dC dK (λr b hd=>ZQ dK (part' (k:=95) (a:=2) x30 b hd dC dK dK dK dK) (part' (k:=95) (a:=2) x39 b hd dC dK dK dK dK))
def b68:IsP 174723607534414371449:=
 CV (f:=(44706919*120233)) dC dK (λr b hd=>ZQ dK (part' (k:=68) (a:=2) x26 b hd dC dK dK dK dK) (part' (k:=68) (a:=2) x17 b hd dC dK dK dK dK))
def c109:IsP 341948486974166000522343609283189:=
 CV (f:=29047611873442575647497758179) dC dK (λr b hd=>part' (k:=109) (a:=2) c95 b hd dC dK dK dK dK)
def pN:IsP 115792089237316195423570985008687907852837564279074904382605163141518161494337:=
 CV (f:=(174723607534414371449*341948486974166000522343609283189)) dC dK (λr b hd=>ZQ dK (part' (k:=256) (a:=2) b68 b hd dC dK dK dK dK) (part' (k:=256) (a:=2) c109 b hd dC dK dK dK dK))
def e128:IsP 255515944373312847190720520512484175977:=
 CV (f:=(107590001*7240687*96557)) dC dK (λr b hd=>ZQ dK (ZQ dK (part' (k:=128) (a:=2) x27 b hd dC dK dK dK dK) (part' (k:=128) (a:=2) x23 b hd dC dK dK dK dK)) (part' (k:=128) (a:=2) x16 b hd dC dK dK dK dK))
def WG:IsP 205115282021455665897114700593932402728804164701536103180137503955397371:=
 CV (f:=255515944373312847190720520512484175977) dC dK (λr b hd=>part' (k:=237) (a:=2) e128 b hd dC dK dK dK dK)
def pP:IsP 115792089237316195423570985008687907853269984665640564039457584007908834671663:=
 CV (f:=205115282021455665897114700593932402728804164701536103180137503955397371) dC dK (λr b hd=>part' (k:=256) (a:=2) WG b hd dC dK dK dK dK)
end NT
namespace EC
structure Line{P:Nat}[NeZero P](x1 y1 x2 y2 l:Fin P):Prop where
 go:y2=y1+l*(x2-x1)
 on:l*(y1+y2)=x1^2+x1*x2+x2^2
variable {P:Nat}[NeZero P]
def C5{k b c g l d f:Fin P}(n:b^2=k^3+7)(m:g^2=c^3+7)(j:Line k b c g l)(hx:d=l^2-k-c)(i:f=l*(k-d)-b):f^2=d^3+7:=by
 obtain⟨e,h⟩:=j;subst i hx e
 grobner
def PC(k g d b i j f n c m e l:Fin P)(r:Line k g d f i)(t:Line d f b n j)
 (u:c=i^2-k-d) (p:m=i*(k-c)-g) (q:e=j^2-d-b) (s:l=j*(d-e)-f) :
 ((m-n)^2-(c+b)*(c-b)^2)*(e-k)^2=((l-g)^2-(k+e)*(e-k)^2)*(c-b)^2:=by
 obtain⟨o,w⟩:=r;obtain⟨e3,v⟩:=t;subst p s u q e3 o
 grobner
def Py(c d e k l m j g b i f n:Fin P)(r:Line c d e j l)(t:Line e j k g m)
 (u:b=l^2-c-e) (p:i=l*(c-b)-d) (q:f=m^2-e-k) (s:n=m*(e-f)-j) :
 ((i-g)^2-(k+b)*(b-k)^2)*((n-d)*(b-k)-(i-g)*(f-c))+(b-k)^2*(((i-g)*k-g*(b-k))*(f-c)-((n-d)*c-d*(f-c))*(b-k))=0:=by
 obtain⟨o,w⟩:=r;obtain⟨e3,v⟩:=t;subst p s u q e3 o
 grobner (ringSteps:=100000000)
def MG(b g c k i j f e d l:Fin P)(p:Line b g c f i)(r:Line c f k e j)
 (s:k=i^2-b-c) (n:e=i*(b-k)-g) (o:d=j^2-c-k) (q:l=j*(c-d)-f) :
 (9*k^4-8*k*e^2)*(d-b)^2=((l-g)^2-(b+d)*(d-b)^2)*(4*e^2):=by
 obtain⟨m,u⟩:=p;obtain⟨e3,t⟩:=r;subst q o n s m
 grobner (ringSteps:=100000000)
def MF(c e d k i j g b f l:Fin P)(p:Line c e d g i)(r:Line d g k b j)
 (s:k=i^2-c-d) (n:b=i*(c-k)-e) (o:f=j^2-d-k) (q:l=j*(d-f)-g) :
 (3*k^2*(k*(4*b^2)-(9*k^4-8*k*b^2))-2*b^2*(4*b^2))*(f-c)=((l-e)*(c*(4*b^2)-(9*k^4-8*k*b^2))-e*(f-c)*(4*b^2))*(2*b):=by
 obtain⟨m,u⟩:=p;obtain⟨e3,t⟩:=r;subst q o n s m
 grobner (ringSteps:=100000000)
end EC
namespace EC
variable {P:Nat}[NeZero P]
def val_zero:(0:Fin P).val=0:=by simp
def val_one(h:NT.IsP P):(1:Fin P).val=1:=by
 have k:=h.1;show 1%P=1;exact Ya oM
def nzd(h:NT.IsP P){a b:Fin P}(e:a*b=0):a=0\/b=0:=by
 have c:a.val*b.val%P=0:=by
  have:=congrArg yDZ e;rw[yAw,val_zero]at this;exact this
 rcases h.euclid (yAD c)with k|k
 .exact Yk (yA4 (by rw[val_zero];exact yBJ k a.isLt))
 .exact Yd (yA4 (by rw[val_zero];exact yBJ k b.isLt))
def cI(h:NT.IsP P){a b:Fin P}(c:a≠0)(k:b≠0):a*b≠0:=λe=>(nzd h e).elim c k
def cancel(h:NT.IsP P){a b c:Fin P}(d:a≠0)(e:b*a=c*a):b=c:=by
 have f:(b-c)*a=0:=by grobner
 rcases nzd h f with k|k
 .grobner
 .exact absurd k d
def inv(a:Fin P):Fin P:=Fin.ofNat P (a.val^(P-2))
def inv_mul(h:NT.IsP P){a:Fin P}(k:a≠0):inv a*a=1:=by
 apply yA4;have c:=h.1;have b:¬P ∣ a.val:=λhd=>k (yA4 (by rw[val_zero];exact yBJ hd a.isLt))
 rw[yAw,val_one h];show a.val^(P-2)%P*a.val%P=1;rw[yEb,<-Zr,show(P-2).succ=P-1 by omega];exact h.fermat1 _ b
abbrev Pt(P:Nat):=Option (Fin P × Fin P)
def On:Pt P->Prop
 | none=>True
 | some (x,y)=>y^2=x^3+7
def neg:Pt P->Pt P
 | none=>none
 | some (x,y)=>some (x,-y)
def nT(k b c d:Fin P):Fin P:=if k=c then 3*k^2*inv (2*b) else(d-b)*inv (c-k)
def third(k c b l:Fin P):Pt P:=some (l^2-k-b,l*(k-(l^2-k-b))-c)
def add:Pt P->Pt P->Pt P
 | none,b=>b
 | a,none=>a
 | some (x1,y1),some (x2,y2)=>if x1=x2/\y2 = -y1 then none else third x1 y1 x2 (nT x1 y1 x2 y2)
def qU(h:NT.IsP P){x k b:Fin P}(d:k^2=x^3+7)(c:b^2=x^3+7)(ho:¬b = -k):b=k:=by
 have e:(b-k)*(b+k)=0:=by grobner
 rcases nzd h e with e|e
 .grobner
 .exact absurd (by grobner) ho
def xP{x k:Fin P}(h:NT.IsP P)(b:(2:Fin P)≠0)(ho:¬(x=x/\k = -k)):2*k≠0:=λe=>by
 rcases nzd h e with e|e
 .exact b e
 .exact ho ⟨rfl,by rw[e];grobner⟩
def bW(h:NT.IsP P)(l:(2:Fin P)≠0){b d k c:Fin P}(f:d^2=b^3+7)(j:c^2=k^3+7)(ho:¬(b=k/\c = -d)):Line b d k c (nT b d k c):=by
 unfold nT;by_cases hx:b=k
 .subst hx;rw[yE3 rfl];have i:=qU h f j (λe=>ho ⟨rfl,e⟩);subst i;have g:=inv_mul h (xP h l ho);exact⟨by grobner,by grobner⟩
 .rw[yE4 hx];have hd:k-b≠0:=λe=>hx (by grobner)
  have g:=inv_mul h hd;refine⟨by grobner,cancel h hd (by grobner)⟩
def Dd(h:NT.IsP P)(g:(2:Fin P)≠0){b d k c l m:Fin P}(i:d^2=b^3+7)(j:c^2=k^3+7)(ho:¬(b=k/\c = -d))(L:Line b d k c l)(M:Line b d k c m):l=m:=by
 obtain⟨n,b1⟩:=L;obtain⟨a2,o⟩:=M;by_cases hx:b=k
 .subst hx;have f:=qU h i j (λe=>ho ⟨rfl,e⟩);subst f;exact cancel h (xP h g ho) (by grobner)
 .have hd:k-b≠0:=λe=>hx (by grobner)
  exact cancel h hd (by grobner)
def cD(h:NT.IsP P)(g:(2:Fin P)≠0){c k b d l:Fin P}(e:k^2=c^3+7)(f:d^2=b^3+7)(ho:¬(c=b/\d = -k))(L:Line c k b d l):add (some (c,k)) (some (b,d))=third c k b l:=by
 show(if c=b/\d = -k then none else third c k b (nT c k b d))=_;rw[yE4 ho,Dd h g e f ho (bW h g e f ho) L]
def jH{c k b d:Fin P}(ho:c=b/\d = -k):add (some (c,k)) (some (b,d))=none:=by
 show(if c=b/\d = -k then none else third c k b (nT c k b d))=_;rw[yE3 ho]
def bM{a:Pt P}:add a none=a:=by cases a<;>rfl
def Line.swap{d k c e l:Fin P}(L:Line d k c e l):Line c e d k l:=by
 obtain⟨a,b⟩:=L;exact⟨by grobner,by grobner⟩
def D7{c d k e l:Fin P}(L:Line c d k e l):third c d k l=third k e c l:=by
 obtain⟨a,b⟩:=L;unfold third;have g:l^2-c-k=l^2-k-c:=by grobner
 have f:l*(c-(l^2-c-k))-d=l*(k-(l^2-k-c))-e:=by grobner
 rw[f,g]
def add_comm(h:NT.IsP P)(d:(2:Fin P)≠0)(a b:Pt P)(c:On a)(k:On b):add a b=add b a:=by
 rcases a with _|⟨i,j⟩
 .rw[bM];rfl
 .rcases b with _|⟨l,g⟩
  .rfl
  .by_cases ho:i=l/\g = -j
   .rw[jH ho,jH ⟨ho.1.symm,by rw[ho.2];grobner⟩]
   .have f:¬(l=i/\j = -g):=λe=>ho ⟨e.1.symm,by rw[e.2];grobner⟩
    have L:=bW h d c k ho;rw[cD h d c k ho L,cD h d k c f L.swap,D7 L]
def FI{a b:Pt P}(h:NT.IsP P)(i:(2:Fin P)≠0)(c:On a)(k:On b):On (add a b):=by
 rcases a with _|⟨g,e⟩
 .exact k
 .rcases b with _|⟨f,d⟩
  .exact c
  .by_cases ho:g=f/\d = -e
   .rw[jH ho];trivial
   .have L:=bW h i c k ho;rw[cD h i c k ho L];exact C5 c k L rfl rfl
def cE{a:Pt P}(h:On a):On (neg a):=by
 rcases a with _|⟨x,y⟩
 .trivial
 .have k:y^2=x^3+7:=h;show(-y)^2=x^3+7
  grobner
def neg_neg'(a:Pt P):neg (neg a)=a:=by
 rcases a with _|⟨x,y⟩
 .rfl
 .show some (x,- -y)=some (x,y);have:- -y=y:=by grobner
  rw[this]
def add_neg(a:Pt P):add a (neg a)=none:=by
 rcases a with _|⟨x,y⟩
 .rfl
 .exact jH ⟨rfl,rfl⟩
def Line.neg{d k c e l:Fin P}(L:Line d k c e l):Line d (-k) c (-e) (-l):=by
 obtain⟨a,b⟩:=L;exact⟨by grobner,by grobner⟩
def neg_add(h:NT.IsP P)(j:(2:Fin P)≠0){a b:Pt P}(i:On a)(g:On b):neg (add a b)=add (neg a) (neg b):=by
 rcases a with _|⟨k,d⟩
 .rfl
 .rcases b with _|⟨c,f⟩
  .rfl
  .by_cases ho:k=c/\f = -d
   .rw[jH ho];exact(jH ⟨ho.1,by rw[ho.2]⟩).symm
   .have L:=bW h j i g ho;have m:¬(k=c/\-f = - -d):=λe=>ho ⟨e.1,by have:=e.2;grobner⟩
    rw[cD h j i g ho L];refine Eq.trans ?_ (cD h j (cE (a:=some (k,d)) i) (cE (a:=some (c,f)) g) m L.neg).symm;generalize nT k d c f=l;unfold third;show some (l^2-k-c,-(l*(k-(l^2-k-c))-d))=some ((-l)^2-k-c,-l*(k-((-l)^2-k-c)) - -d);have o:(-l)^2=l^2:=by grobner
    rw[o];have n:-(l*(k-(l^2-k-c))-d) = -l*(k-(l^2-k-c)) - -d:=by grobner
    rw[n]
def Line.back{k d f j l c e:Fin P}(L:Line k d f j l)(i:c=l^2-k-f)(g:e=l*(k-c)-d):Line k (-d) c e (-l):=by
 obtain⟨a,b⟩:=L;subst g i a;exact⟨by grobner,by grobner (ringSteps:=10000000)⟩
def To{b k c l:Fin P}(d:c=l^2-b-k):(-l)^2-b-c=k:=by
 subst d
 grobner
def Tn{b k c d l:Fin P}(a:d=c+l*(k-b)):-l*(b-k) - -c=d:=by
 subst a
 grobner
def Si{x y:Fin P}(z:y=0)(k:y^2=x^3+7):x^3+7=0:=by
 grobner
def C6(h:NT.IsP P)(j:(2:Fin P)≠0)(y:∀x:Fin P,x^3+7≠0){b c:Pt P}(g:On b)(m:On c):add (neg b) (add b c)=c:=by
 rcases b with _|⟨d,f⟩
 .rfl
 .rcases c with _|⟨i,s⟩
  .rw[bM];exact jH ⟨rfl,by grobner⟩
  .have r:=g;have w:=m;by_cases ho:d=i/\s = -f
   .rw[jH ho,bM,ho.1,ho.2];rfl
   .have L:=bW h j g m ho;have k:=C5 g m L rfl rfl;rw[cD h j g m ho L];generalize nT d f i s=l at L k;obtain⟨n,p⟩:∃n,n=l^2-d-i:=⟨_,rfl⟩
    unfold third;rw[<-p]at k⊢;obtain⟨q,t⟩:∃q,q=l*(d-n)-f:=⟨_,rfl⟩
    rw[<-t]at k⊢;have M:=L.back p t;have a:=L.go;have o:¬(d=n/\q = - -f):=λe=>by
     obtain⟨u,v⟩:=e;have z:2*f=0:=by
      grobner
     rcases nzd h z with z|z
     .exact j z
     .exact y d (Si z r)
    refine(cD h j (cE (a:=some (d,f)) g) k o M).trans ?_;unfold third;rw[To p,Tn a]
def U5(h:NT.IsP P){d k c b j p l f n o:Fin P}(m:c-k≠0)(g:b-d≠0)(e:l-p=n*(c-k))(i:f-j=o*(b-d))
 (hx:((l-p)^2-(c+k)*(c-k)^2)*(b-d)^2=((f-j)^2-(d+b)*(b-d)^2)*(c-k)^2):n^2-c-k=o^2-d-b:=by
 rw[e,i]at hx;clear e i;refine cancel h (cI h (cI h m m) (cI h g g)) ?_
 grobner
def U4(h:NT.IsP P){d k c m j i l o g p X:Fin P}(n:c-k≠0)(u:m-d≠0)(r:l-i=g*(c-k))(s:o-j=p*(m-d))(q:g^2-c-k=X)
 (f:((l-i)^2-(k+c)*(c-k)^2)*((o-j)*(c-k)-(l-i)*(m-d))+(c-k)^2*(((l-i)*k-i*(c-k))*(m-d)-((o-j)*d-j*(m-d))*(c-k))=0):g*(c-X)-l=p*(d-X)-j:=by
 rw[r,s]at f;have w:l=i+g*(c-k):=by clear f q;grobner
 have t:c+k=g^2-X:=by clear f;grobner
 rw[w];obtain⟨a,y⟩:=vH (c-k);rw[y]at n f⊢;generalize m-d=b at u f;have v:(p*(d-X)-j-(g*(k-X)-i))*(a*a*a*b)=0:=by
  have x:k+c=g^2-X:=by rw[<-t];clear f;grobner
  rw[x]at f
  grobner
 rcases nzd h v with e|e
 .have x:c=k+a:=by clear f v e t w q r s;grobner
  rw[x]
  grobner
 .exact absurd e (cI h (cI h (cI h n n) n) u)
def Vj(h:NT.IsP P){c k b m d j f n:Fin P}(i:2*d≠0)(l:b-c≠0)(g:f*(2*d)=3*k^2)(o:j-m=n*(b-c))
 (hx:(9*k^4-8*k*d^2)*(b-c)^2=((j-m)^2-(c+b)*(b-c)^2)*(4*d^2)):f^2-k-k=n^2-c-b:=by
 rw[o]at hx;refine cancel h (cI h (cI h i i) (cI h l l)) ?_;have e:9*k^4=(f*(2*d))*(f*(2*d)):=by rw[g];clear hx g;grobner
 rw[e]at hx
 grobner
def Vh(h:NT.IsP P){c b i g k m d o X:Fin P}(j:2*k≠0)(p:i-c≠0)(f:d*(2*k)=3*b^2)(q:m-g=o*(i-c))(n:d^2-b-b=X)
 (l:(3*b^2*(b*(4*k^2)-(9*b^4-8*b*k^2))-2*k^2*(4*k^2))*(i-c)=((m-g)*(c*(4*k^2)-(9*b^4-8*b*k^2))-g*(i-c)*(4*k^2))*(2*k)):d*(b-X)-k=o*(c-X)-g:=by
 rw[q]at l;have e:9*b^4-8*b*k^2=X*(4*k^2):=by
  have r:9*b^4=(d*(2*k))*(d*(2*k)):=by rw[f];clear l f;grobner
  rw[r,<-n]
  grobner
 rw[e,<-f]at l;clear e f n;refine cancel h (cI h (cI h (cI h j j) j) p) ?_
 grobner
def qR{a b:Fin P}(h:¬a=b):a-b≠0:=λe=>h (by grobner)
def Line.run{c k b d l:Fin P}(L:Line c k b d l):d-k=l*(b-c)/\k-d=l*(c-b):=by
 obtain⟨a,-⟩:=L;exact⟨by grobner,by grobner⟩
def Line.at{x y l:Fin P}(L:Line x y x y l):l*(2*y)=3*x^2:=by
 obtain⟨-,b⟩:=L
 grobner
def QY{m l d:Fin P}(s:m^2=l^2):(m*d)^2=(l*d)^2:=by grobner
def OR{k b:Fin P}(s:(k - -b)^2=(k-b)^2):4*(k*b)=0:=by grobner
def WU{m l c b k:Fin P}(r:m^2-b-c=k)(e:k=l^2-c-b):m^2=l^2:=by grobner
def Ua{x l a b:Fin P}(e:x=l^2-a-b):x=l^2-b-a:=by grobner
def T9{c e b g d k l:Fin P}(L:Line c e b g l)(f:k=l*(c-d)-e):k=l*(b-d)-g:=by
 obtain⟨a,-⟩:=L
 grobner
def four_ne(h:NT.IsP P)(k:(2:Fin P)≠0):(4:Fin P)≠0:=λe=>by
 have:(2:Fin P)*2=0:=by grobner
 rcases nzd h this with e|e<;>exact k e
def C3{y z:Fin P}(e:y = -z):z = -y:=by grobner
def Be(h:NT.IsP P)(q:(2:Fin P)≠0){b d f l g j m n k o c i:Fin P}(E:j^2=g^3+7)(J:d^2=b^3+7)
 (v:Line b d f l m) (z:Line f l g j n) (a:k=m^2-b-f) (s:o=m*(b-k)-d) (u:c=n^2-f-g) (y:i=n*(f-c)-l)
 (G:o^2=k^3+7) (H:i^2=c^3+7) (w:¬(k=g/\j = -o)) (I:¬(b=c/\i = -d)) (hx:¬c=b) :
 add (some (k,o)) (some (g,j))=add (some (b,d)) (some (c,i)):=by
 have p:=bW h q G E w;have r:=bW h q J H I;rw[cD h q G E w p,cD h q J H I r];unfold third;by_cases hd:k=g
 .have K:=qU h G (hd ▸ E) (λe=>w ⟨hd,e⟩);subst hd K;have t:=xP (x:=k) h q w;have D:=Vj h t (qR hx) p.at r.run.1 (MG b d f k m n l j c i v z a s u y);have F:=Vh h t (qR hx) p.at r.run.1 rfl (MF b d f k m n l j c i v z a s u y);rw[F,D]
 .have D:=U5 h (qR hd) (qR hx) p.run.2 r.run.1 (PC b d f g m n l j k o c i v z a s u y);have F:=U4 h (qR hd) (qR hx) p.run.2 r.run.1 rfl (Py b d f g m n l j k o c i v z a s u y);rw[F,D]
def add_assoc(h:NT.IsP P)(l:(2:Fin P)≠0)(Y:∀x:Fin P,x^3+7≠0)(a b c:Pt P)(g:On a)(k:On b)(n:On c):add (add a b) c=add a (add b c):=by
 have comm:=λ(a b:Pt P) (g:On a) (k:On b)=>add_comm h l a b g k
 have f:=FI h l g k;have i:=FI h l k n;have E:∀ {u v:Pt P},On u->On v->add (neg u) (add u v)=v:=λhu hv=>C6 h l Y hu hv
 by_cases z1:b=neg a
 .subst z1;rw[add_neg];have:=E k n;rw[neg_neg']at this;exact this.symm
 by_cases z2:c=neg b
 .subst z2;rw[add_neg,bM,comm _ _ f n,comm a b g k];exact E k g
 by_cases z3:c=neg (add a b)
 .subst z3;rw[add_neg];have e:add b (neg (add a b))=neg a:=by
   rw[comm a b g k,neg_add h l k g];have:=E (cE k) (cE g);rw[neg_neg']at this;exact this
  rw[e,add_neg]
 by_cases t:add b c=neg a
 .rw[t,add_neg];have e:a=neg (add b c):=by rw[t,neg_neg']
  have j:add a b=neg c:=by
   rw[comm a b g k,e,neg_add h l k n];have:=E (cE k) (cE n);rw[neg_neg']at this;exact this
  rw[j,comm _ _ (cE n) n,add_neg]
 rcases a with _|⟨p,r⟩
 .rfl
 rcases b with _|⟨j,q⟩
 .rfl
 rcases c with _|⟨w,I⟩
 .rw[bM,bM]
 have S:¬(p=j/\q = -r):=λe=>z1 (by rw[e.1,e.2];rfl)
 have w2:¬(j=w/\I = -q):=λe=>z2 (by rw[e.1,e.2];rfl)
 have C:=bW h l g k S;have G:=bW h l k n w2;have A:=cD h l g k S C;have B:=cD h l k n w2 G;rw[A]at f z3⊢;rw[B]at i t⊢;generalize nT p r j q=X at C A f z3⊢;generalize nT j q w I=Z at G B i t⊢;unfold third at f i z3 t A B⊢;obtain⟨F,J⟩:∃F,F=X^2-p-j:=⟨_,rfl⟩
 obtain⟨H,R⟩:∃H,H=Z^2-j-w:=⟨_,rfl⟩
 rw[<-J]at f z3 A⊢;rw[<-R]at i t B⊢;obtain⟨N,Q⟩:∃N,N=X*(p-F)-r:=⟨_,rfl⟩
 obtain⟨L,V⟩:∃L,L=Z*(j-H)-q:=⟨_,rfl⟩
 rw[<-Q]at f z3 A⊢;rw[<-V]at i t B⊢;have W:¬(F=w/\I = -N):=λe=>z3 (by rw[e.2,<-e.1];rfl)
 have O:¬(p=H/\L = -r):=λe=>t (by rw[e.2,<-e.1];rfl)
 by_cases hx:H=p
 .have hy:L=r:=by
   have s:=i;rw[hx]at s;exact qU h g s (λe=>O ⟨hx.symm,e⟩)
  by_cases hd:F=w
  .exfalso;have T:I=N:=by
    have s:=f;exact qU h s (hd ▸ n) (λe=>W ⟨hd,e⟩)
   have K:=E k n;rw[B,hx,hy]at K;rw[hd,<-T]at A;have U:¬p=j:=λe=>by
    subst e;have s:=qU h g k (λe=>S ⟨rfl,e⟩);subst s;rw[comm _ _ (cE k) g,add_neg]at K;cases K
   have u1:¬(j=p/\r = - -q):=λe=>U e.1.symm
   have M:=bW h l (cE (a:=some (j,q)) k) g u1;have r2:=cD h l (cE (a:=some (j,q)) k) g u1 M;have D:third j (-q) p (nT j (-q) p r)=some (w,I):=r2.symm.trans K;generalize nT j (-q) p r=m at M D;unfold third at D;have r4:m^2-j-p=w:=by injection D with D;injection D
   have k1:=M.run.1;have k2:=C.run.2;rw[hd]at J;have s2:=QY (d:=p-j) (WU r4 J);rw[<-k1,<-k2]at s2;have k3:=OR s2;have s:∀ {x y:Fin P},y^2=x^3+7->y≠0:=λo z=>Y _ (Si z o)
   rcases nzd h k3 with e|e
   .exact four_ne h l e
   .rcases nzd h e with e|e
    .exact s g e
    .exact s k e
  ·-- the same,from the other side
   have s:=Be h l g n G.swap C.swap (Ua R) (T9 G V) (Ua J) (T9 C Q) i f (λe=>O ⟨e.1.symm,C3 e.2⟩) (λe=>W ⟨e.1.symm,C3 e.2⟩) hd;rw[comm _ _ f n,comm _ _ g i];exact s.symm
 .exact Be h l n g C G J Q R V f i W O hx
structure Cur(P:Nat)[NeZero P]:Prop where
 pr:NT.IsP P
 two:(2:Fin P)≠0
 sev:∀x:Fin P,x^3+7≠0
def Cur.y_ne(C:Cur P){a b:Fin P}(h:On (some (a,b))):b≠0:=λe=>C.sev a (Si e h)
def Cur.opp_ne(C:Cur P){a b:Fin P}(h:On (some (a,b))):¬(a=a/\b = -b):=λe=>by
 have k:2*b=0:=by
  have:=e.2
  grobner
 exact cI C.pr C.two (C.y_ne h) k
def Jac(x y z:Fin P):Pt P->Prop
 | none=>z=0
 | some (a,b)=>z≠0/\x=a*z^2/\y=b*z^3
def Pair(x y:Fin P):Pt P->Prop
 | none=>x=0/\y=0
 | some (a,b)=>x=a/\y=b
def dbl(n:Fin P):Fin P:=n+n
def twB(x y:Fin P):Fin P:=dbl (dbl (x*(y*y)))
def twS(x:Fin P):Fin P:=dbl (x*x)+x*x
def twX(x y:Fin P):Fin P:=twS x*twS x-dbl (twB x y)
def twY(x y:Fin P):Fin P:=twS x*(twB x y-twX x y)-dbl (dbl (dbl (y*y*(y*y))))
def twZ(y z:Fin P):Fin P:=dbl (y*z)
def V9{a b l x y z:Fin P}(g:l*(2*b)=3*a^2)(ex:x=a*z^2)(k:y=b*z^3):twX x y=(l^2-a-a)*twZ y z^2:=by
 subst ex k;unfold twX twS twB twZ dbl
 grobner (ringSteps:=100000000)
def V8{a b l x y z X:Fin P}(g:l*(2*b)=3*a^2)(ex:x=a*z^2)(c:y=b*z^3)(k:twX x y=X*twZ y z^2):twY x y=(l*(a-X)-b)*twZ y z^3:=by
 subst ex c;unfold twY;rw[k];unfold twS twB twZ dbl
 grobner (ringSteps:=100000000)
def V7(C:Cur P){b y z:Fin P}(c:b≠0)(k:z≠0)(f:y=b*z^3):twZ y z≠0:=λe=>by
 have d:2*b*(z*z*(z*z))=0:=by
  unfold twZ dbl at e;subst f
  grobner
 exact cI C.pr (cI C.pr C.two c) (cI C.pr (cI C.pr k k) (cI C.pr k k)) d
def Jac.twice(C:Cur P){x y z:Fin P}{p:Pt P}(h:Jac x y z p)(k:On p):Jac (twX x y) (twY x y) (twZ y z) (add p p):=by
 match p,h,k with
 | none,h,_ =>
  have c:=h;show twZ y z=0;subst c;unfold twZ dbl
  grobner
 | some (a,b),h,k =>
  obtain⟨d,ex,c⟩:=h;have ho:=C.opp_ne k;have L:=bW C.pr C.two k k ho;rw[cD C.pr C.two k k ho L];have hx:=V9 L.at ex c;exact⟨V7 C (C.y_ne k) d c,hx,V8 L.at ex c hx⟩
def cO(b k:Fin P):Fin P:=b*(k*k)
def eO(b k:Fin P):Fin P:=b*(k*k)*k
def plX(k b bx c:Fin P):Fin P:=(c-b)*(c-b)-(bx-k)*(bx-k)*(bx-k)-dbl ((bx-k)*(bx-k)*k)
def plY(k b bx c:Fin P):Fin P:=(c-b)*((bx-k)*(bx-k)*k-plX k b bx c)-(bx-k)*(bx-k)*(bx-k)*b
def plZ(b c k bx:Fin P):Fin P:=b*c*(bx-k)
def WJ{a b c d l t k e bx f Z:Fin P}(g:d-b=l*(c-a))(j:k=a*t^2)(i:e=b*t^3)(e3:bx=c*t^2)(o:f=d*t^3)(n:Z=t*(bx-k)):plX k e bx f=(l^2-a-c)*Z^2:=by
 have m:d=b+l*(c-a):=by grobner
 subst m j i e3 o n;unfold plX dbl
 grobner (ringSteps:=100000000)
def WI{a b c d l t k e bx f Z X:Fin P}(g:d-b=l*(c-a))(o:k=a*t^2)(j:e=b*t^3)(e3:bx=c*t^2)(p:f=d*t^3)(n:Z=t*(bx-k))(i:plX k e bx f=X*Z^2):plY k e bx f=(l*(a-X)-b)*Z^3:=by
 unfold plY;rw[i];have m:d=b+l*(c-a):=by grobner
 subst m o j e3 p n
 grobner (ringSteps:=100000000)
def BM(C : Cur P){a c t : Fin P}{k : Nat}(ht : t ≠ 0)(e : a * t ^ k = c * t ^ k): a = c := by
  have hk : ∀k : Nat, t ^ k ≠ 0 := λk => by
    induction k with
    | zero => intro h; exact ht (by have h2 : (1 : Fin P) = 0 := by { rw [← h]; grind }; calc t = t * 1 := by grobner
                                    _ = 0 := by rw [h2]; grobner)
    | succ k ih => intro h; exact cI C.pr ih ht (by rw [<-h]; grind)
  exact cancel C.pr (hk k) e
def Jac.plus(C:Cur P){m o e l n f:Fin P}{p q:Pt P}(h:Jac m o e p)(i:On p)(B:Jac l n f q)(j:On q)(F:e≠0)(E:f≠0):
 (cO m f=cO l e/\eO o f=eO n e/\add p q=add p p) \/
 (¬(cO m f=cO l e/\eO o f=eO n e)/\Jac (plX (cO m f) (eO o f) (cO l e) (eO n e)) (plY (cO m f) (eO o f) (cO l e) (eO n e)) (plZ e f (cO m f) (cO l e)) (add p q)):=by
 match p,q,h,i,B,j with
 | none,_,h,_,_,_=>exact absurd h F
 | some (a,b),none,_,_,h,_=>exact absurd h E
 | some (a,b),some (c,d),h,i,B,j =>
  obtain⟨-,y,D⟩:=h;obtain⟨-,A,w⟩:=B;have u:=cI C.pr F E;have s:cO m f=a*(e*f)^2:=by subst y;unfold cO;clear i j;grobner
  have t:eO o f=b*(e*f)^3:=by subst D;unfold eO;clear i j;grobner
  have e3:cO l e=c*(e*f)^2:=by subst A;unfold cO;clear i j;grobner
  have v:eO n e=d*(e*f)^3:=by subst w;unfold eO;clear i j;grobner
  by_cases r:cO m f=cO l e/\eO o f=eO n e
  .refine Yk ⟨r.1,r.2,?_⟩;have g:a=c:=BM C u (by rw[<-s,<-e3];exact r.1);have z:b=d:=BM C u (by rw[<-t,<-v];exact r.2);rw[g,z]
  .refine Yd ⟨r,?_⟩;by_cases g:a=c
   .have hd:d = -b:=Zw λz=>r ⟨by rw[s,e3,g],by
     have:=qU C.pr (x:=a) i (by rw[g];exact j) z;rw[t,v,this]⟩
    rw[jH ⟨g,hd⟩];show plZ _ _ _ _=0;rw[s,e3,g];unfold plZ
    grobner
   .have ho:¬(a=c/\d = -b):=λh=>g h.1
    have L:=bW C.pr C.two i j ho;rw[cD C.pr C.two i j ho L];have z:plZ e f (cO m f) (cO l e)=e*f*(cO l e-cO m f):=rfl;have hx:=WJ L.run.1 s t e3 v z;refine⟨?_,hx,WI L.run.1 s t e3 v z hx⟩;rw[z];refine cI C.pr u (λh=>g ?_);exact BM C (k:=2) u (by rw[<-s,<-e3];clear i j L hx;grobner)
def Jac.zero(C:Cur P){x y z:Fin P}{p:Pt P}(h:Jac x y z p)(k:z=0):p=none:=by
 match p,h with
 | none,_=>rfl
 | some (a,b),h=>exact absurd k h.1
def Jac.neg{x y z:Fin P}{p:Pt P}(h:Jac x y z p):Jac x (0-y) z (neg p):=by
 match p,h with
 | none,h=>exact h
 | some (a,b),h=>exact⟨h.1,h.2.1,by have:=h.2.2;show 0-y = -b*z^3;grobner⟩
def inv_zero(C:Cur P):inv (0:Fin P)=0:=by
 apply yA4;have k:=C.pr.1;show(0:Fin P).val^(P-2)%P=_;rw[val_zero];by_cases h:P=2
 .exact absurd (yA4 (by rw[val_zero];show 2%P=0;rw[h])) C.two
 .rw[yEv oM,Nat.zero_mod]
def Jac.pair(C:Cur P){x y z:Fin P}{p:Pt P}(h:Jac x y z p):Pair (x*(inv z*inv z)) (y*(inv z*inv z)*inv z) p:=by
 match p,h with
 | none,h =>
  have k:=h;subst k;rw[inv_zero C];exact⟨by grobner,by grobner⟩
 | some (a,b),h =>
  have c:=inv_mul C.pr h.1;obtain⟨-,ex,k⟩:=h;subst ex k;exact⟨by grobner,by grobner⟩
def Pair.jac(C:Cur P){x y:Fin P}{p:Pt P}(h:Pair x y p)(k:¬(x=0/\y=0)):Jac x y 1 p:=by
 match p,h with
 | none,h=>exact absurd h k
 | some (a,b),h =>
  obtain⟨ex,c⟩:=h;subst ex c;refine⟨λe=>?_,by grobner,by grobner⟩;have:=congrArg yDZ e;rw[val_zero,val_one C.pr]at this;omega
def Pair.nothing(C:Cur P){x y:Fin P}{p:Pt P}(h:Pair x y p)(k:On p)(c:x=0/\y=0):p=none:=by
 match p,h,k with
 | none,_,_=>rfl
 | some (a,b),h,k =>
  obtain⟨ex,d⟩:=h;exact absurd (by rw[<-d];exact c.2) (C.y_ne k)
def mul:Nat->Pt P->Pt P
 | 0,_=>none
 | n+1,a=>add (mul n a) a
def jD:On (none:Pt P):=trivial
def jV{a:Pt P}:add none a=a:=rfl
def Cur.on(C:Cur P){a b:Pt P}(c:On a)(k:On b):On (add a b):=FI C.pr C.two c k
def Cur.comm(C:Cur P){a b:Pt P}(c:On a)(k:On b):add a b=add b a:=add_comm C.pr C.two a b c k
def Cur.assoc(C:Cur P){a b c:Pt P}(d:On a)(k:On b)(e:On c):add (add a b) c=add a (add b c):=add_assoc C.pr C.two C.sev a b c d k e
def Cur.neg_l(C:Cur P){a:Pt P}(k:On a):add (neg a) a=none:=by
 rw[C.comm (cE k) k,add_neg]
def Cur.swap(C:Cur P){a b c d:Pt P}(f:On a)(k:On b)(e:On c)(hd:On d):add (add a b) (add c d)=add (add a c) (add b d):=by
 rw[C.assoc f k (C.on e hd),<-C.assoc k e hd,C.comm k e,C.assoc e k hd,<-C.assoc f e (C.on k hd)]
def cG(C:Cur P){a:Pt P}(k:On a):∀n,On (mul n a)
 | 0=>jD
 | n+1=>C.on (cG C k n) k
def mul_add(C:Cur P){a:Pt P}(k:On a)(m:Nat):∀n,mul (m+n) a=add (mul m a) (mul n a)
 | 0=>(bM).symm
 | n+1=>by
  show add (mul (m+n) a) a=add (mul m a) (add (mul n a) a);rw[mul_add C k m n,C.assoc (cG C k m) (cG C k n) k]
def eG:Int->Pt P->Pt P
 | .ofNat n,a=>mul n a
 | .negSucc n,a=>neg (mul (n+1) a)
def jC(C:Cur P){a:Pt P}(k:On a):∀n,On (eG n a)
 | .ofNat n=>cG C k n
 | .negSucc n=>cE (cG C k (n+1))
def oU(C:Cur P){a:Pt P}(k:On a):∀n,eG (n+1) a=add (eG n a) a
 | .ofNat n=>rfl
 | .negSucc 0=>by
  show(none:Pt P)=add (neg (add none a)) a;rw[jV,C.neg_l k]
 | .negSucc (n+1)=>by
  show neg (mul (n+1) a)=add (neg (add (mul (n+1) a) a)) a;have b:=cG C k (n+1);rw[neg_add C.pr C.two b k,C.assoc (cE b) (cE k) k,C.neg_l k,bM]
def tI(C:Cur P){a:Pt P}(k:On a)(n:Int):eG (n-1) a=add (eG n a) (neg a):=by
 have h:=oU C k (n-1);rw[Int.sub_add_cancel]at h;rw[h,C.assoc (jC C k _) k (cE k),add_neg,bM]
def Cr(C:Cur P){a:Pt P}(k:On a)(m:Int):∀n:Nat,eG (m+n) a=add (eG m a) (eG n a)
 | 0=>by rw[ZG,yCE];exact(bM).symm
 | n+1=>by
  rw[show m+((n+1:Nat):Int)=(m+n)+1 by omega,oU C k,Cr C k m n,show((n+1:Nat):Int)=(n:Int)+1 by omega,oU C k,
   C.assoc (jC C k _) (jC C k _) k]
def Cq(C:Cur P){a:Pt P}(k:On a):∀n:Nat,eG (-(n:Int)) a=neg (eG n a)
 | 0=>rfl
 | n+1=>by
  have b:eG (((n+1:Nat):Int)) a=add (eG n a) a:=by rw[show((n+1:Nat):Int)=(n:Int)+1 by omega,oU C k]
  rw[b,neg_add C.pr C.two (jC C k _) k,<-Cq C k n,show -((n+1:Nat):Int) = -(n:Int)-1 by omega,tI C k]
def Co(C:Cur P){a:Pt P}(k:On a)(m:Int):∀n:Nat,eG (m-n) a=add (eG m a) (eG (-(n:Int)) a)
 | 0=>by rw[ZG,Int.sub_zero];exact(bM).symm
 | n+1=>by
  rw[show m-((n+1:Nat):Int)=(m-n)-1 by omega,tI C k,Co C k m n,show -((n+1:Nat):Int) = -(n:Int)-1 by omega,tI C k,
   C.assoc (jC C k _) (jC C k _) (cE k)]
def xM(C:Cur P){a:Pt P}(b:On a)(m n:Int):eG (m+n) a=add (eG m a) (eG n a):=by
 rcases Int.le_total 0 n with h|h
 .obtain⟨k,rfl⟩:=yDc h;exact Cr C b m k
 .obtain⟨k,c⟩:=yDc (show 0<=-n by omega);obtain rfl:n = -(k:Int):=oM;rw[<-Co C b m k,Int.sub_eq_add_neg]
def Cp(a:Pt P):eG 1 a=a:=jV
def Ib(a:Pt P):eG 0 a=none:=rfl
def tot(a:Nat->Pt P):Nat->(Nat->Int)->Pt P
 | 0,_=>none
 | k+1,f=>add (tot a k f) (eG (f k) (a k))
def D5{f:Nat->Int}(C:Cur P){a:Nat->Pt P}:∀k,(∀i,i<k->On (a i))->On (tot a k f)
 | 0,_=>jD
 | k+1,h=>C.on (D5 C k λi b=>h i oM) (jC C (h k oM) _)
def eM{a:Nat->Pt P}{f g:Nat->Int}:∀k,(∀i,i<k->f i=g i)->tot a k f=tot a k g
 | 0,_=>rfl
 | k+1,h=>by
  show add (tot a k f) _=add (tot a k g) _;rw[eM k (λi b=>h i oM),h k oM]
def xQ(a:Nat->Pt P){f:Nat->Int}:∀k,(∀i,i<k->f i=0)->tot a k f=none
 | 0,_=>rfl
 | k+1,h=>by
  show add (tot a k f) _=none;rw[xQ a k (λi b=>h i oM),h k oM];rfl
def Bu(C:Cur P){a:Nat->Pt P}(f g:Nat->Int):∀k,(∀i,i<k->On (a i))->tot a k (λj=>f j+g j)=add (tot a k f) (tot a k g)
 | 0,_=>rfl
 | k+1,h=>by
  have b:∀i,i<k->On (a i):=λi d=>h i oM
  have c:=h k oM;show add (tot a k _) (eG (f k+g k) (a k))=add (add (tot a k f) (eG (f k) (a k))) (add (tot a k g) (eG (g k) (a k)));rw[Bu C f g k b,xM C c,C.swap (D5 C k b) (D5 C k b) (jC C c _) (jC C c _)]
def FV(C:Cur P){a:Nat->Pt P}(i:Nat)(d:Int):∀k,i<k->(∀i,i<k->On (a i))->tot a k (λj=>if j=i then d else 0)=eG d (a i)
 | k+1,hi,h=>by
  show add (tot a k _) (eG (if k=i then d else 0) (a k))=_;by_cases b:k=i
  .subst b;rw[yE3 rfl,xQ a k (λj c=>yE4 oM)];rfl
  .rw[yE4 b,FV C i d k oM (λj c=>h j oM)];exact bM
def Nv{f:Nat->Int}{i k:Nat}(C:Cur P){a:Nat->Pt P}(d:Int)(c:i<k)(h:∀i,i<k->On (a i)):
 tot a k (λj=>if j=i then f j+d else f j)=add (tot a k f) (eG d (a i)):=by
 rw[<-FV C i d k c h,<-Bu C f _ k h];refine eM k λj _=>?_
 by_cases b:j=i
 .rw[yE3 b,yE3 b]
 .rw[yE4 b,yE4 b,yCE]
def Ii{f:Nat->Int}{k:Nat}(C:Cur P){a:Nat->Pt P}(h:∀i,i<k->On (a i)):tot a k (λj=>2*f j)=add (tot a k f) (tot a k f):=by
 rw[<-Bu C f f k h];exact eM k λj _=>oM
end EC
namespace EC
def NR{x P c:Nat}(j:NT.IsP P)(l:P=3*c+1)(m:7<P)(g:(P-7)^c%P≠1):(x*x*x+7)%P≠0:=λe=>by
 have hx:¬P ∣ x:=λhd=>by
  have k:P ∣ x*x*x:=Nat.dvd_mul_left_of_dvd hd _;have b:P ∣ 7:=(Nat.dvd_add_right k).1 (yAD e);have:=yAW dC b;omega
 have k:=j.fermat1 x hx;have b:x*x*x%P=P-7:=by
  have i:x*x*x%P<P:=Zi _ oM;have d:(x*x*x%P+7)%P=0:=by rw[yEc];exact e
  by_cases f:x*x*x%P+7<P
  .rw[Ya f]at d;omega
  .rw[yDF oM,Ya oM]at d;omega
 apply g;rw[<-b,<-yDp];rw[<-k]
 congr 1
 rw[show P-1=3*c by omega,yCC]
 congr 1
 rw[Zr,Zr,yBG]
def Ta{P c:Nat}[NeZero P](b:NT.IsP P)(g:P=3*c+1)(i:7<P)(f:(P-7)^c%P≠1):Cur P:=by
 refine⟨b,λe=>?_,λx e=>?_⟩
 .have:=congrArg yDZ e;rw[val_zero]at this;have k:(2:Fin P).val=2%P:=rfl;rw[k,Ya oM]at this;omega
 .have d:x*x*x+7=0:=by rw[<-e];grobner
  have:=congrArg yDZ d;rw[val_zero,Fin.val_add,yAw,yAw]at this;have k:(7:Fin P).val=7%P:=rfl;rw[k,yEb,yEc,Nat.add_mod_mod]at this;exact NR b g i f this
def OD:NT.pm 115792089237316195423570985008687907853269984665640564039457584007908834671663 256 (115792089237316195423570985008687907853269984665640564039457584007908834671663-7) 38597363079105398474523661669562635951089994888546854679819194669302944890554 1≠1:=dK
def Uu{P c k:Nat}(d:c<2^k)(b:1<P)(h:NT.pm P k (P-7) c 1≠1):(P-7)^c%P≠1:=λe=>h (by rw[NT.Gp P k _ c 1 d b,Z6];exact e)
def cur:∃(P:Nat) (_:NeZero P),P=115792089237316195423570985008687907853269984665640564039457584007908834671663/\Cur P:=by
 have k:=NT.pP;have b:=OD;have d:115792089237316195423570985008687907853269984665640564039457584007908834671663=3*38597363079105398474523661669562635951089994888546854679819194669302944890554+1:=dK;have g:38597363079105398474523661669562635951089994888546854679819194669302944890554<2^256:=dK;have e:7<115792089237316195423570985008687907853269984665640564039457584007908834671663:=dK;generalize 38597363079105398474523661669562635951089994888546854679819194669302944890554=c at *;generalize 115792089237316195423570985008687907853269984665640564039457584007908834671663=P at *;have f:NeZero P:=⟨oM⟩
 exact⟨P,f,rfl,Ta k d e (Uu g oM b)⟩
end EC
section
structure At4(w:XF)(k a b c d:Nat):Prop where
 c0:w.cell? ⟨k,0,none⟩=some (uZ a)
 c1:w.cell? ⟨k,1,none⟩=some (uZ b)
 c2:w.cell? ⟨k,2,none⟩=some (uZ c)
 c3:w.cell? ⟨k,3,none⟩=some (uZ d)
 f:∀o,w.frozen? ⟨k,o,none⟩=false
variable {w w1:XF}{k a b c d:Nat}
def At4.lt(h:At4 w k a b c d):k<w.heap.size:=yAa _ _ h.c0
def At4.below{B:Nat}(h:At4 w k a b c d)(e:Below B w w1)(f:k<B):At4 w1 k a b c d:=
 ⟨by rw[e.cell (p:=⟨k,0,none⟩) f];exact h.c0,by rw[e.cell (p:=⟨k,1,none⟩) f];exact h.c1,by rw[e.cell (p:=⟨k,2,none⟩) f];exact h.c2,by rw[e.cell (p:=⟨k,3,none⟩) f];exact h.c3,
  λo=>by rw[e.frozen (p:=⟨k,o,none⟩) f];exact h.f o⟩
def At4.call(h:At4 w k a b c d)(e:kZ w w1):At4 w1 k a b c d:=h.below e h.lt
def At4.alloc(h:At4 w k a b c d)(o:Obj):At4 (w.alloc o) k a b c d:=h.call (aC o)
def At4.drewN(h:At4 w k a b c d)(q:Nat):At4 (w.drewN q) k a b c d:=⟨h.c0,h.c1,h.c2,h.c3,h.f⟩
def At4.new(w:XF)(t:Yj)(a b c d:Nat):At4 (w.alloc (.cells #[uZ a,uZ b,uZ c,uZ d] t)) w.heap.size a b c d:=
 ⟨by rw[Yz];rfl,by rw[Yz];rfl,by rw[Yz];rfl,by rw[Yz];rfl,λo=>Zz _ _ _ _⟩
def At4.made(w:XF)(t:Yj)(a b c d:Nat){k:Nat}(e:w.heap.size=k):At4 (w.alloc (.cells #[uZ a,uZ b,uZ c,uZ d] t)) k a b c d:=
 e ▸ At4.new w t a b c d
def bI{i j:Nat}{o k:Nat}(h:i≠j\/o≠k):(⟨i,o,none⟩:Addr)≠⟨j,k,none⟩:=by
 intro e;simp only[Addr.mk.injEq,and_true]at e;omega
def At4.other{j o : Nat}(h : At4 w k a b c d)(hj : j ≠ k)(v : XG): At4 (w.setCell ⟨j, o, none⟩ v) k a b c d :=
  ⟨by rw [Yc _ _ _ _ (bI (Yk hj))]; exact h.c0, by rw [Yc _ _ _ _ (bI (Yk hj))]; exact h.c1,
   by rw [Yc _ _ _ _ (bI (Yk hj))]; exact h.c2, by rw [Yc _ _ _ _ (bI (Yk hj))]; exact h.c3, λo => by rw [YX]; exact h.f o⟩
def At4.set0(h : At4 w k a b c d)(x : Nat): At4 (w.setCell (aZ k) (uZ (x : Int))) k x b c d :=
  ⟨Zf _ _ _ h.c0, by rw [Yc _ _ _ _ (bI (Yd dC))]; exact h.c1,
   by rw [Yc _ _ _ _ (bI (Yd dC))]; exact h.c2, by rw [Yc _ _ _ _ (bI (Yd dC))]; exact h.c3, λo => by rw [YX]; exact h.f o⟩
def At4.set1(h : At4 w k a b c d)(x : Nat): At4 (w.setCell ⟨k, 1, none⟩ (uZ (x : Int))) k a x c d :=
  ⟨by rw [Yc _ _ _ _ (bI (Yd dC))]; exact h.c0, Zf _ _ _ h.c1,
   by rw [Yc _ _ _ _ (bI (Yd dC))]; exact h.c2, by rw [Yc _ _ _ _ (bI (Yd dC))]; exact h.c3, λo => by rw [YX]; exact h.f o⟩
def At4.set2(h : At4 w k a b c d)(x : Nat): At4 (w.setCell ⟨k, 2, none⟩ (uZ (x : Int))) k a b x d :=
  ⟨by rw [Yc _ _ _ _ (bI (Yd dC))]; exact h.c0, by rw [Yc _ _ _ _ (bI (Yd dC))]; exact h.c1,
   Zf _ _ _ h.c2, by rw [Yc _ _ _ _ (bI (Yd dC))]; exact h.c3, λo => by rw [YX]; exact h.f o⟩
def At4.set3(h : At4 w k a b c d)(x : Nat): At4 (w.setCell ⟨k, 3, none⟩ (uZ (x : Int))) k a b c x :=
  ⟨by rw [Yc _ _ _ _ (bI (Yd dC))]; exact h.c0, by rw [Yc _ _ _ _ (bI (Yd dC))]; exact h.c1,
   by rw [Yc _ _ _ _ (bI (Yd dC))]; exact h.c2, Zf _ _ _ h.c3, λo => by rw [YX]; exact h.f o⟩
def At4.drew(h:At4 w k a b c d):At4 w.drew k a b c d:=⟨h.c0,h.c1,h.c2,h.c3,h.f⟩
def set4(w:XF)(k:Nat)(x y z t:XG):XF:=(((w.setCell (aZ k) x).setCell ⟨k,1,none⟩ y).setCell ⟨k,2,none⟩ z).setCell ⟨k,3,none⟩ t
def At4.self4(h:At4 w k a b c d)(x y z t:Nat):At4 (set4 w k (uZ x) (uZ y) (uZ z) (uZ t)) k x y z t:=(((h.set0 x).set1 y).set2 z).set3 t
def At4.other4{j:Nat}(h:At4 w k a b c d)(e:j≠k)(x y z t:XG):At4 (set4 w j x y z t) k a b c d:=(((h.other e x).other e y).other e z).other e t
def aK{x y z t:XG}{B j:Nat}{b:XF}(h:Below B b w)(k:B<=j):Below B b (set4 w j x y z t):=
 (((h.setCell (p:=⟨j,0,none⟩) k x).setCell (p:=⟨j,1,none⟩) k y).setCell (p:=⟨j,2,none⟩) k z).setCell (p:=⟨j,3,none⟩) k t
end
section
variable {P:Nat}[NeZero P]{N:Nat}
structure FoldI(w wr:XF)(g0 g1 g2 a b c d p q r s:Nat):Prop where
 bl:kZ w wr
 pr:At4 wr w.heap.size g0 g1 g2 0
 lo:At4 wr (w.heap.size+1) a b c d
 hi:At4 wr (w.heap.size+1+1) p q r s
 re:At4 wr (w.heap.size+1+1+1) 0 0 0 0
 ha:a<18446744073709551616
 hb:b<18446744073709551616
 hc:c<18446744073709551616
 hd:d<18446744073709551616
 hp:p<18446744073709551616
 hq:q<18446744073709551616
 hr:r<18446744073709551616
 hs:s<18446744073709551616
def LM{a b c d p q r s i g f t k P gk:Nat}(u:P+val i g f 0=top)(m:top<2*P)(n:val a b c d<top)(j:gk=val a b c d+top*val 0 0 0 0)
 (e:t+top*k=val a b c d+val i g f 0) (o:k<=1) (l:t=val p q r s) (v:t<top):(k=0->val a b c d=gk%P)/\(k=1->val p q r s=gk%P):=by
 have e:gk=val a b c d:=by rw[j];rfl
 rw[e];refine⟨λh=>?_,λh=>?_⟩
 .subst h;rw[Ya oM]
 .subst h;rw[<-l,yDF oM,Ya oM];omega
def Np{p q r s:Nat}(h:¬(p=0/\q=0/\r=0/\s=0)):0<val p q r s:=by unfold val;omega
def II{x h g P gk:Nat}(k:0<h)(d:P+g=top)(c:top<2*P)(b:gk=x+top*h):x+g*h<gk/\(x+g*h)%P=gk%P:=by
 have e:gk=x+g*h+P*h:=by rw[b,<-d,yAB];omega
 rw[e,yBD];have:0<P*h:=Nat.mul_pos oM k;exact⟨oM,rfl⟩
def Dn{l t a b c d g h x:Nat}(k:g*h+x=l+18446744073709551616*t)(f:t=val a b c d):val l a b c+top*val d 0 0 0=x+val g 0 0 0*h:=by
 have e:val g 0 0 0=g:=by unfold val;omega
 rw[e];unfold val at *;unfold top;omega
def val_mul(k c b h:Nat):val k c b 0*h=k*h+18446744073709551616*(c*h)+340282366920938463463374607431768211456*(b*h):=by
 unfold val;rw[yAB,yAB,yAB,yAO,yAO];omega
def zE{j n q s r i h x a b c d p l o m e f k g:Nat}(u:j+18446744073709551616*val a b c d=s*h+x)
 (v:n+18446744073709551616*val p l o m=r*h+val a b c d) (t:q+18446744073709551616*val e f k g=i*h+val p l o m) :
 val j n q e+top*val f k g 0=x+val s r i 0*h:=by
 rw[val_mul];unfold val at *;unfold top;omega
def zF(g0 g1 g2:Nat)(x y:XG)(m n P:Nat)(hj:g0<18446744073709551616)(kf:g1<18446744073709551616)(kc:g2<18446744073709551616)
 (hor:(g1=0/\g2=0)\/∃o:Nat,bits .or .u64 (g1:Int) (g2:Int)=(o:Int)/\o≠0) (hP:P+val g0 g1 g2 0=top) (ka:top<2*P) (hx:Four x m) (hy:Four y n) (w:XF) :
 ZI prog 155 #[.agg #[.int .u64 g0,.int .u64 g1,.int .u64 g2,.int .u64 0],x,y] w (Ret λe w'=>Below w.heap.size w w'/\Four e ((m+top*n)%P)):=by
 obtain⟨a,b,c,d,rfl,ha,hb,hc,hd,em⟩:=hx;obtain⟨p,q,r,s,rfl,hp,hq,hr,hs,en⟩:=hy;go_enter func155,ntmps155;go_wp2;go_loopg [] (val a b c d+top*val p q r s) (λg wr=>∃(a b c d p q r s:Nat),FoldI w wr g0 g1 g2 a b c d p q r s/\g=val a b c d+top*val p q r s/\Hid (g%P=(m+top*n)%P))
 case atStart =>
  have f:=Fx w (.cells #[.int .u64 g0,.int .u64 g1,.int .u64 g2,.int .u64 0] 78) (.cells #[.int .u64 a,.int .u64 b,.int .u64 c,.int .u64 d] 76) (.cells #[.int .u64 p,.int .u64 q,.int .u64 r,.int .u64 s] 76) (.cells #[.int .u64 0,.int .u64 0,.int .u64 0,.int .u64 0] 76);refine⟨a,b,c,d,p,q,r,s,⟨f,?_,?_,?_,?_,ha,hb,hc,hd,hp,hq,hr,hs⟩,rfl,?_⟩
  .exact(((At4.new w 78 g0 g1 g2 0).alloc _).alloc _).alloc _
  .exact((At4.made (w.alloc _) 76 a b c d (XS _ _)).alloc _).alloc _
  .exact(At4.made ((w.alloc _).alloc _) 76 p q r s (by simp)).alloc _
  .exact At4.made (((w.alloc _).alloc _).alloc _) 76 0 0 0 0 (by simp)
  .rw[em,en];rfl
 case round =>
  obtain⟨a,b,c,d,p,q,r,s,hI,hg,HE⟩:=hrel;clear em en ha hb hc hd hp hq hr hs;obtain⟨bl,pr,lo,hi,re,ha,hb,hc,hd,hp,hq,hr,hs⟩:=hI;have HB:Hid (Below w.heap.size w wr):=bl;clear bl;generalize I:w.heap.size+1+1+1=C at re⊢;generalize D:w.heap.size+1+1=k2 at hi⊢;generalize L:w.heap.size+1=k1 at lo⊢;have H:Hid (w.heap.size+1=k1/\w.heap.size+1+1=k2/\w.heap.size+1+1+1=C):=⟨L,D,I⟩
  generalize E:w.heap.size=B at pr HB⊢;have H0:Hid (w.heap.size=B):=E;have kb:Hid (B<=k1):=by unfold Hid;omega
  have O:B≠k1:=oM;have ke:B≠k2:=oM;have ku:B≠C:=oM;have n12:k1≠k2:=oM;have X:k1≠C:=oM;have ki:k2≠C:=oM;have z0:=pr.lt;have z1:=lo.lt;have z2:=hi.lt;have z3:=re.lt;clear E L D I;by_cases hz:p=0/\q=0/\r=0/\s=0
  .obtain⟨rfl,rfl,rfl,rfl⟩:=hz;obtain⟨p0,p1,p2,p3,pf⟩:=id pr;obtain⟨l0,l1,l2,l3,lf⟩:=id lo;obtain⟨E,L,D,I,hf⟩:=id hi;obtain⟨K,r1,r2,r3,F⟩:=id re;go_wp2_with fail
   refine(rS _ _ _ _ (Four.mk ha hb hc hd rfl) (Four.mk hj kf kc dC rfl) _).mono ?_;rintro e w1 ⟨v,rfl,f,v4,t,k,rfl,⟨W,U,S,V,rfl,R,Y,Q,Z,G⟩,hk,N⟩;have z:=LM hP ka (nM ha hb hc hd) hg N hk G (G ▸ nM R Y Q Z);rw[HE.out]at z;have HF:Hid _:=z;clear z;clear p0 p1 p2 p3 pf l0 l1 l2 l3 lf E L D I hf K r1 r2 r3 F N G hg HE;have j:=lo.call f;have i:=re.call f;have z3:=i.lt;have z1:=j.lt;have J:Hid (Below B w w1):=HB.trans (f.mono oM);obtain⟨l0,l1,l2,l3,lf⟩:=id j;obtain⟨K,r1,r2,r3,F⟩:=id i;have A:k=0\/k=1:=oM;rcases A with rfl|rfl
   .go_wp2;have u:=((((i.set0 a).set1 b).set2 c).set3 d).alloc (.cells #[.int .u64 W,.int .u64 U,.int .u64 S,.int .u64 V] 76);refine XR (v:=?v0) ?hr0 rfl ?hR0
    case hr0=>simp[results,Tryz.results155,go_sem,u.c0,u.c1,u.c2,u.c3];rfl
    refine⟨_,rfl,?_,Four.mk ha hb hc hd (HF.1 trivial).symm⟩;rw[H0.out];have T:B<=C:=by have:=H.out;have:=H0.out;omega
    have q1:=(((J.setCell (p:=⟨C,0,none⟩) T (.int .u64 a)).setCell (p:=⟨C,1,none⟩) T (.int .u64 b)).setCell (p:=⟨C,2,none⟩) T (.int .u64 c)).setCell (p:=⟨C,3,none⟩) T (.int .u64 d);exact q1.alloc (by simp;omega) _
   .go_wp2;have u:=((((i.set0 W).set1 U).set2 S).set3 V).alloc (.cells #[.int .u64 W,.int .u64 U,.int .u64 S,.int .u64 V] 76);refine XR (v:=?v1) ?hr1 rfl ?hR1
    case hr1=>simp[results,Tryz.results155,go_sem,u.c0,u.c1,u.c2,u.c3];rfl
    refine⟨_,rfl,?_,Four.mk R Y Q Z (HF.2 trivial).symm⟩;rw[H0.out];have T:B<=C:=by have:=H.out;have:=H0.out;omega
    have q1:=(((J.setCell (p:=⟨C,0,none⟩) T (.int .u64 W)).setCell (p:=⟨C,1,none⟩) T (.int .u64 U)).setCell (p:=⟨C,2,none⟩) T (.int .u64 S)).setCell (p:=⟨C,3,none⟩) T (.int .u64 V);exact q1.alloc (by simp;omega) _
  .go_upto_region 1 with fail
   go_cut [12] from 10 to 72 (λc wx=>c=.bool true/\wr=wx)
   case first =>
    obtain⟨E,L,D,I,hf⟩:=id hi;go_wp2_with fail
    all_goals (go_meet;exact⟨rfl,rfl⟩)
   case rest =>
    obtain⟨rfl,rfl⟩:=hcut;have h9:=II (Np hz) hP ka hg;clear hz;obtain⟨p0,p1,p2,p3,pf⟩:=id pr;obtain⟨l0,l1,l2,l3,lf⟩:=id lo;obtain⟨E,L,D,I,hf⟩:=id hi;rcases hor with⟨rfl,rfl⟩|⟨o,ho,kv⟩
    .have hor:bits .or .u64 0 0=0:=dK;go_wp2_with fail
     refine(kJ g0 _ _ _ _ hj (Four.mk hp hq hr hs rfl) (Four.mk ha hb hc hd rfl) _).mono ?_;rintro e w1 ⟨v,rfl,f,l,v4,t,rfl,hl,⟨W,U,S,V,rfl,R,Y,Q,Z,G⟩,N⟩;have j:=(lo.alloc _).call f;have A:=(hi.alloc _).call f;have z:=(pr.alloc _).call f;have i:=(re.alloc _).call f;have u:=(At4.new wr 76 0 0 0 0).call f;have J:Hid (Below B w w1):=(HB.alloc oM _).trans (f.mono (by simp;omega));clear f p0 p1 p2 p3 pf l0 l1 l2 l3 lf E L D I hf lo hi pr re;generalize ht:wr.heap.size=k4 at u z0 z1 z2 z3⊢;clear ht;have m0:B≠k4:=oM;have m1:k1≠k4:=oM;have m2:k2≠k4:=oM;have m3:C≠k4:=oM;have M:Hid (B<k4):=z0;clear z0 z1 z2 z3;have z0:=z.lt;have z1:=j.lt;have z2:=A.lt;have z3:=i.lt;have z4:=u.lt;have F:Hid (g0*val p q r s+val a b c d=l+18446744073709551616*t/\t=val W U S V):=⟨N.symm,G⟩
     have HL:Hid (_/\_):=h9;clear N G h9 hg;obtain⟨p0,p1,p2,p3,pf⟩:=id z;obtain⟨l0,l1,l2,l3,lf⟩:=id j;obtain⟨E,L,D,I,hf⟩:=id A;obtain⟨t0,t1,t2,t3,tf⟩:=id u;go_wp2;go_region
     go_wp2;obtain⟨q1,q2,q3⟩:=H.out;have T:=H0.out;subst q1 q2 q3 T;go_roundg (val l W U S+top*val V 0 0 0)
     case measure=>rw[Dn F.1 F.2];exact HL.1
     case rel =>
      refine⟨l,W,U,S,V,0,0,0,⟨?_,?_,?_,?_,?_,hl,R,Y,Q,Z,dC,dC,dC⟩,rfl,?_⟩
      .have s1:=(J.setCell (p:=⟨w.heap.size+1,0,none⟩) (yB6 _) (.int .u64 l))
       exact(aK (aK (aK s1 (yAm M.out)) (yB6 _)) oM).drew
      .exact((((z.other O.symm _).other4 m0.symm _ _ _ _).other4 O.symm _ _ _ _).other4 ke.symm _ _ _ _).drew
      .exact((((j.set0 l).other4 m1.symm _ _ _ _).self4 l W U S).other4 n12.symm _ _ _ _).drew
      .exact((((A.other n12 _).other4 m2.symm _ _ _ _).other4 n12 _ _ _ _).self4 V 0 0 0).drew
      .exact((((i.other X _).other4 m3.symm _ _ _ _).other4 X _ _ _ _).other4 ki _ _ _ _).drew
      .unfold Hid;rw[Dn F.1 F.2,<-HE.out];exact HL.2
    .go_wp2_with fail
     refine(kJ g0 _ _ _ _ hj (Four.mk hp hq hr hs rfl) (Four.mk ha hb hc hd rfl) _).mono ?_;rintro e w1 ⟨v,rfl,f,l,v4,t,rfl,hl,⟨W,U,S,V,rfl,R,Y,Q,Z,G⟩,N⟩;have j:=(lo.alloc _).call f;have A:=(hi.alloc _).call f;have z:=(pr.alloc _).call f;have i:=(re.alloc _).call f;have u:=(At4.new wr 76 0 0 0 0).call f;have J:Hid (Below B w w1):=(HB.alloc oM _).trans (f.mono (by simp;omega));clear f p0 p1 p2 p3 pf l0 l1 l2 l3 lf E L D I hf lo hi pr re;generalize ht:wr.heap.size=k4 at u z0 z1 z2 z3⊢;clear ht;have m0:B≠k4:=oM;have m1:k1≠k4:=oM;have m2:k2≠k4:=oM;have m3:C≠k4:=oM;have M:Hid (B<k4):=z0;clear z0 z1 z2 z3;have hw:Hid (l+18446744073709551616*val W U S V=g0*val p q r s+val a b c d):=by unfold Hid;rw[<-G];exact N
     have HL:Hid (_/\_):=h9;clear N G h9 hg;have z0:=z.lt;have z1:=j.lt;have z2:=A.lt;have z3:=i.lt;have z4:=u.lt;obtain⟨p0,p1,p2,p3,pf⟩:=id z;obtain⟨l0,l1,l2,l3,lf⟩:=id j;obtain⟨E,L,D,I,hf⟩:=id A;obtain⟨t0,t1,t2,t3,tf⟩:=id u;go_wp2_with fail
     refine(kJ g1 _ _ _ _ kf (Four.mk hp hq hr hs rfl) (Four.mk R Y Q Z rfl) _).mono ?_;rintro e w2 ⟨v,rfl,F,l',v5,t,rfl,kn,⟨a2,b2,c2,d2,rfl,ko,kh,km,kk,G⟩,N⟩;have h6:=((j.set0 l).other4 m1.symm _ _ _ _).call F;have h8:=((A.other n12 _).other4 m2.symm _ _ _ _).call F;have h5:=((z.other O.symm _).other4 m0.symm _ _ _ _).call F;have hu:=((i.other X _).other4 m3.symm _ _ _ _).call F;have h7:=((u.other m1 _).self4 W U S V).call F;have kg:Hid (Below B w w2):=((aK (J.setCell (p:=⟨k1,0,none⟩) kb.out _) (yAm M.out)).trans (F.mono (by simp;omega)))
     clear F p0 p1 p2 p3 pf l0 l1 l2 l3 lf E L D I hf t0 t1 t2 t3 tf j A z i u J z0 z1 z2 z3 z4;have k8:Hid (l'+18446744073709551616*val a2 b2 c2 d2=g1*val p q r s+val W U S V):=by unfold Hid;rw[<-G];exact N
     clear N G;have z0:=h5.lt;have z1:=h6.lt;have z2:=h8.lt;have z3:=hu.lt;have z4:=h7.lt;obtain⟨p0,p1,p2,p3,pf⟩:=id h5;obtain⟨l0,l1,l2,l3,lf⟩:=id h6;obtain⟨E,L,D,I,hf⟩:=id h8;obtain⟨t0,t1,t2,t3,tf⟩:=id h7;go_wp2_with fail
     refine(kJ g2 _ _ _ _ kc (Four.mk hp hq hr hs rfl) (Four.mk ko kh km kk rfl) _).mono ?_;rintro e w3 ⟨v,rfl,K,h4,v6,t,rfl,kj,⟨a3,b3,c3,d3,rfl,kt,k7,kl,kr,G⟩,N⟩;have hm:=((h6.set1 l').other4 m1.symm _ _ _ _).call K;have hn:=((h8.other n12 _).other4 m2.symm _ _ _ _).call K;have k9:=((h5.other O.symm _).other4 m0.symm _ _ _ _).call K;have k5:=((hu.other X _).other4 m3.symm _ _ _ _).call K;have kd:=((h7.other m1 _).self4 a2 b2 c2 d2).call K;have kp:Hid (Below B w w3):=((aK (kg.setCell (p:=⟨k1,1,none⟩) kb.out _) (yAm M.out)).trans (K.mono (by simp;omega)))
     clear K p0 p1 p2 p3 pf l0 l1 l2 l3 lf E L D I hf t0 t1 t2 t3 tf h6 h8 h5 hu h7 kg z0 z1 z2 z3 z4;have k6:Hid (h4+18446744073709551616*val a3 b3 c3 d3=g2*val p q r s+val a2 b2 c2 d2):=by unfold Hid;rw[<-G];exact N
     clear N G;have z0:=k9.lt;have z1:=hm.lt;have z2:=hn.lt;have z3:=k5.lt;have z4:=kd.lt;obtain⟨l0,l1,l2,l3,lf⟩:=id hm;obtain⟨E,L,D,I,hf⟩:=id hn;obtain⟨t0,t1,t2,t3,tf⟩:=id kd;go_wp2;go_region
     go_wp2;clear l0 l1 l2 l3 lf E L D I hf t0 t1 t2 t3 tf;obtain⟨q1,q2,q3⟩:=H.out;have T:=H0.out;subst q1 q2 q3 T;go_roundg (val l l' h4 a3+top*val b3 c3 d3 0)
     case measure=>rw[zE hw.out k8.out k6.out];exact HL.1
     case rel =>
      refine⟨l,l',h4,a3,b3,c3,d3,0,⟨?_,?_,?_,?_,?_,hl,kn,kj,kt,k7,kl,kr,dC⟩,rfl,?_⟩
      .have s1:=(kp.setCell (p:=⟨w.heap.size+1,2,none⟩) (yB6 _) (.int .u64 h4))
       have s2:=(aK s1 (yAm M.out) (x:=(.int .u64 a3)) (y:=(.int .u64 b3)) (z:=(.int .u64 c3)) (t:=(.int .u64 d3)))
       exact(aK (s2.setCell (p:=⟨w.heap.size+1,3,none⟩) (yB6 _) (.int .u64 a3)) oM).drew
      .exact((((k9.other O.symm _).other4 m0.symm _ _ _ _).other O.symm _).other4 ke.symm _ _ _ _).drew
      .exact((((hm.set2 h4).other4 m1.symm _ _ _ _).set3 a3).other4 n12.symm _ _ _ _).drew
      .exact((((hn.other n12 _).other4 m2.symm _ _ _ _).other n12 _).self4 b3 c3 d3 0).drew
      .exact((((k5.other X _).other4 m3.symm _ _ _ _).other X _).other4 ki _ _ _ _).drew
      .unfold Hid;rw[zE hw.out k8.out k6.out,<-HE.out];exact HL.2
end
section
structure At8(w:XF)(k a b c d e f g h:Nat):Prop where
 c0:w.cell? ⟨k,0,none⟩=some (uZ a)
 c1:w.cell? ⟨k,1,none⟩=some (uZ b)
 c2:w.cell? ⟨k,2,none⟩=some (uZ c)
 c3:w.cell? ⟨k,3,none⟩=some (uZ d)
 c4:w.cell? ⟨k,4,none⟩=some (uZ e)
 c5:w.cell? ⟨k,5,none⟩=some (uZ f)
 c6:w.cell? ⟨k,6,none⟩=some (uZ g)
 c7:w.cell? ⟨k,7,none⟩=some (uZ h)
 fz:∀o,w.frozen? ⟨k,o,none⟩=false
variable {w w1:XF}{k a b c d e f g h:Nat}
def At8.made(w:XF)(t:Yj)(a b c d e f g h:Nat){k:Nat}(i:w.heap.size=k):At8 (w.alloc (.cells #[uZ a,uZ b,uZ c,uZ d,uZ e,uZ f,uZ g,uZ h] t)) k a b c d e f g h:=by
 subst i;exact⟨by rw[Yz];rfl,by rw[Yz];rfl,by rw[Yz];rfl,by rw[Yz];rfl,by rw[Yz];rfl,by rw[Yz];rfl,by rw[Yz];rfl,by rw[Yz];rfl,λo=>Zz _ _ _ _⟩
def nH{q B:Nat}{k:XF}(H:Below B k w):Below B k (w.drewN q):=⟨H.os,H.tape,H.output,H.size,H.block⟩
end
section
variable {P:Nat}[NeZero P]{N:Nat}
structure Gap(g0 g1 g2 P:Nat):Prop where
 h0:g0<18446744073709551616
 h1:g1<18446744073709551616
 h2:g2<18446744073709551616
 hor:(g1=0/\g2=0)\/∃o:Nat,bits .or .u64 (g1:Int) (g2:Int)=(o:Int)/\o≠0
 hP:P+val g0 g1 g2 0=top
 hP2:top<2*P
 hg:0<val g0 g1 g2 0
def Af{k a b c d:Nat}{w W e:XF}(h:Hid (Below k w W))(pr:At4 W k a b c d)(f:kZ W e):Hid (Below k w e):=h.trans (f.mono (yAm pr.lt))
end
section
structure Blk where
 k:Nat
 o:Nat
 a:Nat
 b:Nat
 c:Nat
 d:Nat
structure Blk.at(x:Blk)(w:XF):Prop where
 c0:w.cell? ⟨x.k,x.o,none⟩=some (uZ (x.a:Int))
 c1:w.cell? ⟨x.k,x.o+1,none⟩=some (uZ (x.b:Int))
 c2:w.cell? ⟨x.k,x.o+2,none⟩=some (uZ (x.c:Int))
 c3:w.cell? ⟨x.k,x.o+3,none⟩=some (uZ (x.d:Int))
 f:∀o,w.frozen? ⟨x.k,o,none⟩=false
structure Kept(w:XF)(k0:Nat)(l:List Blk)(W:XF):Prop where
 bl:Below k0 w W
 le:k0<=W.heap.size
 at':∀x∈l,x.at W
variable {w W w1:XF}{k0:Nat}{l:List Blk}{x:Blk}
def Blk.at.lt(h:x.at W):x.k<W.heap.size:=yAa _ _ h.c0
def Blk.at.call(h:x.at W)(k:kZ W w1):x.at w1:=
 ⟨by rw[k.cell (p:=⟨x.k,x.o,none⟩) h.lt];exact h.c0,by rw[k.cell (p:=⟨x.k,x.o+1,none⟩) h.lt];exact h.c1,by rw[k.cell (p:=⟨x.k,x.o+2,none⟩) h.lt];exact h.c2,by rw[k.cell (p:=⟨x.k,x.o+3,none⟩) h.lt];exact h.c3,
  λo=>by rw[k.frozen (p:=⟨x.k,o,none⟩) h.lt];exact h.f o⟩
def Blk.at.other{j i : Nat}(h : x.at W)(hj : j ≠ x.k)(v : XG): x.at (W.setCell ⟨j, i, none⟩ v) :=
  ⟨by rw [Yc _ _ _ _ (bI (Yk hj))]; exact h.c0, by rw [Yc _ _ _ _ (bI (Yk hj))]; exact h.c1,
   by rw [Yc _ _ _ _ (bI (Yk hj))]; exact h.c2, by rw [Yc _ _ _ _ (bI (Yk hj))]; exact h.c3, λo => by rw [YX]; exact h.f o⟩
def Kept.call(h:Kept w k0 l W)(k:kZ W w1):Kept w k0 l w1:=
 ⟨h.bl.trans (k.mono h.le),XN h.le k.size,λx hx=>(h.at' x hx).call k⟩
def Kept.drew(h:Kept w k0 l W):Kept w k0 l W.drew:=⟨h.bl.drew,h.le,λx hx=>⟨(h.at' x hx).c0,(h.at' x hx).c1,(h.at' x hx).c2,(h.at' x hx).c3,(h.at' x hx).f⟩⟩
def Kept.undrew(h:Kept w k0 l W.drew):Kept w k0 l W:=
 ⟨⟨h.bl.os,h.bl.tape,h.bl.output,h.bl.size,h.bl.block⟩,h.le,λx hx=>⟨(h.at' x hx).c0,(h.at' x hx).c1,(h.at' x hx).c2,(h.at' x hx).c3,(h.at' x hx).f⟩⟩
def Kept.alloc(h:Kept w k0 l W)(o:Obj):Kept w k0 l (W.alloc o):=h.call (aC o)
def Kept.set{j i:Nat}(h:Kept w k0 l W)(k:k0<=j)(b:∀x∈l,j≠x.k)(v:XG):Kept w k0 l (W.setCell ⟨j,i,none⟩ v):=
 ⟨h.bl.setCell (p:=⟨j,i,none⟩) k v,by simpa using h.le,λx hx=>(h.at' x hx).other (b x hx) v⟩
def Kept.set4{j:Nat}(h:Kept w k0 l W)(k:k0<=j)(b:∀x∈l,j≠x.k)(p q r s:XG):Kept w k0 l (Go.Proofs.YtlofhpkoaljmeaaGreat.set4 W j p q r s):=
 (((h.set k b p).set k b q).set k b r).set k b s
def Kept.set4'{j:Nat}(h:Kept w k0 l W)(k:k0<=j)(b:∀x∈l,j≠x.k)(p q r s:XG):
 Kept w k0 l ((((W.setCell (aZ j) p).setCell ⟨j,1,none⟩ q).setCell ⟨j,2,none⟩ r).setCell ⟨j,3,none⟩ s):=h.set4 k b p q r s
def Kept.lts(h:Kept w k0 l W):∀x∈l,x.k<W.heap.size:=λx hx=>(h.at' x hx).lt
def Kept.head(h:Kept w k0 (x :: l) W):x.at W:=h.at' x (YL)
def Kept.tail(h:Kept w k0 (x :: l) W):Kept w k0 l W:=⟨h.bl,h.le,λy k=>h.at' y (Yx _ k)⟩
def At4.blk{k a b c d:Nat}(h:At4 W k a b c d):(Blk.mk k 0 a b c d).at W:=⟨h.c0,h.c1,h.c2,h.c3,h.f⟩
def Blk.at.at4{k a b c d:Nat}(h:(Blk.mk k 0 a b c d).at W):At4 W k a b c d:=⟨h.c0,h.c1,h.c2,h.c3,h.f⟩
def Kept.mk1(k:Below k0 w W)(b:k0<=W.heap.size):Kept w k0 [] W:=⟨k,b,λ_ h=>by cases h⟩
def Kept.cons(h:Kept w k0 l W)(hx:x.at W):Kept w k0 (x :: l) W:=
 ⟨h.bl,h.le,λy k=>by rcases Zc.1 k with rfl|b;exact hx;exact h.at' y b⟩
def Kept.put{j a b c d:Nat}(h:Kept w k0 (⟨j,0,a,b,c,d⟩ :: l) W)(k:k0<=j)(e:∀x∈l,j≠x.k)(x y z t:Nat):
 Kept w k0 (⟨j,0,x,y,z,t⟩ :: l) ((((W.setCell (aZ j) (uZ x)).setCell ⟨j,1,none⟩ (uZ y)).setCell ⟨j,2,none⟩ (uZ z)).setCell ⟨j,3,none⟩ (uZ t)):=
 (h.tail.set4' k e _ _ _ _).cons (h.head.at4.self4 x y z t).blk
end
section
variable {P:Nat}[NeZero P]{N:Nat}
def Dg(w:XF)(t0 t1 t2 q:Yj)(a b c d e f g h i j k l m n o p:Nat):
 Kept w w.heap.size [⟨w.heap.size,0,a,b,c,d⟩,⟨w.heap.size+1,0,e,f,g,h⟩,⟨w.heap.size+1+1,0,i,j,k,l⟩,⟨w.heap.size+1+1+1,0,m,n,o,p⟩]
  ((((w.alloc (.cells #[uZ a,uZ b,uZ c,uZ d] t0)).alloc (.cells #[uZ e,uZ f,uZ g,uZ h] t1)).alloc (.cells #[uZ i,uZ j,uZ k,uZ l] t2)).alloc (.cells #[uZ m,uZ n,uZ o,uZ p] q)):=by
 refine((((Kept.mk1 (Fx w _ _ _ _) (Fx w _ _ _ _).size).cons ?_).cons ?_).cons ?_).cons ?_
 .exact(At4.made _ q m n o p (by simp)).blk
 .exact((At4.made _ t2 i j k l (by simp)).alloc _).blk
 .exact(((At4.made _ t1 e f g h (by simp)).alloc _).alloc _).blk
 .exact((((At4.made _ t0 a b c d rfl).alloc _).alloc _).alloc _).blk
def Ol{c b k P m n s l:Nat}(hG:Gap c b k P)(d:s+top*0=m+n)(e:l+top*0=s+val c b k 0)(f:l<top):(m+n)%P=s:=by
 have:=hG.hP;rw[<-d,yCQ,yAi,Ya oM]
def Om{g f e P m n s l k j:Nat}(hG:Gap g f e P)(r:m<P)(v:n<P)(o:s+top*k=m+n)(p:l+top*j=s+val g f e 0)(q:k<=1)(x:j<=1)(i:¬(k=0/\j=0))(u:s<top)(_:l<top):(m+n)%P=l:=by
 have t:=hG.hP;have w:=hG.hP2;have d:k=0\/k=1:=oM;have b:j=0\/j=1:=oM;have:m+n=l+P:=by
  rcases d with h|h<;>rcases b with c|c<;>rw[h]at o<;>rw[c]at p<;>first|omega|(exfalso;exact i ⟨h,c⟩)
 rw[this,yDQ,Ya oM]
def or2{a b:Nat}(e:a<=1)(d:b<=1):∃o:Nat,bits .or .u64 (a:Int) (b:Int)=(o:Int)/\(o=0↔(a=0/\b=0)):=by
 have k:a=0\/a=1:=oM;have c:b=0\/b=1:=oM;rcases k with rfl|rfl<;>rcases c with rfl|rfl
 .exact⟨0,dK,dC⟩
 .exact⟨1,dK,dC⟩
 .exact⟨1,dK,dC⟩
 .exact⟨1,dK,dC⟩
def KV{P m n s:Nat}(b:m<P)(c:n<P)(k:s+n=m+top*0):(m+P-n)%P=s:=by
 rw[show m+P-n=s+P by omega,yDQ,Ya oM]
def KW{e c b P m n s l j:Nat}(hG:Gap e c b P)(_:m<P)(p:n<P)(i:s+n=m+top*1)(f:l+val e c b 0=s+top*j)(r:j<=1)(q:l<top)(o:s<top):(m+P-n)%P=l:=by
 have g:=hG.hP;have k:j=0\/j=1:=oM;have:m+P-n=l:=by
  rcases k with d|d<;>rw[d]at f<;>omega
 rw[this,Ya oM]
def sum_any(Q O L P:Nat)(x y:XG)(m n:Nat)(hG:Gap Q O L P)(hx:Four x m)(R:Four y n)(hm:m<P)(hn:n<P)(w:XF):
 cZ 98 #[.agg #[uZ Q,uZ O,uZ L,uZ 0],x,y] w (rZ w λe w'=>Four e ((m+n)%P)):=by
 obtain⟨a,b,c,d,rfl,ha,hb,hc,hd,em⟩:=id hx;obtain⟨p,q,r,s,rfl,hp,hq,hr,hs,en⟩:=id R;clear em en ha hb hc hd hp hq hr hs;go_enter func98,ntmps98;go_wp2_with fail
 have g:=Dg w 78 76 76 76 Q O L 0 a b c d p q r s 0 0 0 0;simp only[ZG]at g;generalize yAo _ _=W0 at g⊢;generalize h3:w.heap.size+1+1+1=k3 at g⊢;generalize h2:w.heap.size+1+1=k2 at g⊢;generalize h1:w.heap.size+1=k1 at g⊢;have W:Hid (w.heap.size<=k3):=by unfold Hid;omega
 generalize Z:w.heap.size=Y at g W⊢;have H0:Hid (w.heap.size=Y):=Z;have V:Y≠k3:=oM;clear Z h1 h2 h3;apply(rS _ _ _ _ hx R _).mono;rintro e w1 ⟨v,rfl,S,v2,t,k,rfl,⟨I,b1,c1,G,rfl,F,i,z,B,J⟩,hk,M⟩;have X:Hid (val I b1 c1 G+top*k=m+n):=by unfold Hid;rw[<-J];exact M
 clear J M;replace g:=g.call S;have f:=(g.alloc (.cells #[uZ I,uZ b1,uZ c1,uZ G] 76)).cons (At4.made w1 76 I b1 c1 G rfl).blk;have m0:=Z9 g.head.lt;have m3:=Z9 g.tail.tail.tail.head.lt;obtain⟨k5,hi,h7,ht,pf⟩:=f.tail.head.at4;have z0:=f.tail.head.lt;go_wp2_with fail
 apply(rS _ _ _ _ (Four.mk F i z B rfl) (Four.mk hG.h0 hG.h1 hG.h2 dC rfl) _).mono;rintro e w2 ⟨v,rfl,T,v3,t2,j,rfl,⟨a2,N,c2,K,rfl,E,u,D,A,J⟩,hj,M⟩;have H:Hid (val a2 N c2 K+top*j=val I b1 c1 G+val Q O L 0):=by unfold Hid;rw[<-J];exact M
 replace f:=f.call T;have HG:=mk1 (hG);have HM:=mk2 hm hn;clear hG hm hn hx R m0 V;generalize w1.heap.size=k4 at f m3⊢;obtain⟨hg,h8,h6,hu,sf⟩:=f.head.at4;obtain⟨hl,h5,h9,h4,rf⟩:=f.tail.tail.tail.tail.head.at4;have z4:=f.head.lt;have z3:=f.tail.tail.tail.tail.head.lt;obtain⟨o,ho,C⟩:=or2 hk hj;by_cases U:k=0/\j=0
 .obtain⟨rfl,rfl⟩:=U;obtain rfl:o=0:=C.2 ⟨rfl,rfl⟩;clear C;replace ho:bits .or .u64 0 0=0:=ho;go_wp2;have l:=(f.tail.tail.tail.tail.head.at4.self4 I b1 c1 G).alloc (.cells #[uZ a2,uZ N,uZ c2,uZ K] 76);unfold set4 at l;refine XR (v:=?v0) ?hr0 rfl ?hR0
  case hr0=>simp[results,Tryz.results98,go_sem,l.c0,l.c1,l.c2,l.c3];rfl
  refine⟨_,rfl,?_,Four.mk F i z B (Ol HG X H (nM E u D A))⟩;rw[H0.out];exact(aK f.bl W).alloc (by simpa[set4]using f.le) _
 .have hw:¬o=0:=λh=>U (C.1 h)
  go_wp2;have l:=(f.tail.tail.tail.tail.head.at4.self4 a2 N c2 K).alloc (.cells #[uZ a2,uZ N,uZ c2,uZ K] 76);unfold set4 at l;refine XR (v:=?v1) ?hr1 rfl ?hR1
  case hr1=>simp[results,Tryz.results98,go_sem,l.c0,l.c1,l.c2,l.c3];rfl
  refine⟨_,rfl,?_,Four.mk E u D A (Om HG HM.1 HM.2 X H hk hj U (nM F i z B) (nM E u D A))⟩;rw[H0.out];exact(aK f.bl W).alloc (by simpa[set4]using f.le) _
def oQ(O N L P:Nat)(x y:XG)(m n:Nat)(hG:Gap O N L P)(hx:Four x m)(hy:Four y n)(hm:m<P)(hn:n<P)(w:XF):
 cZ 178 #[.agg #[uZ O,uZ N,uZ L,uZ 0],x,y] w (rZ w λe w'=>Four e ((m+P-n)%P)):=by
 obtain⟨a,b,c,d,rfl,ha,hb,hc,hd,em⟩:=id hx;obtain⟨p,q,r,s,rfl,hp,hq,hr,hs,en⟩:=id hy;clear em en ha hb hc hd hp hq hr hs;go_enter func178,ntmps178;go_wp2_with fail
 have g:=Dg w 78 76 76 76 O N L 0 a b c d p q r s 0 0 0 0;simp only[ZG]at g;generalize yAo _ _=W0 at g⊢;generalize h3:w.heap.size+1+1+1=k3 at g⊢;generalize h2:w.heap.size+1+1=k2 at g⊢;generalize h1:w.heap.size+1=k1 at g⊢;have S:Hid (w.heap.size<=k3):=by unfold Hid;omega
 generalize h0:w.heap.size=k0 at g S⊢;have H0:=mk1 (h0);apply(uE _ _ _ _ hx hy _).mono;rintro e w1 ⟨v,rfl,Q,v2,t,k,rfl,⟨C,b1,c1,B,rfl,A,i,u,z,U⟩,hk,X⟩;have Z:Hid (val C b1 c1 B+n=m+top*k):=by unfold Hid;rw[<-U];exact X
 replace g:=g.call Q;have f:=(g.alloc (.cells #[uZ C,uZ b1,uZ c1,uZ B] 76)).cons (At4.made w1 76 C b1 c1 B rfl).blk;have m0:=Z9 g.head.lt;have m3:=Z9 g.tail.tail.tail.head.lt;have K:=mk1 (hG);have M:=mk2 hm hn;have Q4:=mk1 (g.le);have V:k=0\/k=1:=oM;obtain⟨J,F,I,D,rf⟩:=g.tail.tail.tail.head.at4;have z3:=g.tail.tail.tail.head.lt;rcases V with rfl|rfl
 .clear f;go_wp2;have l:=(g.tail.tail.tail.head.at4.self4 C b1 c1 B).alloc (.cells #[uZ C,uZ b1,uZ c1,uZ B] 76);unfold set4 at l;refine XR (v:=?v0) ?hr0 rfl ?hR0
  case hr0=>simp[results,Tryz.results178,go_sem,l.c0,l.c1,l.c2,l.c3];rfl
  refine⟨_,rfl,?_,Four.mk A i u z (KV M.1 M.2 Z)⟩;rw[H0.out];exact(aK g.bl S).alloc (by simpa[set4]using g.le) _
 .clear g J F I D rf z3;obtain⟨hi,h8,h5,h9,pf⟩:=f.tail.head.at4;have z0:=f.tail.head.lt;go_wp2_with fail
  apply(uE _ _ _ _ (Four.mk A i u z rfl) (Four.mk K.h0 K.h1 K.h2 dC rfl) _).mono;rintro e w2 ⟨v,rfl,R,v3,t2,j,rfl,⟨a2,Y,c2,W,rfl,H,o,G,E,U⟩,hj,X⟩;have T:Hid (val a2 Y c2 W+val O N L 0=val C b1 c1 B+top*j):=by unfold Hid;rw[<-U];exact X
  replace f:=f.call R;obtain⟨h7,h6,h4,hg,sf⟩:=f.head.at4;obtain⟨J,F,I,D,rf⟩:=f.tail.tail.tail.tail.head.at4;have z4:=f.head.lt;have z3:=f.tail.tail.tail.tail.head.lt;go_wp2;have l:=(f.tail.tail.tail.tail.head.at4.other4 m3.symm (uZ a2) (uZ Y) (uZ c2) (uZ W)).self4 a2 Y c2 W;unfold set4 at l;refine XR (v:=?v1) ?hr1 rfl ?hR1
  case hr1=>simp[results,Tryz.results178,go_sem,l.c0,l.c1,l.c2,l.c3];rfl
  refine⟨_,rfl,?_,Four.mk H o G E (KW K M.1 M.2 Z T hj (nM H o G E) (nM A i u z))⟩;rw[H0.out];exact aK (aK f.bl Q4) S
end
end Go.Proofs.YtlofhpkoaljmeaaGreat
