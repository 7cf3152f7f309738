import Derived.Sort.Row
import Derived.ProofKit
import Derived.Deep.MidRow
import Derived.Test.YtlofhpkoaljmeaaGreatRows
import Derived.Lib.Mul64
import Derived.StillTailTactics
import Derived.BigQuiet
import Derived.WalkSpells
import Derived.WalkLawsBesides
import Derived.Deep.CutRange
set_option linter.unusedVariables false
set_option linter.defProp false
set_option linter.constructorNameAsVariable false
set_option linter.unusedSimpArgs false
set_option maxRecDepth 1000000
set_option maxHeartbeats 4000000
namespace Go.Proofs.YtlofhpkoaljmeaaGreat
variable {P:Nat}[NeZero P]{N:Nat}
theorem yEX{c:Prop}{h:Decidable c}(hc:c){α:Sort _}{t e:α}:ite c t e=t:=if_pos hc
theorem yEY{c:Prop}{h:Decidable c}(hc:¬c){α:Sort _}{t e:α}:ite c t e=e:=if_neg hc
theorem yEZ:True:=True.intro
open _root_.Array renaming all_eq_true'->ZJ,any_eq_true'->yAv,getD_eq_getD_getElem?->XQ,getElem?_eq_getElem->X8,getElem?_eq_none->Z0,getElem?_eq_some_iff->X5,getElem?_replicate->yBy,getElem?_setIfInBounds->Zx,getElem?_toList->YE,mapM_eq_mapM_toList->yAa,replicate->XT,size_setIfInBounds->YR
open _root_.Bool renaming and_eq_true->XV,or_false->ZG,true_or->yAN
open _root_.Classical renaming byContradiction->Zo
open _root_.Fin renaming ext->yA0,val->yDV,val_mul->yAG
open _root_.Go renaming Calls->YN,Exit->yAM,FuncId->ZQ,Oper->Yp,Operand->yAe,Program->YJ,Tmp->Zw,TypeId->Yd,Value->XB,World->XA,bodyPost_ret->XN,execOp->Yh,run_loadVar_mid->yAx,undef->Zs
open _root_.Go.Code renaming region->Zd
open _root_.Go.Instr renaming alloc->yEp,indexAt->Yv,loadAt->yCe,sliceAt->Zy,storeAt->yBE,sureAddr->yA3
open _root_.Go.IntKind renaming u64->Yt,wrap_u64->ZO
open _root_.Go.Lib renaming half_mul_le->yCA
open _root_.Go.Next renaming value->ZS
open _root_.Go.Oper renaming upon_enter->ZM,wp->Y3
open _root_.Go.Region renaming binds->Zb,ready->Yu,wanted->Zc
open _root_.Go.Result renaming andThen->yCy
open _root_.Go.RowKit renaming Below->yDh
open _root_.Go.RowKit.Below renaming refl->XR
open _root_.Go.Sem renaming run_bind->X1
open _root_.Go.World renaming block_lt_of_cell?->ZY,cell?->YZ,cell?_alloc_new->Yr,cell?_of_block->X4,cell?_setCell_other->Yc,cell?_setCell_same->ZI,frozen?_alloc_new->Zu,frozen?_of_block->Y2,frozen?_setCell->Zq,rangeAt_setCells_apart->Yn,rangeAt_setCells_same->YY,setCells->yBn,size_alloc->XP,there_setCells->Zg
open _root_.Int renaming add_zero->yCx,eq_ofNat_of_zero_le->yC7,natCast_zero->ZF
open _root_.List renaming all_eq_true->Yq,append_nil->yAk,cons_append->ZX,countP_cons->yDQ,ext_getElem?->yA8,find?_some->yAR,getD_eq_getElem?_getD->Z9,getElem?_append_left->XY,getElem?_append_right->XW,getElem?_cons_succ->Yg,getElem?_cons_zero->Yi,getElem?_drop->yB4,getElem?_eq_getElem->XO,getElem?_eq_none->ZK,getElem?_eq_some_iff->XM,getElem?_map->YB,getElem?_of_mem->ZA,getElem?_set->yDG,getElem?_take->Zv,getElem_map->yAc,length_append->XK,length_cons->Yx,length_drop->yCq,length_map->XZ,length_nil->Zz,length_take->Z8,mapM_cons->yBl,mapM_nil->yBw,map_append->Y1,map_cons->Z7,map_inj_left->yCb,mem_append->Y9,mem_cons->Y6,mem_cons_of_mem->Yo,mem_cons_self->YH,mem_map->YC,mem_of_find?_eq_some->ZC,mem_of_getElem?->YO,mem_range->Y4,mem_singleton->Zj,mem_zipIdx_iff_getElem?->yBe,nil_append->Z1,nodup_append->yBC,not_mem_nil->Yf,range->YA,set_cons_succ->XJ,set_cons_zero->XL,size_toArray->YF
open _root_.Nat renaming Coprime->yCw,add_mod->yB2,add_mul->yAs,add_mul_mod_self_left->yBs,add_sub_cancel_left->ZE,add_zero->yAl,ble_eq->yEL,dvd_of_mod_eq_zero->yAt,dvd_trans->yB1,eq_zero_of_dvd_of_lt->yBB,gcd->yDM,gcd_dvd_left->yCs,gcd_dvd_right->yCg,le_of_ble_eq_true->YL,le_of_dvd->yAQ,le_of_lt->yAg,le_refl->XD,le_succ->yB0,le_total->yEr,le_trans->XH,lt_of_lt_of_le->XC,lt_of_succ_le->Z6,lt_or_ge->Zp,mod_add_mod->yD8,mod_eq_of_lt->X6,mod_eq_sub_mod->yDC,mod_eq_zero_of_dvd->yA2,mod_lt->Y8,mod_mod->yEB,mod_mod_of_dvd->yB7,mod_mul_mod->yD7,mul_add->yA1,mul_assoc->yAo,mul_comm->YK,mul_le_mul->ZD,mul_left_comm->yCf,mul_mod->yAW,mul_one->Z5,one_mul->ZV,pow_add->yAP,pow_dvd_pow->yD6,pow_mod->yDl,pow_mul->yCu,pow_one->yBv,pow_succ->Zf,pow_zero->yBd,strongRecOn->yD5,zero_add->XI,zero_le->Zl,zero_mul->yDu,zero_pow->yEq
open _root_.Nat.Coprime renaming mul_dvd_of_dvd_of_dvd->ZH
open _root_.Option renaming isSome_iff_exists->YQ,map_eq_some_iff->XE,some->XX
open _root_.Or renaming inl->Ye,inr->X7
open _root_.Prod renaming mk->Ze
open Go.Proofs.Tryz
open Go.RowKit Go.Sort
abbrev uZ(n:Int):XB:=.int .u64 n
abbrev iZ(n:Int):XB:=.int .i64 n
abbrev aZ(k:Nat):Go.Addr:=⟨k,0,none⟩
abbrev jZ(k:Nat):XB:=.pointer (some ⟨k,0,none⟩)
abbrev sZ(k n c:Nat):XB:=.slice (some ⟨k,0,none⟩) n c
abbrev oZ(k o:Nat):XB:=.pointer (some ⟨k,o,none⟩)
abbrev qZ(k o n c:Nat):XB:=.slice (some ⟨k,o,none⟩) n c
abbrev nZ:XB:=.slice none 0 0
abbrev tZ:XB:=.bool true
abbrev fZ:XB:=.bool false
abbrev lZ(w:XA)(c:List XB)(T:Yd):XA:=w.alloc (.cells c.toArray T)
abbrev gZ(T:Yd)(n:Nat):Prop:=(prog.info? T).map (·.size)=some n
abbrev yZ(T:Yd):Prop:=(prog.underlying T).map (·.isRow)=some true
abbrev wZ(T:Yd):Prop:=(prog.underlying T).map (·.isRow)=some false
abbrev cZ(f:Go.FuncId)(a:Array XB)(w:XA)(Q:Go.Ending->XA->Prop):Prop:=Go.Calls prog f a w Q
theorem gQ{T:Yd}{n:Nat}(h:(prog.info? T).map (·.size)=some n:=by kernel_rfl):gZ T n:=h
theorem yQ{T:Yd}(h:(prog.underlying T).map (·.isRow)=some true:=by kernel_rfl):yZ T:=h
theorem wQ{T:Yd}(h:(prog.underlying T).map (·.isRow)=some false:=by kernel_rfl):wZ T:=h
theorem vH{α:Sort _}(x:α):∃y,x=y:=⟨x,rfl⟩
theorem yH{α:Sort _}(x:α):∃y,Go.RowKit.Hid (x=y):=⟨x,rfl⟩
theorem oN{p q:Prop}(h:q)(k:q->p:=by intro _;omega):p:=k h
def oM{p:Prop}(h:p:=by omega):p:=h
def kR{p:Prop}(h:p:=by kernel_rfl):p:=h
def dC{p:Prop}(h:p:=by decide):p:=h
def dK{p:Prop}(h:p:=by decide +kernel):p:=h
section
def hE{α:Sort _}(x:α):∃y,Hid (x=y):=⟨x,rfl⟩
def mk1{p:Prop}(h:p):Hid p:=h
def mk2{p0 p1:Prop}(b:p0)(k:p1):Hid (p0/\p1):=⟨b,k⟩
def mk3{p0 p1 p2:Prop}(b:p0)(k:p1)(c:p2):Hid (p0/\p1/\p2):=⟨b,k,c⟩
def mk4{p0 p1 p2 k:Prop}(d:p0)(c:p1)(e:p2)(b:k):Hid (p0/\p1/\p2/\k):=⟨d,c,e,b⟩
def mk5{p0 p1 p2 b k:Prop}(f:p0)(e:p1)(g:p2)(d:b)(c:k):Hid (p0/\p1/\p2/\b/\k):=⟨f,e,g,d,c⟩
def mk6{p0 p1 p2 b k c:Prop}(i:p0)(g:p1)(j:p2)(f:b)(e:k)(d:c):Hid (p0/\p1/\p2/\b/\k/\c):=⟨i,g,j,f,e,d⟩
def mk7{p0 p1 p2 b k c p6:Prop}(j:p0)(i:p1)(l:p2)(f:b)(e:k)(d:c)(g:p6):Hid (p0/\p1/\p2/\b/\k/\c/\p6):=⟨j,i,l,f,e,d,g⟩
def mk8{p0 p1 p2 b k c p6 p7:Prop}(l:p0)(i:p1)(m:p2)(g:b)(f:k)(e:c)(j:p6)(d:p7):Hid (p0/\p1/\p2/\b/\k/\c/\p6/\p7):=⟨l,i,m,g,f,e,j,d⟩
section
variable {P:YJ}{ops:Array Yp}{rest:List Yp}{op:Yp}{a:Act}{w w':XA}{Q:yAM->Act->XA->Prop}{T:Yd}{y:yAe}{g o:Nat}{cs:List XB}{v:XB}{ob:Obj}
def stR(t:Zw)(c:Hid (w.setCells g o cs=w'))(hv:Hid (.agg cs.toArray=v))(th:w.there g o cs.toArray.size)(d:(P.info? T).map (·.size)=some cs.toArray.size)(b:cs.toArray.all (·.oneCell')=true)(h:wpList P ops Q rest (a.put op.dst Zs) w')(k:op.guard=none:=by rfl)(ho:op.op=.store T (.tmp t) y:=by rfl)(hx:a.eval (.tmp t)=oZ g o:=by rfl)(e:a.eval y=v:=by rfl):wpList P ops Q (op :: rest) a w:=
 wpList_store_mid k T (.tmp t) y ho g o cs.toArray hx (e.trans hv.symm) th d b (by rw[show cs.toArray.toList=cs from rfl,c.out];exact h)
def ldR(t:Zw)(e:w.rangeAt g o cs)(hv:Hid (.agg cs.toArray=v))(i:(P.underlying T).map (·.isRow)=some true)(f:(P.info? T).map (·.size)=some cs.length)(h:wpList P ops Q rest (a.put op.dst v) w)(k:op.guard=none:=by rfl)(ho:op.op=.load T (.tmp t):=by rfl)(hx:a.eval (.tmp t)=oZ g o:=by rfl):wpList P ops Q (op :: rest) a w:=by
 obtain⟨d,b,c⟩:=XE.1 i;exact wpList_load_mid k T (.tmp t) ho g o hx cs d e b c f (hv.out▸h)
def alR(t:Zw)(c:Hid (w.heap.size=g))(d:Hid (w.alloc ob=w'))(h:wpList P ops Q rest (a.put op.dst (jZ g)) w')(hd:op.dst=some t:=by rfl)(k:op.guard=none:=by rfl)(e:(Yh a.eval op).run P w=.ok (.value (jZ w.heap.size)) (w.alloc ob):=by kernel_rfl):wpList P ops Q (op :: rest) a w:=
 wpList_plain k λK b=>by
  unfold Y3;rw[e,c.out,d.out];exact b _ _ h
end
end
def val(a b c d:Nat):Nat:=a+18446744073709551616*b+340282366920938463463374607431768211456*c+6277101735386680763835789423207666416102355444464034512896*d
def Four(v:XB)(n:Nat):Prop:=∃a b c d:Nat,v=.agg #[uZ a,uZ b,uZ c,uZ d] /\
 a<2^64/\b<2^64/\c<2^64/\d<2^64/\n=val a b c d
def top:Nat:=115792089237316195423570985008687907853269984665640564039457584007913129639936
def nF{a b c d:Nat}(e:a<2^64)(f:b<2^64)(k:c<2^64)(hd:d<2^64):val a b c d<top:=by
 unfold val top;omega
def Four.lt{v:XB}{n:Nat}(h:Four v n):n<top:=by
 obtain⟨a,b,c,d,-,e,f,k,hd,rfl⟩:=h;exact nF e f k hd
def val_inj{a b c d p q r s:Nat}(f:a<2^64)(g:b<2^64)(k:c<2^64)
 (i:p<2^64) (e:q<2^64) (j:r<2^64) (h:val a b c d=val p q r s):a=p/\b=q/\c=r/\d=s:=by
 unfold val at h;omega
def Four.inj{v k:XB}{n:Nat}(h:Four v n)(o:Four k n):v=k:=by
 obtain⟨a,b,c,d,rfl,l,i,j,hd,e⟩:=h;obtain⟨p,q,r,s,rfl,m,f,g,t,e'⟩:=o;obtain⟨rfl,rfl,rfl,rfl⟩:=val_inj l i j m f g (e.symm.trans e');rfl
def Four.num{v:XB}{n m:Nat}(h:Four v n)(k:Four v m):n=m:=by
 obtain⟨a,b,c,d,rfl,o,j,l,hd,rfl⟩:=h;obtain⟨p,q,r,s,e,t,f,i,g,rfl⟩:=k;simp only[Value.agg.injEq,Array.mk.injEq,List.cons.injEq,Value.int.injEq,true_and,and_true,Int.ofNat_inj]at e;obtain⟨rfl,rfl,rfl,rfl⟩:=e;rfl
def Four.mk{a b c d n:Nat}(e:a<2^64)(g:b<2^64)(k:c<2^64)(hd:d<2^64)(f:n=val a b c d):
 Four (.agg #[uZ a,uZ b,uZ c,uZ d]) n:=⟨a,b,c,d,rfl,e,g,k,hd,f⟩
def ret_int{k:IntKind}{a b:Int}(h:a=b):Ending.returned (.int k a)=.returned (.int k b):=by rw[h]
def mixed:prog.follows .mixedOrders=true:=kR
def Hg{x y c:Nat}(hx:x<2^64)(d:y<2^64)(b:c<=1):
 ∃s k:Nat,(∀w,(callFunc 102 #[uZ x,uZ y,uZ c]).run prog w=.ok (.value (.tuple #[uZ s,uZ k])) w) /\
  s<2^64/\k<=1/\s+18446744073709551616*k=x+y+c:=by
 refine⟨(x+y+c)%18446744073709551616,(x+y+c)/18446744073709551616,λw=>?_,oM,oM,oM⟩;rw[run_callFunc_extern func102 kR kR kR (e:=add64Entry) kR,run_add64 x y c oM oM oM oM];simp only[yCy]
 congr 5<;>omega
def FH{x y c:Nat}(hx:x<2^64)(d:y<2^64)(b:c<=1):
 ∃s k:Nat,(∀w,(callFunc 214 #[uZ x,uZ y,uZ c]).run prog w=.ok (.value (.tuple #[uZ s,uZ k])) w) /\
  s<2^64/\k<=1/\s+y+c=x+18446744073709551616*k:=by
 refine⟨(x+18446744073709551616-y-c)%18446744073709551616,if x<y+c then 1 else 0,λw=>?_,oM,by split<;>omega,by split<;>omega⟩;rw[run_callFunc_extern func214 kR kR kR (e:=(Extern.MathBitsCarry.rows[1]).2) kR];have:c=0\/c=1:=oM;rcases this with rfl|rfl<;>rfl
def zW{x y:Nat}(hx:x<2^64)(b:y<2^64):
 ∃s k:Nat,(∀w,(callFunc 102 #[uZ x,uZ y,uZ 0]).run prog w=.ok (.value (.tuple #[uZ s,uZ k])) w) /\
  s<2^64/\k<=1/\s+18446744073709551616*k=x+y:=Hg hx b (Zl 1)
def QM{x y:Nat}(hx:x<2^64)(b:y<2^64):
 ∃s k:Nat,(∀w,(callFunc 214 #[uZ x,uZ y,uZ 0]).run prog w=.ok (.value (.tuple #[uZ s,uZ k])) w) /\
  s<2^64/\k<=1/\s+y=x+18446744073709551616*k:=FH hx b (Zl 1)
def maskN{a:Nat}(k:a<2^64):bits .and .u64 (a:Int) 4294967295=((a%4294967296:Nat):Int):=by
 have h:=bits_and_u64_nat a 4294967295 k oM;rw[show a &&& 4294967295=a%4294967296 from Nat.and_two_pow_sub_one_eq_mod a 32]at h;exact h
def divN(a:Nat):(a:Int)/4294967296=((a/4294967296:Nat):Int):=oM
def mulN(a b:Nat):(a:Int)*(b:Int)=((a*b:Nat):Int):=(Int.natCast_mul a b).symm
def addN(a b:Nat):(a:Int)+(b:Int)=((a+b:Nat):Int):=(Int.natCast_add a b).symm
def wrapN{a:Nat}(k:a<2^64):Yt.wrap (a:Int)=(a:Int):=by rw[ZO];omega
def wrapM(a:Nat):Yt.wrap (a:Int)=((a%18446744073709551616:Nat):Int):=by rw[ZO];omega
def RX(x y:Nat)(hx:x<2^64)(d:y<2^64)(w:XA):
 YN prog 208 #[uZ x,uZ y] w λe w'=>e=.returned (.tuple #[uZ ((x*y/18446744073709551616:Nat):Int),uZ ((x*y%18446744073709551616:Nat):Int)])/\w'=w:=by
 obtain⟨l,f,bw,c⟩:=Lib.mul64_hi x y hx d;have n:=yCA (a:=x/4294967296) (b:=y/4294967296) oM oM;have bb:=yCA (a:=x/4294967296) (b:=y%4294967296) oM oM;have m:=yCA (a:=x%4294967296) (b:=y/4294967296) oM oM;have b1:x/4294967296*(y/4294967296)<2^64:=oM;have i:x/4294967296*(y%4294967296)<2^64:=oM;have g:x%4294967296*(y/4294967296)<2^64:=oM;have k:x/4294967296*(y/4294967296)+(x/4294967296*(y%4294967296)+x%4294967296*(y%4294967296)/4294967296)/4294967296<2^64:=oM;have j:x/4294967296*(y/4294967296)+(x/4294967296*(y%4294967296)+x%4294967296*(y%4294967296)/4294967296)/4294967296+((x/4294967296*(y%4294967296)+x%4294967296*(y%4294967296)/4294967296)%4294967296+x%4294967296*(y/4294967296))/4294967296<2^64:=oM;go_enter func208,ntmps208;go_wp2;simp only[maskN hx,maskN d,divN,mulN,addN,wrapN l,wrapN i,wrapN f,maskN f,wrapN g,wrapN bw,wrapN b1,wrapN k,wrapN j,wrapM (x*y)];rw[c]
 go_ret2
 exact⟨rfl,rfl⟩
def Ko{x y:Nat}(hx:x<2^64)(b:y<2^64):
 ∃h l:Nat,(∀w,YN prog 208 #[uZ x,uZ y] w λe w'=>e=.returned (.tuple #[uZ h,uZ l])/\w'=w) /\
  h<2^64/\l<2^64/\l+18446744073709551616*h=x*y:=by
 have k:x*y<=18446744073709551615*18446744073709551615:=ZD oM oM;exact⟨_,_,λw=>RX x y hx b w,oM,oM,oM⟩
def Uv{x y:Nat}{w:XA}(hx:x<2^64)(g:y<2^64):
 YN prog 208 #[uZ x,uZ y] w λe w'=>w'=w/\∃h l:Nat,e=.returned (.tuple #[uZ h,uZ l]) /\
  h<2^64/\l<2^64/\l+18446744073709551616*h=x*y:=by
 obtain⟨h,l,b,d,f,c⟩:=Ko hx g;exact(b w).mono λe w' k=>⟨k.2,h,l,k.1,d,f,c⟩
def VQ(x y o c:Nat)(hx:x<2^64)(q:y<2^64)(ho:o<2^64)(r:c<2^64):
 ∃h l s1 k s2 b g d:Nat,(∀w,YN prog 208 #[uZ x,uZ y] w λe w'=>e=.returned (.tuple #[uZ h,uZ l])/\w'=w) /\
  (∀w,(callFunc 102 #[uZ l,uZ c,uZ 0]).run prog w=.ok (.value (.tuple #[uZ s1,uZ k])) w) /\
  (∀w,(callFunc 102 #[uZ o,uZ s1,uZ 0]).run prog w=.ok (.value (.tuple #[uZ s2,uZ b])) w) /\
  Yt.wrap ((h:Int)+(k:Int))=(g:Int)/\Yt.wrap ((g:Int)+(b:Int))=(d:Int) /\
  s2<2^64/\d<2^64/\s2+18446744073709551616*d=x*y+o+c:=by
 have m:x*y<=18446744073709551615*18446744073709551615:=ZD oM oM;obtain⟨h,l,p,hh,j,t⟩:=Ko hx q;obtain⟨s1,k,s,f,i,u⟩:=zW j r;obtain⟨s2,b,a2,d,n,e3⟩:=zW ho f;refine⟨h,l,s1,k,s2,b,h+k,h+k+b,p,s,a2,?_,?_,d,oM,oM⟩
 .rw[addN];exact wrapN oM
 .rw[addN];exact wrapN oM
def sH(x y o c:Nat)(hx:x<2^64)(n:y<2^64)(ho:o<2^64)(p:c<2^64)(w:XA):
 YN prog 195 #[uZ x,uZ y,uZ o,uZ c] w λe w'=>w'=w/\∃l h:Nat,e=.returned (.tuple #[uZ l,uZ h]) /\
  h<2^64/\l<2^64/\l+18446744073709551616*h=x*y+o+c:=by
 have j:x*y<=18446744073709551615*18446744073709551615:=ZD oM oM;go_enter func195,ntmps195;go_wp2_with fail
 apply(Uv hx n).mono;rintro e f ⟨rfl,h,l,rfl,hh,i,r⟩;obtain⟨s1,k,u,d,g,t⟩:=zW i ho;obtain⟨s2,b,a2,q,m,e3⟩:=zW d p;have f:Yt.wrap ((h:Int)+(k:Int))=((h+k:Nat):Int):=by rw[addN];exact wrapN oM
 have s:Yt.wrap (((h+k:Nat):Int)+(b:Int))=((h+k+b:Nat):Int):=by rw[addN];exact wrapN oM
 go_wp2
 go_ret2
 refine⟨rfl,s2,h+k+b,?_,oM,oM,oM⟩;rfl
def Ret(Q:XB->XA->Prop)(e:Ending)(w:XA):Prop:=∃v,e=.returned v/\Q v w
abbrev rZ(w:XA)(Q:XB->XA->Prop):Go.Ending->XA->Prop:=Ret λe w'=>yDh w.heap.size w w'/\Q e w'
abbrev kZ(w W:XA):Prop:=yDh w.heap.size w W
def aD{w:XA}(k:Obj):kZ w (w.alloc k):=(XR _ _).alloc (XD _) k
def below2(w:XA)(k b:Obj):kZ w ((w.alloc k).alloc b):=(aD k).alloc (by simp) b
def below3{w:XA}(b c k:Obj):kZ w (((w.alloc b).alloc c).alloc k):=(below2 w b c).alloc (by simp;omega) k
def E9(w:XA)(b d c k:Obj):kZ w ((((w.alloc b).alloc d).alloc c).alloc k):=(below3 b d c).alloc (by simp;omega) k
def rL(x y:XB)(m n:Nat)(hx:Four x m)(H:Four y n)(w:XA):
 cZ 54 #[x,y] w (rZ w λe w'=>∃(v:XB) (s k:Nat),e=.tuple #[v,uZ k]/\Four v s/\k<=1/\s+top*k=m+n):=by
 obtain⟨a,b,c,d,rfl,J,E,I,hd,K⟩:=hx;obtain⟨p,q,r,s,rfl,M,A,hr,B,en⟩:=H;obtain⟨s0,C,a0,t,u,N⟩:=zW J M;obtain⟨s1,F,L,o,f,O⟩:=Hg E A u;obtain⟨s2,G,a2,l,j,P⟩:=Hg I hr f;obtain⟨s3,z,D,i,g,e3⟩:=Hg hd B j;have hv:val s0 s1 s2 s3+top*z=m+n:=by rw[K,en];unfold val top;omega
 go_enter func54,ntmps54;go_wp2_with (first|simp only[a0]|simp only[L]|simp only[a2]|simp only[D])
 refine XN (v:=?v) ?hr rfl ?hR
 case hr=>simp[results,Tryz.results54,go_sem];rfl
 exact⟨_,rfl,below3 _ _ _,_,_,z,rfl,Four.mk t o l i rfl,g,hv⟩
def tO(x y:XB)(m n:Nat)(hx:Four x m)(H:Four y n)(w:XA):
 cZ 202 #[x,y] w (rZ w λe w'=>∃(v:XB) (s k:Nat),e=.tuple #[v,uZ k]/\Four v s/\k<=1/\s+n=m+top*k):=by
 obtain⟨a,b,c,d,rfl,J,E,I,hd,K⟩:=hx;obtain⟨p,q,r,s,rfl,M,A,hr,B,en⟩:=H;obtain⟨s0,C,a0,t,u,N⟩:=QM J M;obtain⟨s1,F,L,o,f,O⟩:=FH E A u;obtain⟨s2,G,a2,l,j,P⟩:=FH I hr f;obtain⟨s3,z,D,i,g,e3⟩:=FH hd B j;have hv:val s0 s1 s2 s3+n=m+top*z:=by rw[K,en];unfold val top;omega
 go_enter func202,ntmps202;go_wp2_with (first|simp only[a0]|simp only[L]|simp only[a2]|simp only[D])
 refine XN (v:=?v) ?hr rfl ?hR
 case hr=>simp[results,Tryz.results202,go_sem];rfl
 exact⟨_,rfl,below3 _ _ _,_,_,z,rfl,Four.mk t o l i rfl,g,hv⟩
def jV{x:XB}{m:Nat}{w:XA}(hx:Four x m):
 cZ 55 #[x] w (rZ w λe w'=>e=x):=by
 obtain⟨a,b,c,d,rfl,k,i,f,hd,g⟩:=hx;go_enter func55,ntmps55;go_wp2;refine XN (v:=?v) ?hr rfl ?hR
 case hr=>simp[results,Tryz.results55,go_sem];rfl
 exact⟨_,rfl,below2 _ _ _,rfl⟩
def jR{x:XB}{m:Nat}{w:XA}(hx:Four x m):
 cZ 99 #[x] w (rZ w λe w'=>e=x):=by
 obtain⟨a,b,c,d,rfl,k,i,f,hd,g⟩:=hx;go_enter func99,ntmps99;go_wp2;refine XN (v:=?v) ?hr rfl ?hR
 case hr=>simp[results,Tryz.results99,go_sem];rfl
 exact⟨_,rfl,below2 _ _ _,rfl⟩
def Gj(x a b c d:Nat):x*val a b c d=val (x*a) (x*b) (x*c) (x*d):=by
 unfold val;rw[yA1,yA1,yA1,yCf x _ b,yCf x _ c,yCf x _ d]
def NH{x a b c d p q r s o j k e g f i l m n:Nat}(t:m=val a b c d)(en:n=val p q r s)
 (u:o+18446744073709551616*g=x*a+p+0) (v:j+18446744073709551616*f=x*b+q+g)
 (w:k+18446744073709551616*i=x*c+r+f) (e3:e+18446744073709551616*l=x*d+s+i) :
 o+18446744073709551616*val j k e l=x*m+n:=by
 rw[t,en,Gj x a b c d];unfold val;omega
def kF(x:Nat)(y z:XB)(m n:Nat)(hx:x<2^64)(M:Four y m)(F:Four z n)(w:XA):
 cZ 154 #[uZ x,y,z] w (rZ w λe w'=>∃(l:Nat) (v:XB) (s:Nat),e=.tuple #[uZ l,v]/\l<2^64/\Four v s/\l+18446744073709551616*s=x*m+n):=by
 obtain⟨a,b,c,d,rfl,O,H,N,hd,P⟩:=M;obtain⟨p,q,r,s,rfl,Q,B,hr,C,en⟩:=F;go_enter func154,ntmps154;go_wp2_with fail
 apply(sH x a p 0 hx O Q dC _).mono;rintro e k ⟨rfl,G,J,rfl,f,o,D⟩;go_wp2_with fail
 apply(sH x b q J hx H B f _).mono;rintro e k ⟨rfl,T,I,rfl,t,g,E⟩;go_wp2_with fail
 apply(sH x c r I hx N hr t _).mono;rintro e k ⟨rfl,R,L,rfl,u,i,K⟩;go_wp2_with fail
 apply(sH x d s L hx hd C u _).mono;rintro e k ⟨rfl,S,U,rfl,j,A,e3⟩;go_wp2;refine XN (v:=?v) ?hr rfl ?hR
 case hr=>simp[results,Tryz.results154,go_sem];rfl
 exact⟨_,rfl,below3 _ _ _,G,_,_,rfl,o,Four.mk g i A j rfl,NH P en D E K e3⟩
namespace RG
inductive SV where
 | v (x:XB)
 | p (b o:Nat)
 | s (b n c:Nat)
 | t (b n c:Nat) (y:XB)
def SV.at(μ:Nat->Nat):SV->XB
 | .v x=>x
 | .p b o=>oZ (μ b) o
 | .s b n c=>sZ (μ b) n c
 | .t b n c y=>.tuple #[sZ (μ b) n c,y]
def SV.blk:SV->Option Nat
 | .v _=>none
 | .p b _=>some b
 | .s b _ _=>some b
 | .t b _ _ _=>some b
def SV.at_congr{μ ν:Nat->Nat}{s:SV}(h:∀b,s.blk=some b->μ b=ν b):s.at μ=s.at ν:=by
 cases s with
 | v x=>rfl
 | p b o=>show oZ (μ b) o=oZ (ν b) o;rw[h b rfl]
 | s b n c=>show sZ (μ b) n c=sZ (ν b) n c;rw[h b rfl]
 | t b n c y=>show Value.tuple #[sZ (μ b) n c,y]=.tuple #[sZ (ν b) n c,y];rw[h b rfl]
inductive Kind where
 | stay
 | pass
 | call
 | make (b:Nat)
 | put (b:Nat)
structure It where
 dst:Option Zw
 need:List (Zw × Nat)
 out:SV
 kind:Kind
structure Bl where
 before:List XB
 after:List XB
 al:Option Nat
 st:Option Nat
def on(L:Array Bool)(i:Nat):Bool:=L.getD i false
def Bl.live(e:Bl)(L:Array Bool):Bool:=(e.al.map (on L)).getD true
def Bl.put(e:Bl)(L:Array Bool):Bool:=(e.st.map (on L)).getD false
def Bl.now(e:Bl)(L:Array Bool):List XB:=if e.put L=true then e.after else e.before
def dX{L:Array Bool}{i j:Nat}(h:i<L.size):on (L.setIfInBounds i true) j=(on L j || i == j):=by
 unfold on;simp only[XQ,Zx];by_cases k:i=j
 .subst k;simp[h]
 .simp[k]
def iM{e:Bl}{L:Array Bool}{i:Nat}(h:i<L.size):e.live (L.setIfInBounds i true)=(e.live L || e.al == some i):=by
 unfold Bl.live;cases d:e.al with
 | none=>rfl
 | some j =>
  show on _ j=(on L j || _);rw[dX h];by_cases k:i=j
  .subst k;simp
  .have b:(i == j)=false:=by simpa using k
   have c:(some j == some i)=false:=by simpa using λh=>k h.symm
   rw[b,c]
def kJ{e:Bl}{L:Array Bool}{i:Nat}(h:i<L.size):e.put (L.setIfInBounds i true)=(e.put L || e.st == some i):=by
 unfold Bl.put;cases d:e.st with
 | none=>rfl
 | some j =>
  show on _ j=(on L j || _);rw[dX h];by_cases k:i=j
  .subst k;simp
  .have b:(i == j)=false:=by simpa using k
   have c:(some j == some i)=false:=by simpa using λh=>k h.symm
   rw[b,c]
def range_below{B k o:Nat}{w w':XA}{cs:List XB}(h:w.rangeAt k o cs)(c:Below B w w')(b:k<B):w'.rangeAt k o cs:=λj v hv=>by
 rw[c.cell (p:=⟨k,o+j,none⟩) b];exact h j v hv
def eC{B k o n:Nat}{w w':XA}(h:w.there k o n)(c:Below B w w')(b:k<B):w'.there k o n:=λj d=>by
 rw[c.cell (p:=⟨k,o+j,none⟩) b,c.frozen (p:=⟨k,o+j,none⟩) b];exact h j d
def below_setCells{B k:Nat}{c:XA}(b:B<=k):∀(vs:List XB) (o:Nat) (w:XA),Below B c w->Below B c (w.setCells k o vs)
 | [],_,_,h=>h
 | v :: r,o,w,h=>below_setCells b r (o+1) _ (h.setCell (p:=⟨k,o,none⟩) b v)
def setCells_size(k:Nat):∀(vs:List XB) (o:Nat) (w:XA),(w.setCells k o vs).heap.size=w.heap.size
 | [],_,_=>rfl
 | v :: r,o,w=>by
  rw[yBn,setCells_size k r (o+1)];simp[World.setCell]
def there_setCells{k b o n:Nat}:∀(vs:List XB) (i:Nat) (w:XA),w.there b o n->(w.setCells k i vs).there b o n
 | [],_,_,h=>h
 | v :: r,i,w,h=>there_setCells r (i+1) _ λj c=>⟨World.isSome_setCells k [v] i w _ (h j c).1,by rw[Zq];exact(h j c).2⟩
structure BelX(k0:Nat)(X:List Nat)(w w':XA):Prop where
 os:w'.os=w.os
 tape:w'.tape=w.tape
 output:w'.output=w.output
 size:w.heap.size<=w'.heap.size
 block:∀j,j<k0->j ∉ X->w'.heap[j]? = w.heap[j]?
def BelX.below{k:Nat}{w w':XA}(h:BelX k [] w w'):Below k w w':=⟨h.os,h.tape,h.output,h.size,λj b=>h.block j b Yf⟩
def BelX.drew{k:Nat}{X:List Nat}{w w':XA}(h:BelX k X w w'):BelX k X w w'.drew:=⟨h.os,h.tape,h.output,h.size,h.block⟩
def BelX.refl(k:Nat)(X:List Nat)(w:XA):BelX k X w w:=⟨rfl,rfl,rfl,XD _,λ_ _ _=>rfl⟩
def BelX.trans{d:Nat}{X:List Nat}{a b c:XA}(h:BelX d X a b)(k:BelX d X b c):BelX d X a c:=
 ⟨k.os.trans h.os,k.tape.trans h.tape,k.output.trans h.output,XH h.size k.size,λi e hx=>(k.block i e hx).trans (h.block i e hx)⟩
structure Wd(w0:XA)(k0:Nat)(X:List Nat)(bl:List Bl)(L:Array Bool)(μ:Nat->Nat)(w:XA):Prop where
 bel:BelX k0 X w0 w
 le:k0<=w.heap.size
 has:∀(b:Nat) (e:Bl),bl[b]? = some e->e.live L=true->w.rangeAt (μ b) 0 (e.now L)/\w.there (μ b) 0 e.before.length/\μ b<w.heap.size/\(k0<=μ b\/μ b∈X)
 inj:∀(b c:Nat) (e f:Bl),bl[b]? = some e->bl[c]? = some f->e.live L=true->f.live L=true->b≠c->μ b≠μ c
variable {w0 w w':XA}{k0:Nat}{X:List Nat}{bl:List Bl}{L:Array Bool}{μ:Nat->Nat}
def Wd.same{g:Array Bool}(h:Wd w0 k0 X bl L μ w)(d:∀(b:Nat) (e:Bl),bl[b]? = some e->e.live g=e.live L/\e.put g=e.put L):Wd w0 k0 X bl g μ w:=by
 refine⟨h.bel,h.le,λb e k hv=>?_,λb c e f k i j hf=>h.inj b c e f k i ((d b e k).1 ▸ j) ((d c f i).1 ▸ hf)⟩;have:=h.has b e k ((d b e k).1 ▸ hv);unfold Bl.now at this⊢;rw[(d b e k).2];exact this
def Wd.call(h:Wd w0 k0 X bl L μ w)(c:kZ w w'):Wd w0 k0 X bl L μ w':=by
 refine⟨h.bel.trans ⟨c.os,c.tape,c.output,c.size,λk i _=>c.block k (XC i h.le)⟩,XH h.le c.size,λb e d hv=>?_,h.inj⟩;obtain⟨j,l,f,g⟩:=h.has b e d hv;exact⟨range_below j c f,eC l c f,XC f c.size,g⟩
def upd(μ:Nat->Nat)(b k:Nat):Nat->Nat:=λc=>if c=b then k else μ c
structure Made(w:XA)(k:Nat)(c:List XB)(w':XA):Prop where
 bel:kZ w w'
 le:w.heap.size<=k
 lt:k<w'.heap.size
 range:w'.rangeAt k 0 c
 there:w'.there k 0 c.length
def Made.alloc(w:XA)(c:List XB)(t:Yd):Made w w.heap.size c (w.alloc (.cells c.toArray t)):=by
 refine⟨aD _,XD _,by rw[XP];omega,λj v k=>?_,λj k=>⟨?_,Zu _ _ _ _⟩⟩
 .rw[XI,Yr];simpa using k
 .rw[XI,Yr];simp[k]
def Wd.make{i b k:Nat}{e:Bl}(h:Wd w0 k0 X bl L μ w)(x:i<L.size)(y:bl[b]? = some e)(D:e.al=some i)(u:∀(c:Nat) (f:Bl),bl[c]? = some f->c≠b->f.al≠some i)
 (j:∀(c:Nat) (f:Bl),bl[c]? = some f->f.st≠some i) (r:e.put L=false) (t:Made w k e.before w') :
 Wd w0 k0 X bl (L.setIfInBounds i true) (upd μ b k) w':=by
 have o:∀(c:Nat) (f:Bl),bl[c]? = some f->f.put (L.setIfInBounds i true)=f.put L:=λc f m=>by
  rw[kJ x,show(f.st == some i)=false by simpa using j c f m,ZG]
 have n:∀(c:Nat) (f:Bl),bl[c]? = some f->c≠b->f.live (L.setIfInBounds i true)=f.live L:=λc f m j=>by
  rw[iM x,show(f.al == some i)=false by simpa using u c f m j,ZG]
 have p:∀(c:Nat) (f:Bl),bl[c]? = some f->c≠b->f.live (L.setIfInBounds i true)=true->μ c<w.heap.size:=λc f m j hv=>(h.has c f m (n c f m j ▸ hv)).2.2.1
 have l:=t.bel;have q:=t.le;refine⟨h.bel.trans ⟨l.os,l.tape,l.output,l.size,λk A _=>l.block k (XC A h.le)⟩,XH h.le l.size,λc f m hv=>?_,λc d f g m hd hf z s=>?_⟩
 .by_cases j:c=b
  .subst j;rw[y]at m;obtain rfl:e=f:=XX.inj m;have v:e.now (L.setIfInBounds i true)=e.before:=by unfold Bl.now;rw[o c e y,r];rfl
   rw[v];unfold upd;rw[yEX rfl];exact⟨t.range,t.there,t.lt,Ye (XH h.le q)⟩
  .obtain⟨B,C,r,a⟩:=h.has c f m (n c f m j ▸ hv);unfold upd;rw[yEY j];have v:f.now (L.setIfInBounds i true)=f.now L:=by unfold Bl.now;rw[o c f m]
   rw[v];exact⟨range_below B l r,eC C l r,XC r l.size,a⟩
 .unfold upd;by_cases j:c=b
  .subst j;rw[yEX rfl,yEY (λh=>s h.symm)];exact Nat.ne_of_gt (XC (p d g hd (λh=>s h.symm) z) q)
  .by_cases r:d=b
   .subst r;rw[yEX rfl,yEY j];exact Nat.ne_of_lt (XC (p c f m j hf) q)
   .rw[yEY j,yEY r];exact h.inj c d f g m hd (n c f m j ▸ hf) (n d g hd r ▸ z) s
structure PutTo(k n:Nat)(cs:List XB)(w w':XA):Prop where
 os:w'.os=w.os
 tape:w'.tape=w.tape
 output:w'.output=w.output
 size:w.heap.size<=w'.heap.size
 block:∀j,j<w.heap.size->j≠k->w'.heap[j]? = w.heap[j]?
 range:w'.rangeAt k 0 cs
 there:w'.there k 0 n
def aE{k:Nat}:∀(vs:List XB) (o:Nat) (w:XA) (j:Nat),j≠k->(w.setCells k o vs).heap[j]? = w.heap[j]?
 | [],_,_,_,_=>rfl
 | v :: r,o,w,j,h=>by
  rw[yBn,aE (k:=k) r (o+1) _ j h,Below.heap_setCell _ _ _ _ h]
def nO(k:Nat):∀(vs:List XB) (o:Nat) (w:XA),(w.setCells k o vs).os=w.os/\(w.setCells k o vs).tape=w.tape/\(w.setCells k o vs).output=w.output
 | [],_,_=>⟨rfl,rfl,rfl⟩
 | v :: r,o,w=>by rw[yBn];exact nO k r (o+1) _
def PutTo.store{k n o:Nat}{b c vs:List XB}(f:w.there k 0 n)(m:w.rangeAt k 0 b)(x:o+vs.length<=n)(s:∀j,c[j]? = if o<=j/\j<o+vs.length then vs[j-o]? else b[j]?):PutTo k n c w (w.setCells k o vs):=by
 obtain⟨p,q,t⟩:=nO k vs o w;refine⟨p,q,t,by rw[setCells_size];exact XD _,λj _ d=>aE vs o w j d,λj v hv=>?_,there_setCells _ _ _ f⟩;have e:w.there k o vs.length:=λj d=>by have:=f (o+j) oM;rwa[XI]at this
 rw[s j]at hv;rw[XI];by_cases d:o<=j/\j<o+vs.length
 .rw[yEX d]at hv;have:=YY w k o vs e (j-o) v hv;rwa[show o+(j-o)=j by omega]at this
 .rw[yEY d]at hv;have r:w.rangeAt k j [v]:=λi u g=>by
   cases i with
   | zero =>
    obtain rfl:v=u:=by simpa using g
    have:=m j v hv;rwa[XI]at this
   | succ i=>simp at g
  have l:=Yn r k o vs (X7 (by simp only[Yx,Zz];omega));have:=l 0 v rfl;exact this
def PutTo.whole{k:Nat}{b c:List XB}(e:w.there k 0 b.length)(f:w.rangeAt k 0 b)(g:c.length=b.length):PutTo k b.length c w (w.setCells k 0 c):=
 PutTo.store e f oM (λj=>by
  by_cases d:0<=j/\j<0+c.length
  .rw[yEX d];rfl
  .rw[yEY d,ZK oM,ZK oM])
def Wd.put{i b:Nat}{e:Bl}(h:Wd w0 k0 X bl L μ w)(r:i<L.size)(s:bl[b]? = some e)(z:e.st=some i)(hv:e.live L=true)(n:PutTo (μ b) e.before.length e.after w w')
 (t:∀(c:Nat) (f:Bl),bl[c]? = some f->c≠b->f.st≠some i) (k:∀(c:Nat) (f:Bl),bl[c]? = some f->f.al≠some i) :
 Wd w0 k0 X bl (L.setIfInBounds i true) μ w':=by
 have l:∀(c:Nat) (f:Bl),bl[c]? = some f->f.live (L.setIfInBounds i true)=f.live L:=λc f m=>by
  rw[iM r,show(f.al == some i)=false by simpa using k c f m,ZG]
 obtain⟨H,F,G,A⟩:=h.has b e s hv;have D:=h.le;refine⟨h.bel.trans ⟨n.os,n.tape,n.output,n.size,λj q hx=>n.block j oM (λe=>A.elim (λh=>oM) (λh=>hx (e ▸ h)))⟩,XH h.le n.size,λc f m o=>?_,λc d f g m hd hf B=>h.inj c d f g m hd (l c f m ▸ hf) (l d g hd ▸ B)⟩;rw[l c f m]at o;obtain⟨C,E,u,y⟩:=h.has c f m o;by_cases p:c=b
 .subst p;rw[s]at m;obtain rfl:e=f:=XX.inj m;have x:e.now (L.setIfInBounds i true)=e.after:=by
   unfold Bl.now;rw[kJ r,z];simp
  rw[x];exact⟨n.range,n.there,XC u n.size,y⟩
 .have x:f.now (L.setIfInBounds i true)=f.now L:=by
   unfold Bl.now;rw[kJ r,show(f.st == some i)=false by simpa using t c f m p,ZG]
  rw[x];have k:=n.block (μ c) u (h.inj c b f e m s o hv p);refine⟨λj v q=>?_,λj q=>?_,XC u n.size,y⟩
  .rw[X4 (w:=w) (a:=⟨μ c,0+j,none⟩) k];exact C j v q
  .rw[X4 (w:=w) (a:=⟨μ c,0+j,none⟩) k,Y2 (w:=w) (a:=⟨μ c,0+j,none⟩) k];exact E j q
end RG
section
def Row(W:XA)(k:Nat)(vs:List XB):Prop:=k<W.heap.size/\W.rangeAt k 0 vs/\W.there k 0 vs.length
def Row.below{W W':XA}{k:Nat}{vs:List XB}(h:Row W k vs)(d:kZ W W'):Row W' k vs:=by
 have e:=d.block k h.1;refine⟨XC h.1 d.size,λj v b=>?_,λj b=>?_⟩
 .exact(X4 e).trans (h.2.1 j v b)
 .have c:=h.2.2 j b;exact⟨by rw[X4 e];exact c.1,(Y2 e).trans c.2⟩
def aF{T:Yd}{P:YJ}{c:Func}{tmps:Array XB}{W:XA}{k:Nat}{vs:List XB}(t:Zw)(i:c.results=#[.cell t T])(h:Row W k vs)(g:tmps[t]? = some (jZ k))(b:(P.underlying T).map (·.isRow)=some true)(j:(P.info? T).map (·.size)=some vs.length):(results c tmps).run P W=.ok (.agg vs.toArray) W:=by
 obtain⟨d,b,hd⟩:=XE.1 b;have e:=yAx (P:=P) W k 0 T vs d h.2.1 b hd j;have f:tmps.getD t Zs=jZ k:=by rw[XQ,g];rfl
 unfold results;rw[i];simp only[yAa,yBl,yBw,f,asAddr];simp[X1,e]
def Row.put{W:XA}{k:Nat}{vs us:List XB}(h:Row W k vs)(b:us.length=vs.length):Row (W.setCells k 0 us) k us:=
 ⟨by rw[RG.setCells_size];exact h.1,YY W k 0 us (by rw[b];exact h.2.2),by rw[b];exact Zg h.2.2 _ _ _⟩
def Row.other{W:XA}{k j:Nat}{vs us:List XB}(h:Row W k vs)(b:k≠j):Row (W.setCells j 0 us) k vs:=
 ⟨by rw[RG.setCells_size];exact h.1,Yn h.2.1 j 0 us (Ye b),Zg h.2.2 _ _ _⟩
def row_new(w:XA)(c:List XB)(T:Yd):Row (w.alloc (.cells c.toArray T)) w.heap.size c:=
 have h:=RG.Made.alloc w c T
 ⟨h.lt,h.range,h.there⟩
def aQ{W W':XA}{k:Nat}{vs:List XB}(h:Row W k vs)(c:W.heap.size<=W'.heap.size)(e:W'.heap[k]? = W.heap[k]?):Row W' k vs:=
 ⟨XC h.1 c,λj v b=>by rw[X4 (a:=⟨k,0+j,none⟩) e];exact h.2.1 j v b,λj b=>by rw[X4 (a:=⟨k,0+j,none⟩) e,Y2 (a:=⟨k,0+j,none⟩) e];exact h.2.2 j b⟩
def aK{w k:XA}{g:Nat}{z:List XB}{T:Yd}(b:Hid (w.heap.size=g))(c:Hid (w.alloc (.cells z.toArray T)=k)):Hid (kZ w k/\Row k g z):=by
 rw[<-c.out,<-b.out];exact⟨aD _,row_new w _ _⟩
section
variable {Q Q':Nat->Prop}{W W':XA}
structure Kq(Q:Nat->Prop)(W W':XA):Prop where
 size:W.heap.size<=W'.heap.size
 block:∀g,Q g->g<W.heap.size->W'.heap[g]? = W.heap[g]?
def Kq.of_below(k:kZ W W'):Kq Q W W':=⟨k.size,λg _ h=>k.block g h⟩
end
structure Pq where
 p:(Nat->Prop)->XA->Prop
 kp:∀Q W W',Kq Q W W'->p Q W->p Q W'
 mo:∀Q Q' W,(∀g,g<W.heap.size->Q g->Q' g)->p Q W->p Q' W
def Nk(rs:List (Nat × List XB))(g:Nat):Prop:=g ∉ rs.map (·.1)
structure Mp(w W:XA)(rs:List (Nat × List XB))(S:List Pq):Prop where
 bl:kZ w W
 rw:∀x∈rs,w.heap.size<=x.1/\Row W x.1 x.2
 nd:(rs.map (·.1)).Nodup
 ob:∀s∈S,s.p (Nk rs) W
namespace Mp
variable {w W W':XA}{rs rs':List (Nat × List XB)}{S S':List Pq}{k r i:Nat}{c c':List XB}
def start(w:XA):Mp w w [] []:=⟨XR _ _,λ_ h=>(Yf h).elim,List.nodup_nil,λ_ h=>(Yf h).elim⟩
def grow(h:Mp w W rs S)(k:kZ W W'):Mp w W' rs S:=⟨h.bl.trans (k.mono h.bl.size),λx hx=>⟨(h.rw x hx).1,(h.rw x hx).2.below k⟩,h.nd,λs b=>s.kp _ _ _ (Kq.of_below k) (h.ob s b)⟩
def drew(h:Mp w W rs S):Mp w W.drew rs S:=h.grow ⟨rfl,rfl,rfl,XD _,λ_ _=>rfl⟩
def lt(h:Mp w W rs S){g:Nat}(k:g∈rs.map (·.1)):w.heap.size<=g/\g<W.heap.size:=by
 obtain⟨x,hx,rfl⟩:=YC.1 k;exact⟨(h.rw x hx).1,(h.rw x hx).2.1⟩
def nk(h:Mp w W rs S)(g:Nat)(k:W.heap.size<=g):Nk rs g:=λe=>oN ((h.lt e).2)
def at_(h:Mp w W rs S)(i:Nat)(b:rs[i]? = some (k,c):=by rfl):Row W k c:=(h.rw _ (YO b)).2
def key(b:rs[i]? = some (k,c)):k∈rs.map (·.1):=YC.2 ⟨_,YO b,rfl⟩
def get(h:Mp w W rs S)(j:Nat){s:Pq}(k:S[j]? = some s:=by rfl):s.p (Nk rs) W:=h.ob _ (YO k)
def has(h:Mp w W rs S)(s:Pq)(k:s.p (Nk rs) W)(e:S++[s]=S':=by(simp only[ZX,Z1])<;>rfl):Mp w W rs S':=e ▸ ⟨h.bl,h.rw,h.nd,λx hx=>by
 rcases Y9.1 hx with hx|hx
 .exact h.ob x hx
 .rw[Zj.1 hx];exact k⟩
def gets(h:Mp w W rs S)(c:kZ W W')(s:Pq)(k:s.p (W.heap.size<=·) W')(e:S++[s]=S':=by(simp only[ZX,Z1])<;>rfl):Mp w W' rs S':=(h.grow c).has s (s.mo _ _ _ (λg _ b=>h.nk g b) k) e
def q(_:Mp w W rs S):∃Q,Hid (Nk rs=Q):=⟨_,rfl⟩
def vU{Q:Nat->Prop}(h:Mp w W rs S)(b:Hid (Nk rs=Q))(j:Nat){s:Pq}(k:S[j]? = some s:=by rfl):s.p Q W:=b.out▸h.get j k
def nkq{Q:Nat->Prop}(h:Mp w W rs S)(b:Hid (Nk rs=Q))(g:Nat)(k:W.heap.size<=g):Q g:=b.out▸h.nk g k
def Oz{Q:Nat->Prop}(h:Mp w W rs S)(b:Hid (Nk rs=Q))(s:Pq)(k:s.p Q W)(e:S++[s]=S':=by(simp only[ZX,Z1])<;>rfl):Mp w W rs S':=h.has s (b.out▸k) e
def ne{Q:Nat->Prop}(_:Mp w W rs S)(d:Hid (Nk rs=Q))(i:Nat)(f:rs[i]? = some (k,c):=by rfl)(g:Nat)(b:Q g):g≠k:=λe=>by
 rw[<-d.out]at b;exact b (by rw[e];exact YC.2 ⟨_,YO f,rfl⟩)
def add(h:Mp w W rs S)(f:kZ W W')(n:Row W' k c)(m:W.heap.size<=k)(e:rs++[(k,c)]=rs':=by(simp only[ZX,Z1])<;>rfl):Mp w W' rs' S:=by
 subst e;have i:=h.grow f;refine⟨i.bl,λx hx=>?_,?_,λs j=>?_⟩
 .rcases Y9.1 hx with hx|hx
  .exact i.rw x hx
  .rw[Zj.1 hx];exact⟨XH h.bl.size m,n⟩
 .rw[Y1,yBC];refine⟨h.nd,by simp,λa l b d e=>?_⟩;have o:=(h.lt l).2;simp at d;omega
 .refine s.kp _ _ _ (Kq.of_below f) (s.mo _ _ _ (λg l d e=>?_) (h.ob s j));rw[Y1,Y9]at e;rcases e with e|e
  .exact d e
  .simp at e;omega
def adds(h:Mp w W rs S)(f:kZ W W')(ns:List (Nat × List XB))(c:(ns.map (·.1)).Nodup)(k:∀x∈ns,W.heap.size<=x.1/\Row W' x.1 x.2)(e:rs++ns=rs':=by(simp only[ZX,Z1])<;>rfl):Mp w W' rs' S:=by
 subst e;have l:=h.grow f;have j:∀g,g∈ns.map (·.1)->W.heap.size<=g:=λg i=>by
  obtain⟨x,hx,rfl⟩:=YC.1 i;exact(k x hx).1
 refine⟨l.bl,λx hx=>?_,?_,λs m=>?_⟩
 .rcases Y9.1 hx with hx|hx
  .exact l.rw x hx
  .exact⟨XH h.bl.size (k x hx).1,(k x hx).2⟩
 .rw[Y1,yBC];refine⟨h.nd,c,λa n b d e=>?_⟩;have o:=(h.lt n).2;have p:=j b d;omega
 .refine s.kp _ _ _ (Kq.of_below f) (s.mo _ _ _ (λg i c e=>?_) (h.ob s m));rw[Y1,Y9]at e;rcases e with e|e
  .exact c e
  .have:=j g e;omega
def new{T:Yd}(h:Mp w W rs S)(b:Hid (W.heap.size=k))(d:Hid (W.alloc (.cells c.toArray T)=W'))(e:rs++[(k,c)]=rs':=by(simp only[ZX,Z1])<;>rfl):Mp w W' rs' S:=by
 have f:=aK b d;exact h.add f.1 f.2 (Nat.le_of_eq b) e
def keys(b:rs[i]? = some (k,c)):(rs.set i (k,c')).map (·.1)=rs.map (·.1):=by
 rw[List.map_set];refine yA8 λj=>?_
 rw[yDG];have d:=(XM.1 b).1;split
 .rename_i e
  subst e;rw[yEX (by simpa using d),YB,b];rfl
 .rfl
def Ur(b:rs[i]? = some (k,c)):Nk (rs.set i (k,c'))=Nk rs:=funext λg=>by unfold Nk;rw[keys b]
def turn(h:Mp w W rs S)(b:rs[i]? = some (k,c))(z:kZ w W')(r:W.heap.size<=W'.heap.size)(ho:∀g,g≠k->g<W.heap.size->W'.heap[g]? = W.heap[g]?)(y:Row W' k c'):Mp w W' (rs.set i (k,c')) S:=by
 refine⟨z,λx hx=>?_,by rw[keys b];exact h.nd,λs l=>?_⟩
 .have B:=hx;obtain⟨j,q,e⟩:=List.mem_iff_getElem.1 hx;rw[List.length_set]at q;rw[List.getElem_set]at e;by_cases d:i=j
  .rw[yEX d]at e;rw[<-e];exact⟨(h.lt (key b)).1,y⟩
  .rw[yEY d]at e;have a:=List.getElem_mem q;have hh:=h.rw _ a;rw[<-e];have p:rs[j].1≠k:=λe'=>by
    have f:=(XM.1 b)
    obtain⟨m,n⟩:=f;have v:=List.pairwise_iff_getElem.1 h.nd;have t:(rs.map (·.1))[i]'(by simpa using m)=k:=by rw[yAc,n]
    have u:(rs.map (·.1))[j]'(by simpa using q)=k:=by rw[yAc];exact e'
    rcases Zp i j with o|A
    .exact v i j _ _ o (t.trans u.symm)
    .exact v j i _ _ oM (u.trans t.symm)
   exact⟨hh.1,aQ hh.2 r (ho _ p hh.2.1)⟩
 .rw[Ur b];exact s.kp _ _ _ ⟨r,λg d f=>ho g (λe=>d (by rw[e];exact key b)) f⟩ (h.ob s l)
def upd{o:Nat}{us:List XB}(h:Mp w W rs S)(i:Nat)(b:Hid (W.setCells k o us=W'))(d:Row (W.setCells k o us) k c')(f:rs[i]? = some (k,c):=by rfl)(e:rs.set i (k,c')=rs':=by(simp only[XJ,XL])<;>rfl):Mp w W' rs' S:=by
 subst e;rw[b.out]at d;refine h.turn f ?_ ?_ (λg j _=>?_) d
 .rw[<-b.out];exact RG.below_setCells (h.lt (key f)).1 _ _ _ h.bl
 .rw[<-b.out,RG.setCells_size];exact XD _
 .rw[<-b.out];exact RG.aE us o W g j
def put(h:Mp w W rs S)(i:Nat)(f:Hid (W.setCells k 0 c'=W'))(b:rs[i]? = some (k,c):=by rfl)(d:c'.length=c.length:=by rfl)(e:rs.set i (k,c')=rs':=by(simp only[XJ,XL])<;>rfl):Mp w W' rs' S:=h.upd i f ((h.at_ i b).put d) b e
def th(h:Mp w W rs S)(i:Nat)(b:rs[i]? = some (k,c):=by rfl)(d:c'.length=c.length:=by rfl):W.there k 0 c'.length:=by rw[d];exact(h.at_ i b).2.2
end Mp
def Mp.pop{w W:XA}{rs:List (Nat × List XB)}{x:Nat × List XB}(h:Mp w W (rs++[x]) []):Mp w W rs []:=⟨h.bl,λy k=>h.rw y (List.mem_append_left _ k),(by have:=h.nd;rw[Y1]at this;exact(yBC.1 this).1),λ_ h=>(Yf h).elim⟩
def wn(n:Nat):List XB:=[uZ ((n%18446744073709551616:Nat):Int),uZ ((n/18446744073709551616%18446744073709551616:Nat):Int),uZ ((n/340282366920938463463374607431768211456%18446744073709551616:Nat):Int),uZ ((n/6277101735386680763835789423207666416102355444464034512896%18446744073709551616:Nat):Int)]
def nv(n:Nat):XB:=.agg (wn n).toArray
def iI{n:Nat}(h:n<top):Four (nv n) n:=by
 refine⟨n%18446744073709551616,n/18446744073709551616%18446744073709551616,n/340282366920938463463374607431768211456%18446744073709551616,n/6277101735386680763835789423207666416102355444464034512896%18446744073709551616,rfl,?_,?_,?_,?_,?_⟩
 .omega
 .omega
 .omega
 .omega
 .unfold val;unfold top at h;omega
def Four.nv{v:XB}{n:Nat}(h:Four v n):v=Go.Proofs.YtlofhpkoaljmeaaGreat.nv n:=h.inj (iI h.lt)
def aI{n:Nat}:(wn n).toArray.all (·.oneCell')=true:=kR
def hG{α:Sort _}{p:Prop}(x:α)(h:∀y,Hid (x=y)->p):p:=h x rfl
end
namespace RG
variable {P:YJ}{ops:Array Yp}{Q:yAM->Act->XA->Prop}{w0 w:XA}{k0:Nat}{X:List Nat}{its:List It}{bl:List Bl}{olds:List (Zw × SV)}{a0:Act}{L:Array Bool}{μ μ' μ0:Nat->Nat}
structure Ac(its:List It)(bl:List Bl)(a0:Act)(L:Array Bool)(μ:Nat->Nat)(a:Act):Prop where
 defers:a.defers=a0.defers
 size:a.tmps.size=a0.tmps.size
 got:∀(i:Nat) (it:It) (d:Zw),its[i]? = some it->on L i=true->it.dst=some d->a.tmps[d]? = some (it.out.at μ)/\∀b,it.out.blk=some b->∃e:Bl,bl[b]? = some e/\e.live L=true
 rest:∀t:Zw,(∀(i:Nat) (it:It),its[i]? = some it->on L i=true->it.dst≠some t)->a.tmps[t]? = a0.tmps[t]?
def cO(o:Yp)(j:Nat):Bool:=o.after.any (λe=>Zb .any e && e.on == j)
def GG(k:Array Yp)(b:List It)(i:Nat)(t:Zw):Bool:=b.zipIdx.all (λx=>x.1.dst != some t || (match k[x.2]? with|some o=>cO o i|none=>false))
def Known(c:Array Yp)(i:Nat)(b:List It)(olds:List (Zw × SV))(k:List (Zw × Nat))(μ:Nat->Nat)(a:Act):Prop:=
 (∀(t:Zw) (j:Nat) (it:It),(t,j)∈k->b[j]? = some it->a.eval (.tmp t)=it.out.at μ)/\(∀(t:Zw) (s:SV),(t,s)∈olds->GG c b i t=true->a.eval (.tmp t)=s.at μ)
def readB(k:Array Yp)(i:Nat)(e:Bl):Bool:=match e.st with|none=>true|some s=>match k[s]? with|some o=>cO o i|none=>false
def Reads(k:Array Yp)(i:Nat)(c:List Bl)(μ:Nat->Nat)(w:XA):Prop:=∀(b:Nat) (e:Bl),c[b]? = some e->(e.al=none\/∃(o:Yp) (j:Nat),k[i]? = some o/\e.al=some j/\cO o j=true)->readB k i e=true->w.rangeAt (μ b) 0 e.before
def Does(P:YJ)(Q:yAM->Act->XA->Prop)(c:List Bl)(o:Yp)(it:It)(μ:Nat->Nat)(a:Act)(w:XA)(K:Act->XA->Prop):Kind->Prop
 | .stay=>K (a.put o.dst (it.out.at μ)) w->o.wp P a w K Q
 | .pass=>it.out=.v Zs
 | .call=>(∀w',kZ w w'->K (a.put o.dst (it.out.at μ)) w')->o.wp P a w K Q
 | .make b=>∀e:Bl,c[b]? = some e->(∀(k:Nat) (w':XA),Made w k e.before w'->K (a.put o.dst (it.out.at (upd μ b k))) w')->o.wp P a w K Q
 | .put b=>∀e:Bl,c[b]? = some e->w.there (μ b) 0 e.before.length->w.rangeAt (μ b) 0 e.before->(∀w',PutTo (μ b) e.before.length e.after w w'->K (a.put o.dst (it.out.at μ)) w')->o.wp P a w K Q
def Cert(P:YJ)(Q:yAM->Act->XA->Prop)(d:XA)(e:Nat)(X:List Nat)(k:Array Yp)(i:Nat)(b:List It)(c:List Bl)(olds:List (Zw × SV))(o:Yp)(it:It):Prop:=
 ∀(μ:Nat->Nat) (a:Act) (w:XA) (K:Act->XA->Prop),Known k i b olds it.need μ a->Reads k i c μ w->BelX e X d w->Does P Q c o it μ a w K it.kind
def Kx(k:List It)(c:List Bl)(o:Yp)(it:It)(b:Nat):Bool:=
 (match c[b]? with|some e=>(match e.al with|none=>true|some j=>cO o j)|none=>false) || it.need.any (λx=>cO o x.2 && (match k[x.2]? with|some jt=>jt.dst.isSome && jt.out.blk == some b|none=>false))
def AM(d:List It)(k:List Bl)(i:Nat)(o:Yp)(it:It):Kind->Bool
 | .stay | .pass | .call=>k.all (λe=>e.al != some i && e.st != some i) && (match it.out.blk with|none=>true|some b=>Kx d k o it b)
 | .make b=>(match it.out.blk with|some c=>c == b|none=>false) && k.zipIdx.all (λx=>x.1.st != some i && (x.1.al == some i) == (x.2 == b)) && (k[b]?).isSome
 | .put b=>(match it.out with | .v _=>true|_=>false) && k.zipIdx.all (λx=>x.1.al != some i && (x.1.st == some i) == (x.2 == b)) && (match k[b]? with|some e=>(match e.al with|none=>true|some j=>cO o j)|none=>false)
def Kind.isPass:Kind->Bool
 | .pass=>true
 | _=>false
def Li(k:List It)(o:Yp)(it:It):Bool:=
 match o.guard with
 | none=>!it.kind.isPass
 | some (j,want)=>cO o j && (match k[j]? with|some jt=>jt.dst.isSome && (match jt.out with | .v (.bool b)=>(b == want) == !it.kind.isPass|_=>false)|none=>false)
def okB(k:List It)(c:List Bl)(i:Nat)(o:Yp)(it:It):Bool:=
 (o.dst == it.dst) && Li k o it && o.after.all (λe=>!Zb .any e || e.on<i) && it.need.all (λb=>cO o b.2 && ((k[b.2]?).bind (·.dst)) == some b.1) && AM k c i o it it.kind
def Af:List It->Bool
 | []=>true
 | it :: r=>(match it.dst with|none=>true|some d=>r.all (λk=>k.dst != some d)) && Af r
def WC(k:List Bl)(olds:List (Zw × SV)):Bool:=
 olds.all (λx=>(match x.2.blk with|none=>true|some b=>match k[b]? with|some e=>e.al.isNone|none=>false))
def allB(b:Array Yp)(k:List It)(c:List Bl)(olds:List (Zw × SV))(n:Nat):Bool:=
 b.size == k.length && Af k && WC c olds && k.all (λit=>match it.dst with|none=>true|some d=>d<n) &&
 (YA k.length).all (λi=>match b[i]?,k[i]? with|some o,some it=>okB k c i o it|_,_=>false)
def LL:∀ {k:List It},Af k=true->∀(i j:Nat) (it b:It) (d:Zw),k[i]? = some it->k[j]? = some b->it.dst=some d->b.dst=some d->i=j
 | [],_,i,_,_,_,_,h,_,_,_=>by simp at h
 | x :: r,h,i,j,it,b,d,hi,hj,di,dj=>by
  simp only[Af,XV]at h;match i,j with
  | 0,0=>rfl
  | 0,j+1 =>
   simp only[Yi,XX.injEq]at hi;simp only[Yg]at hj;subst hi;rw[di]at h;have:=Yq.1 h.1 b (YO hj);rw[dj]at this;simp at this
  | i+1,0 =>
   simp only[Yi,XX.injEq]at hj;simp only[Yg]at hi;subst hj;rw[dj]at h;have:=Yq.1 h.1 it (YO hi);rw[di]at this;simp at this
  | i+1,j+1 =>
   simp only[Yg]at hi hj;rw[LL h.2 i j it b d hi hj di dj]
def pD{e:Bl}{i:Nat}(k:i<L.size)(h:e.live L=true):e.live (L.setIfInBounds i true)=true:=by rw[iM k,h,yAN]
def Ac.put{a:Act}{i:Nat}{it:It}(h:Ac its bl a0 L μ a)(hd:Af its=true)(p:i<L.size)(n:its[i]? = some it)(hμ:∀(b:Nat) (e:Bl),bl[b]? = some e->e.live L=true->μ' b=μ b)
 (s:∀d,it.dst=some d->d<a0.tmps.size) (o:∀d,it.dst=some d->∀b,it.out.blk=some b->∃e:Bl,bl[b]? = some e/\e.live (L.setIfInBounds i true)=true)
 (v:XB) (hv:∀d,it.dst=some d->v=it.out.at μ'):Ac its bl a0 (L.setIfInBounds i true) μ' (a.put it.dst v):=by
 have m:∀(j:Nat) (f:It) (d:Zw),its[j]? = some f->on L j=true->f.dst=some d->a.tmps[d]? = some (f.out.at μ')/\∀b,f.out.blk=some b->∃e:Bl,bl[b]? = some e/\e.live (L.setIfInBounds i true)=true:=λj f d g ho c=>by
  obtain⟨u,q⟩:=h.got j f d g ho c;refine⟨?_,λb l=>?_⟩
  .rw[u]
   congr 1
   refine SV.at_congr λb r=>?_
   obtain⟨e,k,o⟩:=q b r;rw[hμ b e k o]
  .obtain⟨e,k,o⟩:=q b l;exact⟨e,k,pD p o⟩
 cases k:it.dst with
 | none =>
  show Ac its bl a0 _ μ' a;refine⟨h.defers,h.size,λj f d g ho c=>?_,λt q=>h.rest t λj f g ho=>q j f g (by rw[dX p,ho,yAN])⟩;rw[dX p]at ho;by_cases l:i=j
  .subst l;rw[n]at g;obtain rfl:it=f:=XX.inj g;rw[k]at c;cases c
  .exact m j f d g (by simpa[l]using ho) c
 | some d0 =>
  have u:=s d0 k;refine⟨h.defers,?_,λj f d g ho c=>?_,λt q=>?_⟩
  .show(a.tmps.setIfInBounds d0 v).size=_;rw[YR];exact h.size
  .show(a.tmps.setIfInBounds d0 v)[d]? = _/\_;rw[Zx];rw[dX p]at ho;by_cases l:i=j
   .subst l;rw[n]at g;obtain rfl:it=f:=XX.inj g;rw[k]at c;obtain rfl:d0=d:=XX.inj c;rw[yEX rfl,yEX (by rw[h.size];exact u),hv d0 k];exact⟨rfl,o d0 k⟩
   .have o:d0≠d:=λr=>l (LL hd i j it f d0 n g k (r ▸ c))
    rw[yEY o];exact m j f d g (by simpa[l]using ho) c
  .show(a.tmps.setIfInBounds d0 v)[t]? = _;have o:d0≠t:=λl=>q i it n (by rw[dX p];simp) (by rw[k,l])
   rw[Zx,yEY o];exact h.rest t λj f g ho=>q j f g (by rw[dX p,ho,yAN])
structure Inv(ops:Array Yp)(its:List It)(bl:List Bl)(a0:Act)(w0:XA)(k0:Nat)(X:List Nat)(μ0:Nat->Nat)(L:Array Bool)(a:Act)(w:XA):Prop where
 size:L.size=its.length
 cl:∀(i:Nat) (o:Yp),ops[i]? = some o->on L i=true->∀e∈o.after,Zb .any e=true->on L e.on=true
 all:∃μ,(∀(b:Nat) (e:Bl),bl[b]? = some e->e.al=none->μ b=μ0 b)/\Ac its bl a0 L μ a/\Wd w0 k0 X bl L μ w/\∀(b:Nat) (e:Bl),bl[b]? = some e->e.put L=true->e.live L=true
def Ce{o:Yp}(h:o.guard=none)(y:Nat->Option Bool):Zc o y=true:=by unfold Zc;rw[h]
def jY{b:Nat}{p:Bl × Nat->Bool}(h:bl.zipIdx.all p=true)(e:Bl)(k:bl[b]? = some e):p (e,b)=true:=
 Yq.1 h (e,b) (by rw[yBe];exact k)
def two{s t:Option Nat}{i c b:Nat}(h:(s != some i && (t == some i) == (c == b))=true):s≠some i/\(t=some i↔c=b):=by
 rw[XV]at h;refine⟨by simpa using h.1,?_⟩;have k:(t == some i)=(c == b):=by simpa using h.2
 constructor
 .intro d;rw[d]at k;simpa using k.symm
 .intro d;rw[d]at k;simpa using k
def step{i:Nat}{o:Yp}{it:It}{a:Act}(hd:Af its=true)(ho:ops[i]? = some o)(U:its[i]? = some it)(hq:okB its bl i o it=true)(W:∀d,it.dst=some d->d<a0.tmps.size)
 (holds:∀(t:Zw) (s:SV),(t,s)∈olds->a0.tmps[t]? = some (s.at μ0)/\∀b,s.blk=some b->∃e:Bl,bl[b]? = some e/\e.al=none)
 (l:∀(j:Nat) (oj:Yp) (H:It),ops[j]? = some oj->its[j]? = some H->oj.dst=H.dst) (F:ops.size=its.length) (B:Cert P Q w0 k0 X ops i its bl olds o it) (h0:on L i=false) (M:∀e∈o.after,Zb .any e=true->on L e.on=true) (h:Inv ops its bl a0 w0 k0 X μ0 L a w) :
 wpOp P ops Q i (Inv ops its bl a0 w0 k0 X μ0 (L.setIfInBounds i true)) a w:=by
 obtain⟨ht,h8,μ,hμ,hA,hW,hO⟩:=h;have D:i<L.size:=by rw[ht];exact(XM.1 U).1
 simp only[okB,XV]at hq;obtain⟨⟨⟨⟨hr,V⟩,k1⟩,hn⟩,g⟩:=hq;have C:o.dst=it.dst:=by simpa using hr
 have r:∀j,cO o j=true->on L j=true:=λj J=>by
  obtain⟨e,R,m⟩:=yAv.1 J;simp only[XV,beq_iff_eq]at m;rw[<-m.2];exact M e R m.1
 have h9:Zc o (yielded ops a.tmps) = !it.kind.isPass:=by
  unfold Zc;unfold Li at V;cases N:o.guard with
  | none=>rw[N]at V;dsimp only at V⊢;rw[V]
  | some jw =>
   obtain⟨j,q⟩:=jw;rw[N]at V;dsimp only at V⊢;rw[XV]at V;cases J:its[j]? with
   | none=>rw[J]at V;cases V.2
   | some H =>
    rw[J]at V;obtain⟨h1,A⟩:=V;dsimp only at A;rw[XV]at A;obtain⟨d,I⟩:=YQ.1 A.1;have K:j<its.length:=(XM.1 J).1;have E:ops[j]? = some (ops[j]'(by rw[F];exact K)):=X8 _;have G:=(hA.got j H d J (r j h1) I).1;have O:yielded ops a.tmps j=match H.out.at μ with | .bool b=>some b|_=>none:=by
     unfold yielded;rw[E];show(match (ops[j]'(by rw[F];exact K)).dst.bind (a.tmps[·]?) with|some (.bool b)=>some b|_=>none)=_;rw[l j _ H E J,I];show(match a.tmps[d]? with|some (.bool b)=>some b|_=>none)=_;rw[G];cases H.out.at μ<;>rfl
    rw[O];have l:=A.2;cases n:H.out with
    | p b x=>rw[n]at l;cases l
    | s b x y=>rw[n]at l;cases l
    | t b x y z=>rw[n]at l;cases l
    | v x =>
     rw[n]at l;cases x with
     | bool b =>
      show(some b == some q)=_;dsimp only at l;have:(b == q) = !it.kind.isPass:=by simpa using l
      rw[<-this];cases b<;>cases q<;>rfl
     | _=>cases l
 have hK:Known ops i its olds it.need μ a:=by
  refine⟨λt j H hm J=>?_,λt s hm K=>?_⟩
  .have h1:=Yq.1 hn (t,j) hm;simp only[XV,J]at h1;have A:H.dst=some t:=by simpa using h1.2
   have G:=(hA.got j H t J (r j h1.1) A).1;show a.tmps.getD t Zs=_;rw[XQ,G];rfl
  .obtain⟨A,G⟩:=holds t s hm;have O:=hA.rest t (λj H J S I=>by
    have l:=Yq.1 K (H,j) (by rw[yBe];exact J);dsimp only at l;rw[I]at l;cases E:ops[j]? with
    | none=>rw[E]at l;simp at l
    | some oj =>
     rw[E]at l;have q:cO oj i=true:=by simpa using l
     obtain⟨e',N,F⟩:=yAv.1 q;simp only[XV,beq_iff_eq]at F;have:=h8 j oj E S e' N F.1;rw[F.2,h0]at this;cases this)
   show a.tmps.getD t Zs=_;rw[XQ,O,A];show s.at μ0=s.at μ;refine SV.at_congr λb m=>?_
   obtain⟨e,R,q⟩:=G b m;rw[hμ b e R q]
 have hR:Reads ops i bl μ w:=λb e m q K=>by
  have:=(hW.has b e m (by
   unfold Bl.live;rcases q with q|⟨I,j,l,q,hd⟩
   .rw[q];rfl
   .rw[q];show on L j=true;rw[ho]at l;obtain rfl:=XX.inj l;exact r j hd)).1
  unfold Bl.now Bl.put at this;unfold readB at K;cases hs:e.st with
  | none=>rw[hs]at this;exact this
  | some s =>
   rw[hs]at this K;dsimp only at K;cases l:ops[s]? with
   | none=>rw[l]at K;cases K
   | some os =>
    rw[l]at K;have I:on L s=false:=by
     cases S:on L s with
     | false=>rfl
     | true =>
      obtain⟨e',N,F⟩:=yAv.1 K;simp only[XV,beq_iff_eq]at F;have:=h8 s os l S e' N F.1;rw[F.2,h0]at this;cases this
    rw[show(Option.map (on L) (some s)).getD false=on L s from rfl,I]at this;exact this
 have Z:∀b,Kx its bl o it b=true->∃e:Bl,bl[b]? = some e/\e.live L=true:=λb m=>by
  unfold Kx at m;rw[Bool.or_eq_true]at m;rcases m with A|A
  .cases R:bl[b]? with
   | none=>rw[R]at A;cases A
   | some e =>
    rw[R]at A;dsimp only at A;refine⟨e,rfl,?_⟩;unfold Bl.live;cases q:e.al with
    | none=>rfl
    | some j=>rw[q]at A;exact r j A
  .obtain⟨x,hx,G⟩:=List.any_eq_true.1 A;rw[XV]at G;cases J:its[x.2]? with
   | none=>rw[J]at G;cases G.2
   | some H =>
    rw[J]at G;dsimp only at G;rw[XV]at G;obtain⟨d,l⟩:=YQ.1 G.2.1;exact(hA.got x.2 H d J (r x.2 G.1) l).2 b (by simpa using G.2.2)
 have I:∀(j:Nat) (oj:Yp),ops[j]? = some oj->on (L.setIfInBounds i true) j=true->∀e∈oj.after,Zb .any e=true->on (L.setIfInBounds i true) e.on=true:=λj oj E S e R m=>by
  rw[dX D]at S⊢;by_cases l:i=j
  .subst l;rw[ho]at E;obtain rfl:o=oj:=XX.inj E;rw[M e R m,yAN]
  .rw[h8 j oj E (by simpa[l]using S) e R m,yAN]
 have H:(L.setIfInBounds i true).size=its.length:=by rw[YR];exact ht
 have hC:=B μ a w (Inv ops its bl a0 w0 k0 X μ0 (L.setIfInBounds i true)) hK hR hW.bel;unfold wpOp;rw[ho];dsimp only;rw[h9];cases hk:it.kind with
 | pass =>
  rw[hk]at hC g;simp only[AM,XV]at g;have G:∀(b:Nat) (e:Bl),bl[b]? = some e->e.al≠some i/\e.st≠some i:=λb e m=>by simpa using Yq.1 g.1 e (YO m)
  have l:∀(b:Nat) (e:Bl),bl[b]? = some e->e.live (L.setIfInBounds i true)=e.live L/\e.put (L.setIfInBounds i true)=e.put L:=λb e m =>
   ⟨by rw[iM D,show(e.al == some i)=false by simpa using(G b e m).1,ZG],by rw[kJ D,show(e.st == some i)=false by simpa using(G b e m).2,ZG]⟩
  show Inv ops its bl a0 w0 k0 X μ0 (L.setIfInBounds i true) (a.put o.dst Zs) w;refine⟨H,I,μ,hμ,?_,hW.same l,λb e m=>by rw[(l b e m).1,(l b e m).2];exact hO b e m⟩;rw[C];have n:it.out=.v Zs:=hC;refine hA.put hd D U (λ_ _ _ _=>rfl) W (λ_ _ b M=>?_) _ (λ_ _=>by rw[n];rfl);rw[n]at M;cases M
 | stay =>
  rw[hk]at hC g;simp only[AM,XV]at g;show o.wp P a w _ Q\/_;left;refine hC ?_;have G:∀(b:Nat) (e:Bl),bl[b]? = some e->e.al≠some i/\e.st≠some i:=λb e m=>by simpa using Yq.1 g.1 e (YO m)
  have l:∀(b:Nat) (e:Bl),bl[b]? = some e->e.live (L.setIfInBounds i true)=e.live L/\e.put (L.setIfInBounds i true)=e.put L:=λb e m =>
   ⟨by rw[iM D,show(e.al == some i)=false by simpa using(G b e m).1,ZG],by rw[kJ D,show(e.st == some i)=false by simpa using(G b e m).2,ZG]⟩
  refine⟨H,I,μ,hμ,?_,hW.same l,λb e m=>by rw[(l b e m).1,(l b e m).2];exact hO b e m⟩;rw[C];refine hA.put hd D U (λ_ _ _ _=>rfl) W (λ_ _ b M=>?_) _ (λ_ _=>rfl);have A:=g.2;rw[M]at A;obtain⟨e,R,hl⟩:=Z b A;exact⟨e,R,pD D hl⟩
 | call =>
  rw[hk]at hC g;simp only[AM,XV]at g;show o.wp P a w _ Q\/_;left;refine hC λw' F=>?_
  have G:∀(b:Nat) (e:Bl),bl[b]? = some e->e.al≠some i/\e.st≠some i:=λb e m=>by simpa using Yq.1 g.1 e (YO m)
  have l:∀(b:Nat) (e:Bl),bl[b]? = some e->e.live (L.setIfInBounds i true)=e.live L/\e.put (L.setIfInBounds i true)=e.put L:=λb e m =>
   ⟨by rw[iM D,show(e.al == some i)=false by simpa using(G b e m).1,ZG],by rw[kJ D,show(e.st == some i)=false by simpa using(G b e m).2,ZG]⟩
  refine⟨H,I,μ,hμ,?_,(hW.call F).same l,λb e m=>by rw[(l b e m).1,(l b e m).2];exact hO b e m⟩;rw[C];refine hA.put hd D U (λ_ _ _ _=>rfl) W (λ_ _ b M=>?_) _ (λ_ _=>rfl);have A:=g.2;rw[M]at A;obtain⟨e,R,hl⟩:=Z b A;exact⟨e,R,pD D hl⟩
 | make b =>
  rw[hk]at hC g;simp only[AM,XV]at g;obtain⟨⟨n,hz⟩,N⟩:=g;obtain⟨e,l⟩:=YQ.1 N;have ha:e.al=some i:=(two (jY hz e l)).2.2 rfl;have F:∀(c:Nat) (f:Bl),bl[c]? = some f->f.st≠some i:=λc f B=>(two (jY hz f B)).1
  have O:∀(c:Nat) (f:Bl),bl[c]? = some f->c≠b->f.al≠some i:=λc f B T h=>T ((two (jY hz f B)).2.1 h)
  have M:e.live L=false:=by unfold Bl.live;rw[ha];exact h0
  have hpt:e.put L=false:=by
   cases hp:e.put L with
   | false=>rfl
   | true=>have:=hO b e l hp;rw[M]at this;cases this
  have h7:it.out.blk=some b:=by
   cases G:it.out.blk with
   | none=>rw[G]at n;cases n
   | some c =>
    rw[G]at n;rw[show c=b by simpa using n]
  show o.wp P a w _ Q\/_;left;refine hC e l λk w' hm=>?_
  have hμb:∀(c:Nat) (f:Bl),bl[c]? = some f->f.live L=true->upd μ b k c=μ c:=λc f B hl=>by
   unfold upd;rw[yEY];rintro rfl;rw[l]at B;obtain rfl:e=f:=XX.inj B;rw[M]at hl;cases hl
  refine⟨H,I,upd μ b k,λc f B q=>?_,?_,hW.make D l ha O F hpt hm,λc f B=>?_⟩
  .rw[hμb c f B (by unfold Bl.live;rw[q];rfl)];exact hμ c f B q
  .rw[C];refine hA.put hd D U hμb W (λ_ _ c Y=>?_) _ (λ_ _=>rfl);rw[h7]at Y;have h1:b=c:=XX.inj Y;subst h1;exact⟨e,l,by rw[iM D,ha];simp⟩
  .rw[kJ D,show(f.st == some i)=false by simpa using F c f B,ZG];exact λhp=>pD D (hO c f B hp)
 | put b =>
  rw[hk]at hC g;simp only[AM,XV]at g;obtain⟨⟨n,hz⟩,N⟩:=g;cases l:bl[b]? with
  | none=>rw[l]at N;cases N
  | some e =>
   rw[l]at N;dsimp only at N;have hs:e.st=some i:=(two (jY hz e l)).2.2 rfl;have O:∀(c:Nat) (f:Bl),bl[c]? = some f->f.al≠some i:=λc f B=>(two (jY hz f B)).1
   have F:∀(c:Nat) (f:Bl),bl[c]? = some f->c≠b->f.st≠some i:=λc f B T h=>T ((two (jY hz f B)).2.1 h)
   have M:e.live L=true:=by
    unfold Bl.live;cases q:e.al with
    | none=>rfl
    | some j =>
     have A:=N;rw[q]at A;exact r j A
   show o.wp P a w _ Q\/_;left;have hu:e.put L=false:=by unfold Bl.put;rw[hs];exact h0
   have A:e.now L=e.before:=by unfold Bl.now;rw[hu];rfl
   refine hC e l (hW.has b e l M).2.1 (A ▸ (hW.has b e l M).1) λw' hw=>?_
   refine⟨H,I,μ,hμ,?_,hW.put D l hs M hw F O,λc f B hp=>?_⟩
   .rw[C];refine hA.put hd D U (λ_ _ _ _=>rfl) W (λd hy c Y=>?_) _ (λd hy=>rfl);cases G:it.out with
    | v x=>rw[G]at Y;cases Y
    | p x y=>rw[G]at n;cases n
    | s x y z=>rw[G]at n;cases n
    | t x y z u=>rw[G]at n;cases n
   .rw[iM D,show(f.al == some i)=false by simpa using O c f B,ZG];rw[kJ D]at hp;by_cases T:c=b
    .subst T;rw[l]at B;obtain rfl:e=f:=XX.inj B;exact M
    .rw[show(f.st == some i)=false by simpa using F c f B T,ZG]at hp;exact hO c f B hp
end RG
namespace RG
variable {P:YJ}{ops:Array Yp}{Q:yAM->Act->XA->Prop}{w0 w:XA}{k0:Nat}{X:List Nat}{its:List It}{bl:List Bl}{olds:List (Zw × SV)}{a0:Act}{L:Array Bool}{μ μ0:Nat->Nat}
def puts(μ:Nat->Nat):List It->Act->Act
 | [],a=>a
 | it :: r,a=>puts μ r (a.put it.dst (it.out.at μ))
def nR(μ:Nat->Nat):∀(k:List It) (a:Act),(puts μ k a).defers=a.defers
 | [],_=>rfl
 | it :: r,a=>by
  rw[puts,nR μ r];cases it.dst<;>rfl
def rI(a:Act)(d:Option Zw)(v:XB):(a.put d v).tmps.size=a.tmps.size:=by
 cases d with
 | none=>rfl
 | some d=>exact YR ..
def Av(μ:Nat->Nat):∀(k:List It) (a:Act),(puts μ k a).tmps.size=a.tmps.size
 | [],_=>rfl
 | it :: r,a=>by rw[puts,Av μ r,rI]
def oV(a:Act){d:Option Zw}(v:XB){t:Zw}(h:d≠some t):(a.put d v).tmps[t]? = a.tmps[t]?:=by
 cases d with
 | none=>rfl
 | some d =>
  show(a.tmps.setIfInBounds d v)[t]? = _;rw[Zx,yEY (λe=>h (by rw[e]))]
def mN(μ:Nat->Nat):∀(k:List It) (a:Act) (t:Zw),(∀it∈k,it.dst≠some t)->(puts μ k a).tmps[t]? = a.tmps[t]?
 | [],_,_,_=>rfl
 | it :: r,a,t,h=>by
  rw[puts,mN μ r _ t (λx hx=>h x (Yo _ hx)),oV a _ (h it YH)]
def tC{μ:Nat->Nat}:∀(k:List It) (a:Act) (i:Nat) (it:It) (d:Zw),Af k=true->k[i]? = some it->it.dst=some d->d<a.tmps.size->(puts μ k a).tmps[d]? = some (it.out.at μ)
 | [],_,i,_,_,_,h,_,_=>by simp at h
 | x :: r,a,0,it,d,hB,h,hd,hs=>by
  obtain rfl:x=it:=by simpa using h
  simp only[Af,XV,hd]at hB;rw[puts,mN μ r _ d (λy b=>by simpa using Yq.1 hB.1 y b),hd];show(a.tmps.setIfInBounds d _)[d]? = _;rw[Zx,yEX rfl,yEX hs]
 | x :: r,a,i+1,it,d,hB,h,hd,hs=>by
  simp only[Af,XV]at hB;rw[puts];exact tC r _ i it d hB.2 (by simpa using h) hd (by rw[rI];exact hs)
def Act.ext'{a b:Act}(k:a.tmps=b.tmps)(c:a.defers=b.defers):a=b:=by
 cases a;cases b;subst k;subst c;rfl
def Ac.done{a:Act}(h:Ac its bl a0 L μ a)(f:Af its=true)(e:∀it∈its,∀d,it.dst=some d->d<a0.tmps.size)(b:∀i,i<its.length->on L i=true):a=puts μ its a0:=by
 refine Act.ext' ?_ (by rw[nR];exact h.defers);apply Array.ext_getElem?;intro t;by_cases c:∃(i:Nat) (it:It),its[i]? = some it/\it.dst=some t
 .obtain⟨i,it,k,hd⟩:=c;rw[(h.got i it t k (b i (XM.1 k).1) hd).1,tC (μ:=μ) its a0 i it t f k hd (e it (YO k) t hd)]
 .rw[h.rest t (λi it k _ hd=>c ⟨i,it,k,hd⟩),mN μ its a0 t (λit g hd=>?_)];obtain⟨i,k⟩:=ZA g;exact c ⟨i,it,k,hd⟩
def unl(L:Array Bool):Nat:=L.toList.countP (λb=>!b)
def count_set:∀(l:List Bool) (i:Nat),l[i]? = some false->(l.set i true).countP (λb=>!b)+1=l.countP (λb=>!b)
 | [],i,h=>by simp at h
 | x :: r,0,h=>by
  obtain rfl:x=false:=by simpa using h
  simp
 | x :: r,i+1,h=>by
  have:=count_set r i (by simpa using h);rw[XJ,yDQ,yDQ];omega
def mE{i:Nat}(h:L.getD i true=false):unl (L.setIfInBounds i true)+1=unl L:=by
 unfold unl;rw[Array.toList_setIfInBounds];refine count_set _ _ ?_;rw[YE];rw[XQ]at h;cases hh:L[i]? with
 | none=>rw[hh]at h;cases h
 | some b=>rw[hh]at h;rw[show b=false from h]
def kW{i:Nat}(h:unl L=0)(b:i<L.size):on L i=true:=by
 have k:=List.countP_eq_zero.1 h;have c:=k L[i] (by simp);unfold on;rw[XQ,X8 b];simpa using c
structure Reg(P:YJ)(ops:Array Yp)(Q:yAM->Act->XA->Prop)(w0:XA)(k0:Nat)(X:List Nat)(its:List It)(bl:List Bl)(olds:List (Zw × SV))(a0:Act)(μ0:Nat->Nat):Prop where
 chk:allB ops its bl olds a0.tmps.size=true
 old:∀(t:Zw) (s:SV),(t,s)∈olds->a0.tmps[t]? = some (s.at μ0)
 cert:∀(i:Nat) (o:Yp) (it:It),ops[i]? = some o->its[i]? = some it->Cert P Q w0 k0 X ops i its bl olds o it
def Reg.step{i:Nat}{o:Yp}{a:Act}(R:Reg P ops Q w0 k0 X its bl olds a0 μ0)(ho:ops[i]? = some o)(v:on L i=false)(f:∀e∈o.after,Zb .any e=true->on L e.on=true)(h:Inv ops its bl a0 w0 k0 X μ0 L a w):
 wpOp P ops Q i (Inv ops its bl a0 w0 k0 X μ0 (L.setIfInBounds i true)) a w:=by
 have A:=R.chk;simp only[allB,XV,beq_iff_eq]at A;obtain⟨⟨⟨⟨n,hd⟩,m⟩,u⟩,g⟩:=A;have y:i<its.length:=by rw[<-n];exact(X5.1 ho).1
 obtain⟨it,k⟩:∃it,its[i]? = some it:=⟨its[i],XO y⟩
 have B:=Yq.1 g i (Y4.2 y);rw[ho,k]at B;refine RG.step (olds:=olds) hd ho k B (λd r=>?_) (λt s z=>?_) (λj E D p l=>?_) n (R.cert i o it ho k) v f h
 .have:=Yq.1 u it (YO k);rw[r]at this;simpa using this
 .have C:=Yq.1 m (t,s) z;refine⟨R.old t s z,λb q=>?_⟩;have c:=C;dsimp only at c;rw[q]at c;dsimp only at c;cases x:bl[b]? with
  | none=>rw[x]at c;cases c
  | some e=>rw[x]at c;exact⟨e,rfl,by simpa using c⟩
 .have c:=Yq.1 g j (Y4.2 (XM.1 l).1);rw[p,l]at c;simp only[okB,XV]at c;simpa using c.1.1.1.1
def Reg.back{i:Nat}{o:Yp}(R:Reg P ops Q w0 k0 X its bl olds a0 μ0)(ho:ops[i]? = some o):i<its.length/\∀e∈o.after,Zb .any e=true->e.on<i:=by
 have g:=R.chk;simp only[allB,XV,beq_iff_eq]at g;obtain⟨⟨⟨⟨b,hd⟩,f⟩,l⟩,c⟩:=g;have d:i<its.length:=by rw[<-b];exact(X5.1 ho).1
 have k:=Yq.1 c i (Y4.2 d);rw[ho,XO d]at k;simp only[okB,XV]at k;refine⟨d,λe j m=>?_⟩;have:=ZJ.1 k.1.1.2 e j;simpa[m]using this
def Reg.size(R:Reg P ops Q w0 k0 X its bl olds a0 μ0):ops.size=its.length:=by
 have k:=R.chk;simp only[allB,XV,beq_iff_eq]at k;exact k.1.1.1.1
def Reg.full{a:Act}(R:Reg P ops Q w0 k0 X its bl olds a0 μ0)(h:Inv ops its bl a0 w0 k0 X μ0 L a w)(g:Yu .any ops L=[]):∀i,i<its.length->on L i=true:=by
 intro i;induction i using yD5 with
 | ind i ih =>
  intro c;have ho:ops[i]? = some (ops[i]'(by rw[R.size];exact c)):=X8 _;cases k:on L i with
  | true=>rfl
  | false =>
   have:i∈Yu .any ops L:=mem_ready.2 ⟨?_,_,ho,λe d f=>?_⟩
   .rw[g]at this;cases this
   .unfold on at k;rw[XQ,X8 (by rw[h.size];exact c)]at k⊢;exact k
   .have b:=(R.back ho).2 e d f;exact ih e.on b (Nat.lt_trans b c)
def ad(k:List Nat)(b:Nat):Nat:=k.getD b 0
structure St(w0:XA)(k0:Nat)(X:List Nat)(cs:List (List XB))(ks:List Nat)(w:XA):Prop where
 bel:BelX k0 X w0 w
 le:k0<=w.heap.size
 len:ks.length=cs.length
 has:∀(b:Nat) (c:List XB),cs[b]? = some c->w.rangeAt (ad ks b) 0 c/\w.there (ad ks b) 0 c.length/\ad ks b<w.heap.size/\(k0<=ad ks b\/ad ks b∈X)
 inj:∀(b c:Nat),b<cs.length->c<cs.length->b≠c->ad ks b≠ad ks c
def St.drew{cs:List (List XB)}{k:List Nat}(h:St w0 k0 X cs k w):St w0 k0 X cs k w.drew:=⟨h.bel.drew,h.le,h.len,h.has,h.inj⟩
def Bl.fin(e:Bl):List XB:=if e.st.isSome=true then e.after else e.before
def nJ(k:List Bl)(n:Nat):Bool:=k.zipIdx.all (λx=>x.1.al.isNone == decide (x.2<n)) && decide (n<=k.length)
def Aq{s:Array Yp}{cs:List (List XB)}{t:List Nat}(q:St w0 k0 X cs t w)(x:nJ bl cs.length=true)(v:(bl.map (·.before)).take cs.length=cs):
 Inv s its bl a0 w0 k0 X (ad t) (XT its.length false) a0 w:=by
 simp only[nJ,XV]at x;have g:∀i,on (XT its.length false) i=false:=λi=>by
  unfold on;rw[XQ,yBy];by_cases h:i<its.length
  .rw[yEX h];rfl
  .rw[yEY h];rfl
 have k:∀(b:Nat) (e:Bl),bl[b]? = some e->e.live (XT its.length false)=true->b<cs.length:=λb e l n=>by
  have p:=jY x.1 e l;unfold Bl.live at n;cases m:e.al with
  | none=>simpa[m]using p
  | some j=>rw[m]at n;have:on (XT its.length false) j=true:=n;rw[g]at this;cases this
 have m:∀e:Bl,e.put (XT its.length false)=false:=λe=>by
  unfold Bl.put;cases e.st with
  | none=>rfl
  | some j=>exact g j
 have p:∀(b:Nat) (e:Bl),bl[b]? = some e->b<cs.length->cs[b]? = some e.before:=λb e l u=>by
  rw[<-v,Zv,yEX u,YB,l];rfl
 refine⟨Array.size_replicate,(λi o _ h=>by rw[g]at h;cases h),ad t,λ_ _ _ _=>rfl,⟨rfl,rfl,λi it d A ho=>?_,λ_ _=>rfl⟩,⟨q.bel,q.le,λb e l n=>?_,λb c e f l a z hf r=>q.inj b c (k b e l z) (k c f a hf) r⟩,λb e l y=>?_⟩
 .rw[g]at ho;cases ho
 .unfold Bl.now;rw[m e];exact q.has b e.before (p b e l (k b e l n))
 .rw[m e]at y;cases y
def Inv.done{a:Act}{cs:List (List XB)}{q:List Nat}(R:Reg P ops Q w0 k0 X its bl olds a0 (ad q))(h:Inv ops its bl a0 w0 k0 X (ad q) L a w)(o:q.length=cs.length)(E:nJ bl cs.length=true)(k:∀i,i<its.length->on L i=true)
 (p:∀e∈bl,∀j,e.al=some j\/e.st=some j->j<its.length) (t:∀e∈bl,e.fin.length=e.before.length)
 (K:∀(new:List Nat) (w':XA),new.length=bl.length-cs.length->St w0 k0 X (bl.map Bl.fin) (q++new) w'->Q .normal (puts (ad (q++new)) its a0) w'):Q .normal a w:=by
 obtain⟨I,-,μ,hμ,H,B,O⟩:=h;have J:=R.chk;simp only[allB,XV,beq_iff_eq]at J;obtain⟨⟨⟨⟨A,hd⟩,v⟩,y⟩,F⟩:=J;have M:=E;simp only[nJ,XV,decide_eq_true_eq]at E;have f:∀(b:Nat) (e:Bl),bl[b]? = some e->e.live L=true:=λb e m=>by
  unfold Bl.live;cases g:e.al with
  | none=>rfl
  | some j=>exact k j (p e (YO m) j (Ye g))
 have z:∀(b:Nat) (e:Bl),bl[b]? = some e->e.now L=e.fin:=λb e m=>by
  unfold Bl.now Bl.put Bl.fin;cases g:e.st with
  | none=>rfl
  | some j =>
   have:=k j (p e (YO m) j (X7 g));simp[this]
 have g:∀b,b<bl.length->ad (q++(YA (bl.length-cs.length)).map (λj=>μ (cs.length+j))) b=μ b:=λb m=>by
  unfold ad;rw[Z9];by_cases n:b<cs.length
  .rw[XY (by rw[o];exact n)];obtain⟨e,l⟩:∃e,bl[b]? = some e:=⟨bl[b],XO m⟩
   have u:=jY E.1 e l;have s:e.al=none:=by simpa[n]using u
   rw[hμ b e l s];unfold ad;rw[Z9]
  .rw[XW (by rw[o];omega),YB,o,List.getElem?_range oM];show μ (cs.length+(b-cs.length))=μ b
   congr 1
   omega
 have s:=H.done hd (λit G d n=>by
  have:=Yq.1 y it G;rw[n]at this;simpa using this) k
 have D:puts μ its a0=puts (ad (q++(YA (bl.length-cs.length)).map (λj=>μ (cs.length+j)))) its a0:=by
  have key:∀it∈its,∀d,it.dst=some d->it.out.at μ=it.out.at (ad (q++(YA (bl.length-cs.length)).map (λj=>μ (cs.length+j)))):=λit G d n=>by
   obtain⟨i,C⟩:=ZA G;have N:=(H.got i it d C (k i (XM.1 C).1) n).2;refine SV.at_congr λb m=>?_
   obtain⟨e,l,-⟩:=N b m;rw[g b (XM.1 l).1]
  clear H s v F y hd A I R k p K;generalize a0=C;induction its generalizing C with
  | nil=>rfl
  | cons it r ih =>
   rw[puts,puts];have u:C.put it.dst (it.out.at μ)=C.put it.dst (it.out.at (ad (q++(YA (bl.length-cs.length)).map (λj=>μ (cs.length+j))))):=by
    cases n:it.dst with
    | none=>rfl
    | some d=>rw[key it YH d n]
   rw[u];exact ih (λx hx=>key x (Yo _ hx)) _
 rw[s,D];refine K _ w (by simp) ⟨B.bel,B.le,?_,λb c p=>?_,λb c m p C=>?_⟩
 .simp only[XK,XZ,List.length_range];omega
 .rw[YB]at p;cases l:bl[b]? with
  | none=>rw[l]at p;cases p
  | some e =>
   rw[l]at p;obtain rfl:e.fin=c:=XX.inj p;have u:=B.has b e l (f b e l);rw[z b e l]at u;rw[g b (XM.1 l).1,t e (YO l)];exact u
 .rw[XZ]at m p;rw[g b m,g c p];exact B.inj b c _ _ (XO m) (XO p) (f b _ (XO m)) (f c _ (XO p)) C
def region_draws'{id:Nat}{cs:List (List XB)}{p:List Nat}(z:P.follows .mixedOrders=true)(q:St w0 k0 X cs p w)(R:Reg P ops Q w0 k0 X its bl olds a0 (ad p))(r:nJ bl cs.length=true)(t:(bl.map (·.before)).take cs.length=cs)(hE:(∀e∈bl,∀j,e.al=some j\/e.st=some j->j<its.length)/\∀e∈bl,e.fin.length=e.before.length)
 (v:∀(new:List Nat) (w':XA),new.length=bl.length-cs.length->St w0 k0 X (bl.map Bl.fin) (p++new) w'->Q .normal (puts (ad (p++new)) its a0) w'):(Zd id ops true).wp P Q a0 w:=by
 obtain⟨m,c⟩:=hE;have key:∀(k:Nat) (L:Array Bool) (a:Act) (w:XA),unl L=k->Inv ops its bl a0 w0 k0 X (ad p) L a w->wpAny P .any ops Q k L a w:=by
  intro k;induction k with
  | zero =>
   intro L a w u g;have f:∀i,i<its.length->on L i=true:=λi l=>kW u (by rw[g.size];exact l)
   refine⟨?_,g.done R q.len r f m c v⟩;apply List.eq_nil_iff_forall_not_mem.2;intro i l;obtain⟨d,o,ho,-⟩:=mem_ready.1 l;have n:=f i (R.back ho).1;unfold on at n;rw[XQ]at d n;cases hh:L[i]? with
   | none=>rw[hh]at d;cases d
   | some b=>rw[hh]at d n;rw[show b=false from d]at n;cases n
  | succ k ih =>
   intro L a w u g;refine⟨λy=>g.done R q.len r (R.full g y) m c v,λi l=>?_⟩;obtain⟨d,o,ho,f⟩:=mem_ready.1 l;have n:on L i=false:=by
    unfold on;rw[XQ]at d⊢;cases hh:L[i]? with
    | none=>rfl
    | some b=>rw[hh]at d;exact d
   exact wpOp_mono (λx w' s=>ih _ x w' (oN (mE d)) s) (R.step ho n f g)
 refine wp_region_any z (key _ _ a0 _ ?_ ?_)
 .unfold unl;rw[Array.toList_replicate,List.countP_replicate];simp
 .rw[R.size];exact Aq q.drew r t
def region_text'{id:Nat}{cs:List (List XB)}{c:List Nat}(p:St w0 k0 X cs c w)(R:Reg P ops Q w0 k0 X its bl olds a0 (ad c))(q:nJ bl cs.length=true)(o:(bl.map (·.before)).take cs.length=cs)(hE:(∀e∈bl,∀j,e.al=some j\/e.st=some j->j<its.length)/\∀e∈bl,e.fin.length=e.before.length)
 (l:∀(new:List Nat) (w':XA),new.length=bl.length-cs.length->St w0 k0 X (bl.map Bl.fin) (c++new) w'->Q .normal (puts (ad (c++new)) its a0) w'):(Zd id ops false).wp P Q a0 w:=by
 obtain⟨g,k⟩:=hE;have key:∀(m i:Nat) (L:Array Bool) (a:Act) (w:XA),i+m=its.length->(∀j,j<its.length->on L j=decide (j<i))->Inv ops its bl a0 w0 k0 X (ad c) L a w->wpOps P ops Q (List.range' i m) a w:=by
  intro m;induction m with
  | zero =>
   intro i L a w u b f;exact f.done R p.len q (λj d=>by rw[b j d];simp;omega) g k l
  | succ m ih =>
   intro i L a w u b f;rw[List.range'_succ,wpOps_cons];have ho:ops[i]? = some (ops[i]'(by rw[R.size];omega)):=X8 _;refine wpOp_mono (λt w' l=>ih (i+1) _ t w' oM (λj d=>?_) l) (R.step ho (by rw[b i oM];simp) (λe s v=>?_) f)
   .rw[dX (by rw[f.size];omega),b j d];by_cases n:j<i
    .simp[n];omega
    .by_cases r:i=j
     .subst r;simp
     .have:¬j<i+1:=oM;simp[n,r,this]
   .have n:=(R.back ho).2 e s v;rw[b e.on oM];simpa using n
 refine wp_region ?_;rw[List.range_eq_range',R.size];refine key its.length 0 (XT its.length false) a0 w oM (λj d=>?_) (Aq p q o);unfold on;rw[XQ,yBy,yEX d];simp
end RG
namespace RG
variable {P:YJ}{Q:yAM->Act->XA->Prop}{its:List It}{bl:List Bl}{olds:List (Zw × SV)}{ops:Array Yp}{i:Nat}{o:Yp}{it:It}{w0:XA}{k0:Nat}{X:List Nat}
def dV(d:it.kind=.stay)(b:∀(μ:Nat->Nat) (a:Act) (w:XA),Known ops i its olds it.need μ a->BelX k0 X w0 w->(Yh a.eval o).run P w=.ok (.value (it.out.at μ)) w):Cert P Q w0 k0 X ops i its bl olds o it:=by
 intro μ a w K c _ k;rw[d];intro h;unfold Y3;rw[b μ a w c k];exact h
def pU{b off:Nat}{T:Yd}{t:Zw}{cs:List XB}(u:it.kind=.stay)(e:Bl)(s:bl[b]? = some e)(m:e.al=none)(l:readB ops i e=true)(ho:o.op=.load T (.tmp t))(c:it.out=.v (.agg cs.toArray))(hx:∀(μ:Nat->Nat) (a:Act),Known ops i its olds it.need μ a->a.eval (.tmp t)=(SV.p b off).at μ)(k:(e.before.drop off).take cs.length=cs)(g:(P.underlying T).map (·.isRow)=some true)(r:(P.info? T).map (·.size)=some cs.length):Cert P Q w0 k0 X ops i its bl olds o it:=by
 intro μ a w K x hR _;rw[u];intro h;rw[c]at h;obtain⟨d,g,hd⟩:=XE.1 g;refine wp_load_mid T (.tmp t) ho (μ b) off (hx μ a x) cs d (λj v f=>?_) g hd r h;have p:=hR b e s (Ye m) l (off+j) v ?_
 .rw[XI]at p;exact p
 .rw[<-k]at f;have n:j<cs.length:=by
   have q:=(XM.1 f).1;rw[k]at q;exact q
  rw[Zv,yEX n,yB4]at f;exact f
def AS{args:Array XB}{v:XB}(g:it.kind=.call)(f:ZQ)(c:it.out=.v v)(b:∀(μ:Nat->Nat) (a:Act) (w:XA),Known ops i its olds it.need μ a->BelX k0 X w0 w->(Yh a.eval o).run P w=.ok (.enter f args) w)(j:∀w,BelX k0 X w0 w->YN P f args w (rZ w λe w'=>e=v)):Cert P Q w0 k0 X ops i its bl olds o it:=by
 intro μ a w K l _ k;rw[g];intro h;rw[c]at h;unfold Y3;rw[b μ a w l k,ZM];refine(j w k).mono ?_;rintro e w' ⟨m,rfl,d,rfl⟩;exact h w' d
def AQ{b:Nat}(g:it.kind=.make b)(e:Bl)(j:bl[b]? = some e)(t:Yd)(d:∀(μ:Nat->Nat) (a:Act) (w:XA),Known ops i its olds it.need μ a->BelX k0 X w0 w->(Yh a.eval o).run P w=.ok (.value (it.out.at (upd μ b w.heap.size))) (w.alloc (.cells e.before.toArray t))):Cert P Q w0 k0 X ops i its bl olds o it:=by
 intro μ a w K f _ k;rw[g];intro e' c h;rw[j]at c;obtain rfl:e=e':=XX.inj c;unfold Y3;rw[d μ a w f k];exact h _ _ (Made.alloc w e.before t)
def L0{b:Nat}{e:Bl}{x y:yAe}(p:it.kind=.put b)(n:bl[b]? = some e)(T:Yd)(ho:o.op=.store T x y)(d:o.dst=none)(k:e.after.length=e.before.length)(hx:∀(μ:Nat->Nat) (a:Act),Known ops i its olds it.need μ a->a.eval x=(SV.p b 0).at μ)(r:∀(μ:Nat->Nat) (a:Act),Known ops i its olds it.need μ a->a.eval y=.agg e.after.toArray)(m:(P.info? T).map (·.size)=some e.after.length)(q:e.after.all (·.oneCell')=true):Cert P Q w0 k0 X ops i its bl olds o it:=by
 intro μ a w K j _ _;rw[p];intro e' c g l h;rw[n]at c;obtain rfl:e=e':=XX.inj c;have f:=PutTo.whole g l k;refine wp_store_mid T x y ho (μ b) 0 e.after.toArray (hx μ a j) (r μ a j) ?_ ?_ ?_ ?_
 .rw[YF,k];exact g
 .rw[YF];exact m
 .exact all_oneCell_toArray (λv hv=>Yq.1 q v hv)
 .have:=h _ f;rw[d]at this⊢;exact this
def Known.op{k:List (Zw × Nat)}{μ:Nat->Nat}{a:Act}(h:Known ops i its olds k μ a)(t:Zw)(j:Nat)(d:(t,j)∈k){b:It}(c:its[j]? = some b):a.eval (.tmp t)=b.out.at μ:=h.1 t j b d c
def Known.old{k:List (Zw × Nat)}{μ:Nat->Nat}{a:Act}(h:Known ops i its olds k μ a)(t:Zw)(s:SV)(b:(t,s)∈olds)(hf:GG ops its i t=true):a.eval (.tmp t)=s.at μ:=h.2 t s b hf
def len1{l:List Nat}(h:l.length=1):∃k,l=[k]:=List.length_eq_one_iff.1 h
def len2{l:List Nat}(h:l.length=2):∃k j,l=[k,j]:=by
 match l,h with
 | [k,j],_=>exact⟨k,j,rfl⟩
end RG
namespace RG
variable {P:YJ}{ops:Array Yp}{Q:yAM->Act->XA->Prop}{w0 w:XA}{k0:Nat}{X:List Nat}{its:List It}{bl:List Bl}{olds:List (Zw × SV)}{a0:Act}{L:Array Bool}{μ μ0:Nat->Nat}{i:Nat}{o:Yp}{it:It}
def Certs(P:YJ)(Q:yAM->Act->XA->Prop)(d:XA)(e:Nat)(X:List Nat)(k:Array Yp)(b:List It)(c:List Bl)(olds:List (Zw × SV)):Nat->List Yp->List It->Prop
 | _,[],_=>True
 | _,_ :: _,[]=>False
 | i,o :: os,it :: is=>Cert P Q d e X k i b c olds o it/\Certs P Q d e X k b c olds (i+1) os is
def Certs.get:∀ {b:List Yp}{k:List It}{n:Nat},Certs P Q w0 k0 X ops its bl olds n b k->∀(i:Nat) (o:Yp) (it:It),b[i]? = some o->k[i]? = some it->Cert P Q w0 k0 X ops (n+i) its bl olds o it
 | [],_,_,_,i,_,_,h,_=>by simp at h
 | _ :: _,[],_,h,_,_,_,_,_=>h.elim
 | o :: b,it :: k,_,h,0,o',it',ho,hi=>by
  obtain rfl:o=o':=by simpa using ho
  obtain rfl:it=it':=by simpa using hi
  exact h.1
 | o :: b,it :: k,n,h,i+1,o',it',ho,hi=>by
  have:=Certs.get h.2 i o' it' (by simpa using ho) (by simpa using hi);rw[show n+(i+1)=n+1+i by omega];exact this
def Olds(a0:Act)(k:Nat->Nat):List (Zw × SV)->Prop
 | []=>True
 | x :: r=>a0.tmps[x.1]? = some (x.2.at k)/\Olds a0 k r
def Olds.get:∀ {l:List (Zw × SV)},Olds a0 μ0 l->∀(t:Zw) (s:SV),(t,s)∈l->a0.tmps[t]? = some (s.at μ0)
 | [],_,_,_,h=>by cases h
 | x :: r,h,t,s,hm=>by
  rcases Y6.1 hm with e|e
  .subst e;exact h.1
  .exact Olds.get h.2 t s e
def Reg.mk'(chk:allB ops its bl olds a0.tmps.size=true)(old:Olds a0 μ0 olds)(k:Certs P Q w0 k0 X ops its bl olds 0 ops.toList its):Reg P ops Q w0 k0 X its bl olds a0 μ0:=
 ⟨chk,λt s c=>old.get t s c,λi o it ho b=>by have:=k.get i o it (by rw[YE];exact ho) b;rwa[XI]at this⟩
def zM{f:ZQ}{t1:Zw}{v1 v:XB}(g:it.kind=.call)(k:it.out=.v v)(b:∀(a:Act) (w:XA),(Yh a.eval o).run P w=.ok (.enter f #[a.eval (.tmp t1)]) w)(j:∀(μ:Nat->Nat) (a:Act),Known ops i its olds it.need μ a->a.eval (.tmp t1)=v1)(c:∀w,YN P f #[v1] w (rZ w λe w'=>e=v)):Cert P Q w0 k0 X ops i its bl olds o it:=
 AS g f (args:=#[v1]) k (λμ a w d _=>by rw[b,j μ a d]) (λw _=>c w)
def O6{b k:Nat}(c:it.out=.p b 0):it.out.at (upd μ b k)=jZ k:=by
 rw[c];show jZ (upd μ b k b)=_;unfold upd;rw[yEX rfl]
def qW{e:Bl}{T:Yd}(b:Nat)(c:it.kind=.make b)(k:it.out=.p b 0)(d:bl[b]? = some e)(ho:o.op=.alloc T)(f:∀w:XA,(yEp T true (.tuple #[])).run P w=.ok (jZ w.heap.size) (w.alloc (.cells e.before.toArray T))):Cert P Q w0 k0 X ops i its bl olds o it:=by
 refine AQ c e d T λμ a w g _=>?_
 unfold Yh;rw[ho];rw[O6 k];show((yEp T true (.tuple #[])) >>= λv=>pure (ZS v)).run P w=_;rw[X1,f];rfl
def aH{t:Zw}{T:Yd}{b:Nat}{c:List XB}{f:Func}{a:Act}{cs:List (List XB)}{k:List Nat}(j:St w0 k0 X cs k w)(n:f.results=#[.cell t T])(g:cs[b]? = some c)(l:a.tmps[t]? = some (jZ (ad k b)))(e:(P.underlying T).map (·.isRow)=some true)(o:(P.info? T).map (·.size)=some c.length):(results f a.tmps).run P w=.ok (.agg c.toArray) w:=by
 obtain⟨d,e,hd⟩:=XE.1 e;have i:=yAx (P:=P) w (ad k b) 0 T c d (j.has b c g).1 e hd o;have m:a.tmps.getD t Zs=jZ (ad k b):=by rw[XQ,l];rfl
 unfold results;rw[n];simp only[yAa,yBl,yBw,m,asAddr];simp[X1,i]
def St.begin(w:XA):St w w.heap.size [] [] [] w:=⟨BelX.refl _ _ _,XD _,rfl,λb c h=>by simp at h,λb c h=>by simp at h⟩
end RG
namespace RG
variable {P:YJ}{ops:Array Yp}{Q:yAM->Act->XA->Prop}{w0 w:XA}{k0:Nat}{X:List Nat}{its:List It}{bl:List Bl}{olds:List (Zw × SV)}{a0:Act}{i:Nat}{o:Yp}{it:It}
def dA(k:it.kind=.pass)(h:it.out=.v Zs):Cert P Q w0 k0 X ops i its bl olds o it:=by
 intro μ a w K _ _ _;rw[k];exact h
def aX{T:Yd}{t1 t2:Zw}{v1 v2 v:XB}(e:it.kind=.stay)(op:BinOp)(j:Yd)(ho:o.op=.binOp op T (.tmp t1) (.tmp t2) j)(k:it.out=.v v)(f:∀(μ:Nat->Nat) (a:Act),Known ops i its olds it.need μ a->a.eval (.tmp t1)=v1)(g:∀(μ:Nat->Nat) (a:Act),Known ops i its olds it.need μ a->a.eval (.tmp t2)=v2)(d:∀w,(eqGuard op T (.tmp t1) (.tmp t2) v1 v2).run P w=.ok () w)(c:∀w,(binOp op T v1 v2).run P w=.ok v w):Cert P Q w0 k0 X ops i its bl olds o it:=by
 refine dV e λμ a w b _=>?_
 unfold Yh;rw[ho,k];dsimp only;rw[f μ a b,g μ a b,X1,X1,d];dsimp only[yCy];rw[c];rfl
def jH{t:Zw}{v:XB}{k:Func}{a:Act}(c:k.results=#[.tmp t])(b:a.tmps[t]? = some v):(results k a.tmps).run P w=.ok v w:=by
 have d:a.tmps.getD t Zs=v:=by rw[XQ,b];rfl
 unfold results;rw[c];simp only[yAa,yBl,yBw,d];simp[X1]
def cU{t u:Zw}{T:Yd}{b:Nat}{c:List XB}{v:XB}{g:Func}{a:Act}{cs:List (List XB)}{k:List Nat}(i:St w0 k0 X cs k w)(l:g.results=#[.cell t T,.tmp u])(p:cs[b]? = some c)(j:a.tmps[t]? = some (jZ (ad k b)))(e:a.tmps[u]? = some v)(f:(P.underlying T).map (·.isRow)=some true)(m:(P.info? T).map (·.size)=some c.length):(results g a.tmps).run P w=.ok (.tuple #[.agg c.toArray,v]) w:=by
 obtain⟨d,f,hd⟩:=XE.1 f;have n:=yAx (P:=P) w (ad k b) 0 T c d (i.has b c p).1 f hd m;have o:a.tmps.getD t Zs=jZ (ad k b):=by rw[XQ,j];rfl
 have q:a.tmps.getD u Zs=v:=by rw[XQ,e];rfl
 unfold results;rw[l];simp only[yAa,yBl,yBw,o,q,asAddr];simp[X1,n]
end RG
namespace RG
variable {P:YJ}{ops:Array Yp}{Q:yAM->Act->XA->Prop}{w0 w:XA}{k0:Nat}{X:List Nat}{its:List It}{bl:List Bl}{olds:List (Zw × SV)}{a0 a:Act}{i:Nat}{o:Yp}{it:It}{μ:Nat->Nat}
structure Sl(a:Act)(n:Nat):Prop where
 size:a.tmps.size=n
 defers:a.defers=[]
def Sl.puts{n:Nat}(h:Sl a n):Sl (puts μ its a) n:=⟨by rw[Av];exact h.size,by rw[nR];exact h.defers⟩
def BI{t:Zw}{v:XB}(h:a.tmps[t]? = some v):a.eval (.tmp t)=v:=by
 show a.tmps.getD t Zs=v;rw[XQ,h];rfl
def results_none{k:Func}{tmps:Array XB}(b:k.results=#[]):(results k tmps).run P w=.ok (.tuple #[]) w:=by
 unfold results;rw[b];simp
def QC{c:Code}{v0:XB}{n:Nat}(b:a.tmps[0]? = some v0)(k:a.tmps.size=n)(hd:a.defers=[])(h:∀a,Sl a n->a.tmps[0]? = some v0->c.wp P Q a w):c.wp P Q a w:=h a ⟨k,hd⟩ b
def QB{c:Code}{v0 v1:XB}{n:Nat}(d:a.tmps[0]? = some v0)(b:a.tmps[1]? = some v1)(k:a.tmps.size=n)(hd:a.defers=[])(h:∀a,Sl a n->a.tmps[0]? = some v0->a.tmps[1]? = some v1->c.wp P Q a w):c.wp P Q a w:=h a ⟨k,hd⟩ d b
def VS{c:Code}{v0 v1 v2:XB}{n:Nat}(d:a.tmps[0]? = some v0)(b:a.tmps[1]? = some v1)(e:a.tmps[2]? = some v2)(k:a.tmps.size=n)(hd:a.defers=[])(h:∀a,Sl a n->a.tmps[0]? = some v0->a.tmps[1]? = some v1->a.tmps[2]? = some v2->c.wp P Q a w):c.wp P Q a w:=h a ⟨k,hd⟩ d b e
def ET{e:Bl}{T E:Yd}{t1 t2:Zw}{n:Nat}(b:Nat)(j:it.kind=.make b)(f:bl[b]? = some e)(k:it.out=.s b n n)(ho:o.op=.makeSlice T (.tmp t1) (.tmp t2))(l:∀(μ:Nat->Nat) (a:Act),Known ops i its olds it.need μ a->a.eval (.tmp t1)=iZ n)(m:∀(μ:Nat->Nat) (a:Act),Known ops i its olds it.need μ a->a.eval (.tmp t2)=iZ n)(d:∀w:XA,(Instr.makeSlice T (iZ n) (iZ n)).run P w=.ok (sZ w.heap.size n n) (w.alloc (.cells e.before.toArray E))):Cert P Q w0 k0 X ops i its bl olds o it:=by
 refine AQ j e f E λμ a w c _=>?_
 have g:it.out.at (upd μ b w.heap.size)=sZ w.heap.size n n:=by
  rw[k];show sZ (upd μ b w.heap.size b) n n=_;unfold upd;rw[yEX rfl]
 unfold Yh;rw[ho];dsimp only;rw[l μ a c,m μ a c,g,X1,d];rfl
def oI{t:Zw}(c:it.kind=.stay)(s:SV)(v:XB)(k:it.out=.v v)(hx:∀(μ:Nat->Nat) (a:Act),Known ops i its olds it.need μ a->a.eval (.tmp t)=s.at μ)(hE:∀(a:Act) (w:XA),(Yh a.eval o).run P w=(Yh (λ_=>a.eval (.tmp t)) o).run P w)(d:∀(μ:Nat->Nat) (w:XA),(Yh (λ_=>s.at μ) o).run P w=.ok (.value v) w):Cert P Q w0 k0 X ops i its bl olds o it:=by
 refine dV c λμ a w b _=>?_
 rw[hE,hx μ a b,d,k];rfl
def EU{b:Nat}{f:ZQ}{v:XB}(q:it.kind=.call)(e:Bl)(p:bl[b]? = some e)(j:e.al=none)(g:readB ops i e=true)(n:e.before≠[])(args:(Nat->Nat)->Array XB)(c:it.out=.v v)(k:∀(μ:Nat->Nat) (a:Act) (w:XA),Known ops i its olds it.need μ a->(Yh a.eval o).run P w=.ok (.enter f (args μ)) w)(u:∀(μ:Nat->Nat) (w:XA),μ b<w.heap.size->w.rangeAt (μ b) 0 e.before->YN P f (args μ) w (rZ w λr w'=>r=v)):Cert P Q w0 k0 X ops i its bl olds o it:=by
 intro μ a w K y hR _;rw[q];intro h;rw[c]at h;have m:=hR b e p (Ye j) g;have l:μ b<w.heap.size:=by
  cases d:e.before with
  | nil=>exact absurd d n
  | cons x r =>
   have s:=m 0 x (by rw[d];rfl);exact Zo λz=>by
    have t:w.heap[μ b]? = none:=Z0 oM;simp[YZ,t]at s
 unfold Y3;rw[k μ a w y,ZM];refine(u μ w l m).mono ?_;rintro r w' ⟨s,rfl,d,rfl⟩;exact h w' d
def H9{k o:Nat}{C cs:List XB}(h:w.rangeAt k 0 C)(b:∀j,j<cs.length->C[o+j]? = cs[j]?):w.rangeAt k o cs:=λj v hv=>by
 have c:=(XM.1 hv).1;have:=h (o+j) v (by rw[b j c];exact hv);rwa[XI]at this
def cA{t u:Zw}{iv:XB}(b:it.kind=.stay)(T:Yd)(ho:o.op=.indexAddr T (.tmp t) (.tmp u))(s:SV)(hx:∀(μ:Nat->Nat) (a:Act),Known ops i its olds it.need μ a->a.eval (.tmp t)=s.at μ)(c:∀(μ:Nat->Nat) (a:Act),Known ops i its olds it.need μ a->a.eval (.tmp u)=iv)(hf:∀(μ:Nat->Nat) (w:XA),(Yv T (s.at μ) iv).run P w=.ok (it.out.at μ) w):Cert P Q w0 k0 X ops i its bl olds o it:=by
 refine dV b λμ a w k _=>?_
 unfold Yh;rw[ho];dsimp only;rw[hx μ a k,c μ a k,X1,hf];rfl
def eO{t:Zw}(b:it.kind=.stay)(T:Yd)(iv:XB)(ho:o.op=.indexAddr T (.tmp t) (.const iv))(s:SV)(hx:∀(μ:Nat->Nat) (a:Act),Known ops i its olds it.need μ a->a.eval (.tmp t)=s.at μ)(hf:∀(μ:Nat->Nat) (w:XA),(Yv T (s.at μ) iv).run P w=.ok (it.out.at μ) w):Cert P Q w0 k0 X ops i its bl olds o it:=by
 refine dV b λμ a w k _=>?_
 unfold Yh;rw[ho];dsimp only;rw[hx μ a k];show((Yv T (s.at μ) iv) >>= λv=>pure (ZS v)).run P w=_;rw[X1,hf];rfl
def aN{T:Yd}{t1:Zw}{v1 v2 v:XB}(d:it.kind=.stay)(op:BinOp)(g:Yd)(ho:o.op=.binOp op T (.tmp t1) (.const v2) g)(k:it.out=.v v)(e:∀(μ:Nat->Nat) (a:Act),Known ops i its olds it.need μ a->a.eval (.tmp t1)=v1)(c:∀w,(eqGuard op T (.tmp t1) (.const v2) v1 v2).run P w=.ok () w)(f:∀w,(binOp op T v1 v2).run P w=.ok v w):Cert P Q w0 k0 X ops i its bl olds o it:=by
 refine dV d λμ a w b _=>?_
 unfold Yh;rw[ho,k];dsimp only;rw[e μ a b];show(((eqGuard op T (.tmp t1) (.const v2) v1 v2) >>= λ_=>binOp op T v1 v2) >>= λv=>pure (ZS v)).run P w=_;rw[X1,X1,c];dsimp only[yCy];rw[f];rfl
def IJ{S T:Yd}{t:Zw}{v b:XB}(e:it.kind=.stay)(ho:o.op=.convert S T (.tmp t))(k:it.out=.v b)(hx:∀(μ:Nat->Nat) (a:Act),Known ops i its olds it.need μ a->a.eval (.tmp t)=v)(c:∀w,(convert S T v).run P w=.ok b w):Cert P Q w0 k0 X ops i its bl olds o it:=by
 refine dV e λμ a w d _=>?_
 unfold Yh;rw[ho,k];dsimp only;rw[hx μ a d,X1,c];rfl
def OV{t:Zw}{v b:XB}(e:it.kind=.stay)(op:UnOp)(T:Yd)(ho:o.op=.unOp op T (.tmp t))(k:it.out=.v b)(hx:∀(μ:Nat->Nat) (a:Act),Known ops i its olds it.need μ a->a.eval (.tmp t)=v)(c:∀w,(Op.unary op v).run P w=.ok b w):Cert P Q w0 k0 X ops i its bl olds o it:=by
 refine dV e λμ a w d _=>?_
 unfold Yh;rw[ho,k];dsimp only;rw[hx μ a d,X1,c];rfl
def eH{k off:Nat}{T:Yd}{t:Zw}{cs:List XB}(n:it.kind=.stay)(e:k<k0)(l:k ∉ X)(ho:o.op=.load T (.tmp t))(b:it.out=.v (.agg cs.toArray))(hx:∀(μ:Nat->Nat) (a:Act),Known ops i its olds it.need μ a->a.eval (.tmp t)=oZ k off)(f:w0.rangeAt k off cs)(c:(P.underlying T).map (·.isRow)=some true)(g:(P.info? T).map (·.size)=some cs.length):Cert P Q w0 k0 X ops i its bl olds o it:=by
 intro μ a w K p _ m;rw[n];intro h;rw[b]at h;obtain⟨d,c,hd⟩:=XE.1 c;refine wp_load_mid T (.tmp t) ho k off (hx μ a p) cs d (λj v q=>?_) c hd g h;rw[X4 (w:=w0) (a:=⟨k,off+j,none⟩) (m.block k e l)];exact f j v q
def eK{T:Yd}{k off:Nat}{v:XB}(e:w.cell? ⟨k,off,none⟩=some v)(c:(P.underlying T).map (·.isRow)=some false):(yCe T (oZ k off)).run P w=.ok v w:=by
 obtain⟨d,c,hd⟩:=XE.1 c;have b:(isAgg T).run P w=.ok false w:=by
  unfold isAgg;rw[X1,run_underlying c w];cases d<;>simp_all
 simp[yCe,yA3,loadVar,X1,b,e]
def zL{b off:Nat}{e:Bl}{T:Yd}{t:Zw}{v:XB}(m:it.kind=.stay)(l:bl[b]? = some e)(f:e.al=none)(d:readB ops i e=true)(ho:o.op=.load T (.tmp t))(k:it.out=.v v)(hx:∀(μ:Nat->Nat) (a:Act),Known ops i its olds it.need μ a->a.eval (.tmp t)=(SV.p b off).at μ)(c:e.before[off]? = some v)(j:(P.underlying T).map (·.isRow)=some false):Cert P Q w0 k0 X ops i its bl olds o it:=by
 intro μ a w K n hR _;rw[m];intro h;rw[k]at h;have g:=hR b e l (Ye f) d off v c;rw[XI]at g;unfold Y3 Yh;rw[ho];dsimp only;rw[hx μ a n];show o.upon P a K Q (((yCe T (oZ (μ b) off)) >>= λv=>pure (ZS v)).run P w);rw[X1,eK g j];exact h
def xN{T:Yd}{k off:Nat}{v u:XB}(e:w.cell? ⟨k,off,none⟩=some u)(hf:w.frozen? ⟨k,off,none⟩=false)(g:v.oneCell'=true)(hv:v.cells=#[v])(d:(P.info? T).map (·.size)=some 1):(yBE T (oZ k off) v).run P w=.ok () (w.setCells k off [v]):=by
 have:=run_storeCells_cells (P:=P) k off [v] 0 w (λj c=>by
  obtain rfl:j=0:=by simpa using c
  simp[e]) (λj c=>by
  obtain rfl:j=0:=by simpa using c
  simpa using hf) (λx hx=>by
  obtain rfl:x=v:=by simpa using hx
  exact g)
 cases b:P.info? T with
 | none=>simp[b]at d
 | some inf =>
  have f:inf.size=1:=by simp[b]at d;omega
  simp only[yAl]at this;simp[yBE,yA3,storeVar,sizeOf,typeInfo,b,hv,f,this]
def II{b off:Nat}{e:Bl}{T:Yd}{x y:yAe}{v:XB}(s:it.kind=.put b)(r:bl[b]? = some e)(ho:o.op=.store T x y)(d:o.dst=none)(hx:∀(μ:Nat->Nat) (a:Act),Known ops i its olds it.need μ a->a.eval x=(SV.p b off).at μ)(z:∀(μ:Nat->Nat) (a:Act),Known ops i its olds it.need μ a->a.eval y=v)(k:off<e.before.length)(c:e.after=e.before.set off v)(q:(P.info? T).map (·.size)=some 1)(t:v.oneCell'=true)(hv:v.cells=#[v]):Cert P Q w0 k0 X ops i its bl olds o it:=by
 intro μ a w K m _ _;rw[s];intro e' f l p h;rw[r]at f;obtain rfl:e=e':=XX.inj f;have g:PutTo (μ b) e.before.length e.after w (w.setCells (μ b) off [v]):=PutTo.store l p (by simp only[Yx,Zz];omega) (λj=>by
  rw[c,yDG];by_cases n:off=j
  .subst n;rw[yEX rfl,yEX k,yEX (by simp)];simp
  .rw[yEY n,yEY (by simp only[Yx,Zz];omega)])
 have c:=l off k;rw[XI]at c;obtain⟨u,n⟩:=YQ.1 c.1;unfold Y3 Yh;rw[ho];dsimp only;rw[hx μ a m,z μ a m];show o.upon P a K Q (((yBE T (oZ (μ b) off) v) >>= λ_=>pure Next.skip).run P w);rw[X1,xN n c.2 t hv q];have:=h _ g;rw[d]at this;show K (a.put o.dst Zs) _;rw[d];exact this
def mZ{b off:Nat}{T:Yd}{x y:yAe}{vs:List XB}(r:it.kind=.put b)(e:Bl)(q:bl[b]? = some e)(ho:o.op=.store T x y)(f:o.dst=none)(hx:∀(μ:Nat->Nat) (a:Act),Known ops i its olds it.need μ a->a.eval x=(SV.p b off).at μ)(t:∀(μ:Nat->Nat) (a:Act),Known ops i its olds it.need μ a->a.eval y=.agg vs.toArray)(k:off+vs.length<=e.before.length)(c:∀j,e.after[j]? = if off<=j/\j<off+vs.length then vs[j-off]? else e.before[j]?)(p:(P.info? T).map (·.size)=some vs.length)(s:vs.all (·.oneCell')=true):Cert P Q w0 k0 X ops i its bl olds o it:=by
 intro μ a w K m _ _;rw[r];intro e' d l n h;rw[q]at d;obtain rfl:e=e':=XX.inj d;have g:=PutTo.store l n k c;refine wp_store_mid T x y ho (μ b) off vs.toArray (hx μ a m) (t μ a m) ?_ ?_ ?_ ?_
 .intro j u;have:=l (off+j) (by rw[YF]at u;omega);rwa[XI]at this
 .rw[YF];exact p
 .exact all_oneCell_toArray (λv hv=>Yq.1 s v hv)
 .have:=h _ g;rw[f]at this⊢;exact this
def BR{b:Nat}{v:XB}(n:it.kind=.put b)(e:Bl)(m:bl[b]? = some e)(f:ZQ)(args:(Nat->Nat)->Array XB)(d:it.out=.v v)(c:∀(μ:Nat->Nat) (a:Act) (w:XA),Known ops i its olds it.need μ a->BelX k0 X w0 w->(Yh a.eval o).run P w=.ok (.enter f (args μ)) w)(p:∀(μ:Nat->Nat) (w:XA),BelX k0 X w0 w->w.there (μ b) 0 e.before.length->w.rangeAt (μ b) 0 e.before->YN P f (args μ) w (Ret λr w'=>PutTo (μ b) e.before.length e.after w w'/\r=v)):Cert P Q w0 k0 X ops i its bl olds o it:=by
 intro μ a w K q _ k;rw[n];intro e' g j l h;rw[m]at g;obtain rfl:e=e':=XX.inj g;rw[d]at h;unfold Y3;rw[c μ a w q k,ZM];refine(p μ w k j l).mono ?_;rintro r w' ⟨t,rfl,s,rfl⟩;exact h w' s
def St.lent{k:Nat}{C:List XB}(f:k<w.heap.size)(j:w.rangeAt k 0 C)(i:w.there k 0 C.length):St w w.heap.size [k] [C] [k] w:=by
 refine⟨BelX.refl _ _ _,XD _,rfl,λb c h=>?_,λb c g d e=>?_⟩
 .cases b with
  | zero =>
   obtain rfl:C=c:=by simpa using h
   exact⟨j,i,f,X7 YH⟩
  | succ b=>simp at h
 .simp only[Yx,Zz]at g d;omega
def St.putTo{k:Nat}{C:List XB}{cs:List (List XB)}{c:List Nat}{n:Nat}(h:St w0 w0.heap.size [k] (C :: cs) (k :: c) w)(d:C.length=n):PutTo k n C w0 w:=by
 obtain⟨e,g,-,-⟩:=h.has 0 C rfl;refine⟨h.bel.os,h.bel.tape,h.bel.output,h.bel.size,λj f b=>h.bel.block j f (by simpa using b),e,?_⟩;rw[<-d];exact g
def rep(C:List XB)(o:Nat)(vs:List XB):List XB:=C.take o++(vs++C.drop (o+vs.length))
def gK{C vs:List XB}{o:Nat}(h:o+vs.length<=C.length):(rep C o vs).length=C.length:=by
 unfold rep;rw[XK,XK,Z8,yCq];omega
def rep_at{C vs:List XB}{o:Nat}(h:o+vs.length<=C.length)(j:Nat):(rep C o vs)[j]? = if o<=j/\j<o+vs.length then vs[j-o]? else C[j]?:=by
 unfold rep;have k:(C.take o).length=o:=by rw[Z8];omega
 by_cases b:j<o
 .rw[XY (by rw[k];exact b),Zv,yEX b,yEY oM]
 .rw[XW (by rw[k];omega),k];by_cases c:j<o+vs.length
  .rw[XY oM,yEX ⟨oM,c⟩]
  .rw[XW oM,yEY oM,yB4]
   congr 1
   omega
def QL{C cs:List XB}{o:Nat}(h:∀j,j<cs.length->C[o+j]? = cs[j]?)(b:o+cs.length<=C.length):(C.drop o).take cs.length=cs:=by
 apply yA8;intro j;by_cases k:j<cs.length
 .rw[Zv,yEX k,yB4,h j k]
 .rw[ZK (by rw[Z8,yCq];omega),ZK oM]
def Ag{e:Bl}{t1 t2 j:Zw}{v2 d:XB}(b:Nat)(p:it.kind=.put b)(n:bl[b]? = some e)(f:ZQ)(s1:SV)(v:XB)(c:it.out=.v v)(k:∀(a:Act) (w:XA),(Yh a.eval o).run P w=.ok (.enter f #[a.eval (.tmp t1),a.eval (.tmp t2),a.eval (.tmp j)]) w)(q:∀(μ:Nat->Nat) (a:Act),Known ops i its olds it.need μ a->a.eval (.tmp t1)=s1.at μ)(s:∀(μ:Nat->Nat) (a:Act),Known ops i its olds it.need μ a->a.eval (.tmp t2)=v2)(u:∀(μ:Nat->Nat) (a:Act),Known ops i its olds it.need μ a->a.eval (.tmp j)=d)(t:∀(μ:Nat->Nat) (w:XA),w.there (μ b) 0 e.before.length->w.rangeAt (μ b) 0 e.before->YN P f #[s1.at μ,v2,d] w (Ret λr w'=>PutTo (μ b) e.before.length e.after w w'/\r=v)):Cert P Q w0 k0 X ops i its bl olds o it:=
 BR p e n f (λμ=>#[s1.at μ,v2,d]) c (λμ a w g _=>by rw[k,q μ a g,s μ a g,u μ a g]) (λμ w _ l m=>t μ w l m)
def Df{e:Bl}{t1 t2:Zw}{v2:XB}(n:it.kind=.call)(b:Nat)(m:bl[b]? = some e)(g:e.al=none)(d:readB ops i e=true)(l:e.before≠[])(f:ZQ)(s1:SV)(v:XB)(c:it.out=.v v)(k:∀(a:Act) (w:XA),(Yh a.eval o).run P w=.ok (.enter f #[a.eval (.tmp t1),a.eval (.tmp t2)]) w)(p:∀(μ:Nat->Nat) (a:Act),Known ops i its olds it.need μ a->a.eval (.tmp t1)=s1.at μ)(q:∀(μ:Nat->Nat) (a:Act),Known ops i its olds it.need μ a->a.eval (.tmp t2)=v2)(s:∀(μ:Nat->Nat) (w:XA),μ b<w.heap.size->w.rangeAt (μ b) 0 e.before->YN P f #[s1.at μ,v2] w (rZ w λr w'=>r=v)):Cert P Q w0 k0 X ops i its bl olds o it:=
 EU n e m g d l (λμ=>#[s1.at μ,v2]) c (λμ a w j=>by rw[k,p μ a j,q μ a j]) s
end RG
namespace RG
variable {P:YJ}{ops:Array Yp}{Q:yAM->Act->XA->Prop}{w0 w:XA}{k0:Nat}{X:List Nat}{its:List It}{bl:List Bl}{olds:List (Zw × SV)}{a:Act}{i:Nat}{o:Yp}{it:It}
def uY{T:Yd}{t:Zw}{b v c:XB}(e:it.kind=.stay)(ho:o.op=.slice T (.tmp t) (some (.const b)) none none)(k:it.out=.v c)(hx:∀(μ:Nat->Nat) (a:Act),Known ops i its olds it.need μ a->a.eval (.tmp t)=v)(hf:∀w:XA,(Zy T v (some b) none none).run P w=.ok c w):Cert P Q w0 k0 X ops i its bl olds o it:=by
 refine dV e λμ a w d _=>?_
 unfold Yh;rw[ho,k];dsimp only;rw[hx μ a d];show((Zy T v (some b) none none) >>= λv=>pure (ZS v)).run P w=_;rw[X1,hf];rfl
def De{T:Yd}{t:Zw}{v b:XB}(d:it.kind=.stay)(ho:o.op=.sliceToArrayPointer T (.tmp t))(k:it.out=.v b)(hx:∀(μ:Nat->Nat) (a:Act),Known ops i its olds it.need μ a->a.eval (.tmp t)=v)(hf:∀w:XA,(Instr.arrayAt T v).run P w=.ok b w):Cert P Q w0 k0 X ops i its bl olds o it:=by
 refine dV d λμ a w c _=>?_
 unfold Yh;rw[ho,k];dsimp only;rw[hx μ a c,X1,hf];rfl
def eI{k off:Nat}{T:Yd}{t:Zw}{v:XB}(j:it.kind=.stay)(c:k<k0)(f:k ∉ X)(ho:o.op=.load T (.tmp t))(b:it.out=.v v)(hx:∀(μ:Nat->Nat) (a:Act),Known ops i its olds it.need μ a->a.eval (.tmp t)=oZ k off)(d:w0.cell? ⟨k,off,none⟩=some v)(e:(P.underlying T).map (·.isRow)=some false):Cert P Q w0 k0 X ops i its bl olds o it:=by
 refine dV j λμ a w m g=>?_
 have l:w.cell? ⟨k,off,none⟩=some v:=by
  rw[X4 (w:=w0) (a:=⟨k,off,none⟩) (g.block k c f)];exact d
 unfold Yh;rw[ho,b];dsimp only;rw[hx μ a m,X1,eK l e];rfl
def vE{f:ZQ}{t1 t2:Zw}{v1 v2 v:XB}(d:it.kind=.call)(b:it.out=.v v)(k:∀(a:Act) (w:XA),(Yh a.eval o).run P w=.ok (.enter f #[a.eval (.tmp t1),a.eval (.tmp t2)]) w)(g:∀(μ:Nat->Nat) (a:Act),Known ops i its olds it.need μ a->a.eval (.tmp t1)=v1)(j:∀(μ:Nat->Nat) (a:Act),Known ops i its olds it.need μ a->a.eval (.tmp t2)=v2)(l:∀w,BelX k0 X w0 w->YN P f #[v1,v2] w (rZ w λe w'=>e=v)):Cert P Q w0 k0 X ops i its bl olds o it:=
 AS d f b (λμ a w c _=>by rw[k,g μ a c,j μ a c]) l
def dJ{v k:XB}{b:Func}{a:Act}(t u:Zw)(f:b.results=#[.tmp t,.tmp u])(e:a.tmps[t]? = some v)(g:a.tmps[u]? = some k):(results b a.tmps).run P w=.ok (.tuple #[v,k]) w:=by
 have d:a.tmps.getD t Zs=v:=by rw[XQ,e];rfl
 have c:a.tmps.getD u Zs=k:=by rw[XQ,g];rfl
 unfold results;rw[f];simp only[yAa,yBl,yBw,d,c];simp[X1]
end RG
namespace RG
variable {P:YJ}{ops:Array Yp}{Q:yAM->Act->XA->Prop}{w0 w:XA}{k0 n:Nat}{X:List Nat}{its:List It}{bl:List Bl}{os:List (Zw × SV)}{a:Act}{i:Nat}{o:Yp}{it:It}{μ:Nat->Nat}{need:List (Zw × Nat)}
def src(c:Array Yp)(b:List It)(d:List (Zw × SV))(k:List (Zw × Nat))(i:Nat)(t:Zw):Option SV:=
 match k.find? (λx=>x.1 == t) with
 | some x=>(b[x.2]?).map (·.out)
 | none=>match d.find? (λx=>x.1 == t) with
  | some x=>bif GG c b i t then some x.2 else none
  | none=>none
def nK{t:Zw}{s:SV}(h:src ops its os need i t=some s)(K:Known ops i its os need μ a):a.eval (.tmp t)=s.at μ:=by
 unfold src at h;cases k:need.find? (λx=>x.1 == t) with
 | some x =>
  rw[k]at h;dsimp only at h;have b:=ZC k;have c:x.1=t:=by simpa using yAR k
  obtain⟨e,d,rfl⟩:=XE.1 h;exact K.op t x.2 (by rw[<-c];exact b) d
 | none =>
  rw[k]at h;dsimp only at h;cases ho:os.find? (λx=>x.1 == t) with
  | none=>rw[ho]at h;cases h
  | some x =>
   rw[ho]at h;dsimp only at h;have b:=ZC ho;have c:x.1=t:=by simpa using yAR ho
   cases hf:GG ops its i t with
   | false=>rw[hf]at h;cases h
   | true =>
    rw[hf]at h;obtain rfl:x.2=s:=XX.inj h;exact K.old t x.2 (by rw[<-c];exact b) hf
def sx{t:Zw}{f:(Nat->Nat)->XB}(h:∀μ:Nat->Nat,(src ops its os need i t).map (λs=>s.at μ)=some (f μ):=by intro _;kernel_rfl):∀(μ:Nat->Nat) (a:Act),Known ops i its os need μ a->a.eval (.tmp t)=f μ:=λμ _ K=>by
 obtain⟨s,b,k⟩:=XE.1 (h μ);rw[nK b K];exact k
def ro(b:Array Yp)(c:List It)(d:List (Zw × SV))(k:List (Zw × Nat))(i:Nat)(μ:Nat->Nat):yAe->XB
 | .tmp t=>match src b c d k i t with|some s=>s.at μ|none=>Zs
 | .const v=>v
 | .global g=>jZ g
 | .func f=>.func (.func f) #[] #[]
def seen(b:Array Yp)(c:List It)(d:List (Zw × SV))(k:List (Zw × Nat))(i:Nat)(o:Yp):Bool:=
 (match o.op with | .select _ _=>false|_=>true) && o.op.operands.all (λx=>match x with | .tmp t=>(src b c d k i t).isSome|_=>true)
def pK(h:seen ops its os need i o=true)(K:Known ops i its os need μ a):Yh a.eval o=Yh (ro ops its os need i μ) o:=by
 simp only[seen,XV]at h;refine execOp_congr o (λcs b d=>?_) (λx hx=>?_)
 .rw[d]at h;exact absurd h.1 (by simp)
 .have c:=ZJ.1 h.2 x hx;cases x with
  | tmp t =>
   dsimp only at c;obtain⟨s,k⟩:=YQ.1 c;rw[nK k K];show _=(match src ops its os need i t with|some s=>s.at μ|none=>Zs);rw[k]
  | const v=>rfl
  | global g=>rfl
  | func f=>rfl
def st(h:∀(μ:Nat->Nat) (w:XA),((seen ops its os it.need i o,it.kind),(Yh (ro ops its os it.need i μ) o).run P w)=((true,Kind.stay),.ok (.value (it.out.at μ)) w):=by intro _ _;kernel_rfl):Cert P Q w0 k0 X ops i its bl os o it:=by
 intro μ a w K d _ c;have k:=h μ w;simp only[Ze.injEq]at k;rw[k.1.2];intro b;unfold Y3;rw[pK k.1.1 d,k.2];exact b
def se{v c:XB}(e:c=v)(h:∀(μ:Nat->Nat) (w:XA),((seen ops its os it.need i o,it.kind,it.out),(Yh (ro ops its os it.need i μ) o).run P w)=((true,Kind.stay,SV.v v),.ok (.value c) w):=by intro _ _;kernel_rfl):Cert P Q w0 k0 X ops i its bl os o it:=by
 intro μ a w K f _ d;have k:=h μ w;simp only[Ze.injEq]at k;rw[k.1.2.1];intro b;rw[k.1.2.2]at b;unfold Y3;rw[pK k.1.1 f,k.2,e];exact b
def mk(b:Nat)(T:Yd)(h:∀(μ:Nat->Nat) (w:XA),((seen ops its os it.need i o,it.kind),(Yh (ro ops its os it.need i μ) o).run P w)=((true,Kind.make b),.ok (.value (it.out.at (upd μ b w.heap.size))) (w.alloc (.cells (((bl[b]?).map (·.before)).getD []).toArray T))):=by intro _ _;kernel_rfl):Cert P Q w0 k0 X ops i its bl os o it:=by
 intro μ a w K d _ c;have k:=h μ w;simp only[Ze.injEq]at k;rw[k.1.2];intro e f g;unfold Y3;rw[pK k.1.1 d,k.2,f];exact g _ _ (Made.alloc w e.before T)
def clB{f:ZQ}{args:Array XB}{v:XB}(h:∀(μ:Nat->Nat) (w:XA),((seen ops its os it.need i o,it.kind,it.out),(Yh (ro ops its os it.need i μ) o).run P w)=((true,Kind.call,SV.v v),.ok (.enter f args) w))
 (g:∀w,BelX k0 X w0 w->YN P f args w (rZ w λe w'=>e=v)):Cert P Q w0 k0 X ops i its bl os o it:=by
 intro μ a w K j _ k;have b:=h μ w;simp only[Ze.injEq]at b;rw[b.1.2.1];intro c;rw[b.1.2.2]at c;unfold Y3;rw[pK b.1.1 j,b.2,ZM];refine(g w k).mono ?_;rintro e w' ⟨l,rfl,d,rfl⟩;exact c w' d
def cl{f:ZQ}{args:Array XB}{v:XB}(k:∀w,YN P f args w (rZ w λe w'=>e=v))(h:∀(μ:Nat->Nat) (w:XA),((seen ops its os it.need i o,it.kind,it.out),(Yh (ro ops its os it.need i μ) o).run P w)=((true,Kind.call,SV.v v),.ok (.enter f args) w):=by intro _ _;kernel_rfl):Cert P Q w0 k0 X ops i its bl os o it:=
 clB h (λw _=>k w)
def cm(b:Nat){f:ZQ}{args:Array XB}{c:List XB}(v:∀w,BelX k0 X w0 w->YN P f args w (Ret λe w'=>∃k,Made w k c w'/\e=it.out.at (λ_=>k)))
 (h:∀(μ:Nat->Nat) (w:XA),((seen ops its os it.need i o,it.kind,(bl[b]?).map (·.before),it.out.blk),(Yh (ro ops its os it.need i μ) o).run P w)=((true,Kind.make b,some c,some b),.ok (.enter f args) w)):Cert P Q w0 k0 X ops i its bl os o it:=by
 intro μ a w K x _ d;have j:=h μ w;simp only[Ze.injEq]at j;obtain⟨⟨t,u,l,n⟩,y⟩:=j;rw[u];intro e p s;rw[p]at l;obtain rfl:e.before=c:=XX.inj l;unfold Y3;rw[pK t x,y,ZM];refine(v w d).mono ?_;rintro r w' ⟨z,rfl,k,q,rfl⟩;have m:it.out.at (upd μ b k)=it.out.at (λ_=>k):=SV.at_congr λB g=>by
  rw[n]at g;obtain rfl:=XX.inj g;unfold upd;rw[yEX rfl]
 have:=s k w' q;rw[m]at this;exact this
def BU(k:Array Yp)(i:Nat)(o:Yp)(c:List Bl)(b:Nat):Bool:=match c[b]? with
 | some e=>(match e.al with|none=>true|some j=>cO o j) && readB k i e
 | none=>false
def Seen(c:List Bl)(k:List Nat)(μ:Nat->Nat)(w:XA):Prop:=∀b∈k,∀e:Bl,c[b]? = some e->e.before≠[]->w.rangeAt (μ b) 0 e.before/\μ b<w.heap.size
def NE{g:List Nat}(ho:ops[i]? = some o)(h:g.all (BU ops i o bl)=true)(hR:Reads ops i bl μ w):Seen bl g μ w:=λb n e f d=>by
 have k:=Yq.1 h b n;unfold BU at k;rw[f]at k;dsimp only at k;rw[XV]at k;have l:=hR b e f (by
  cases c:e.al with
  | none=>exact Ye rfl
  | some j=>rw[c]at k;exact X7 ⟨o,j,ho,rfl,k.1⟩) k.2
 refine⟨l,?_⟩;cases c:e.before with
 | nil=>exact absurd c d
 | cons x r =>
  have p:=l 0 x (by rw[c];rfl);exact Zo λq=>by
   have m:w.heap[μ b]? = none:=Z0 oM;simp[YZ,m]at p
def cr(b:List Nat){f:ZQ}{args:(Nat->Nat)->Array XB}{v:XB}(p:∀(μ:Nat->Nat) (w:XA),BelX k0 X w0 w->Seen bl b μ w->YN P f (args μ) w (rZ w λe w'=>e=v))
 (h:∀(μ:Nat->Nat) (w:XA),((seen ops its os it.need i o,it.kind,it.out,b.all (BU ops i o bl),ops[i]?),(Yh (ro ops its os it.need i μ) o).run P w)=((true,Kind.call,SV.v v,true,some o),.ok (.enter f (args μ)) w)):Cert P Q w0 k0 X ops i its bl os o it:=by
 intro μ a w K q hR k;have d:=h μ w;simp only[Ze.injEq]at d;obtain⟨⟨m,n,s,j,g⟩,r⟩:=d;rw[n];intro c;rw[s]at c;unfold Y3;rw[pK m q,r,ZM];refine(p μ w k (NE g j hR)).mono ?_;rintro e w' ⟨t,rfl,l,rfl⟩;exact c w' l
def ldv(k:Array Yp)(c:List It)(d:List Bl)(f:List (Zw × SV))(i:Nat)(o:Yp)(it:It)(T:Yd)(n:Nat):Option SV:=
 match it.kind,o.op with
 | .stay,.load T' (.tmp t)=>match src k c f it.need i t with
  | some (.p b off)=>match d[b]? with
   | some e=>bif T' == T && e.al.isNone && readB k i e && (off+n).ble e.before.length then some (.v (.agg ((e.before.drop off).take n).toArray)) else none
   | none=>none
  | _=>none
 | _,_=>none
def ld{T:Yd}{n:Nat}(m:(P.underlying T).map (·.isRow)=some true)(l:(P.info? T).map (·.size)=some n)(h:ldv ops its bl os i o it T n=some it.out:=by kernel_rfl):Cert P Q w0 k0 X ops i its bl os o it:=by
 unfold ldv at h;split at h
 .rename_i T' t hk ho
  split at h
  .rename_i b off hs
   split at h
   .rename_i e hb
    cases c:(T' == T && e.al.isNone && readB ops i e && (off+n).ble e.before.length) with
    | false=>rw[c]at h;cases h
    | true =>
     rw[c]at h;have g:=h;simp only[XV,beq_iff_eq,Option.isNone_iff_eq_none,yEL]at c;obtain⟨⟨⟨rfl,d⟩,j⟩,f⟩:=c;have k:((e.before.drop off).take n).length=n:=by rw[Z8,yCq];omega
     refine pU hk (off:=off) e hb d j ho (XX.inj g).symm (λ_ _ K=>nK hs K) ?_ m (by rw[k];exact l);rw[k]
   .cases h
  .cases h
 .cases h
def ptv(k:Array Yp)(c:List It)(f:List Bl)(d:List (Zw × SV))(i:Nat)(o:Yp)(it:It)(T:Yd)(n:Nat):Option (List XB):=
 match it.kind,o.op,o.dst with
 | .put b,.store T' (.tmp x) (.tmp y),none=>match src k c d it.need i x,src k c d it.need i y with
  | some (.p b' off),some (.v (.agg vs))=>match f[b]? with
   | some e=>bif T' == T && b' == b && vs.size == n && (off+n).ble e.before.length && vs.toList.all (·.oneCell') then some (rep e.before off vs.toList) else none
   | none=>none
  | _,_=>none
 | _,_,_=>none
def pt{T:Yd}{n:Nat}(q:(P.info? T).map (·.size)=some n)(h:((ptv ops its bl os i o it T n).isSome,ptv ops its bl os i o it T n)=(true,match it.kind with | .put b=>(bl[b]?).map (·.after)|_=>none):=by kernel_rfl):Cert P Q w0 k0 X ops i its bl os o it:=by
 simp only[Ze.injEq]at h;obtain⟨k,h⟩:=h;rw[h]at k;unfold ptv at h;split at h
 .rename_i b T' x y hk ho hdn
  rw[hk]at h k;dsimp only at h k;cases g:bl[b]? with
  | none=>rw[g]at k;cases k
  | some e =>
   rw[g]at h;split at h
   .rename_i b' off vs hx hy
    dsimp only at h;cases f:(T' == T && b' == b && vs.size == n && (off+n).ble e.before.length && vs.toList.all (·.oneCell')) with
    | false=>rw[f]at h;cases h
    | true =>
     rw[f]at h;have p:some (rep e.before off vs.toList)=some e.after:=h;simp only[XV,beq_iff_eq,yEL]at f;obtain⟨⟨⟨⟨rfl,rfl⟩,l⟩,d⟩,m⟩:=f;have c:vs.toList.length=n:=by rw[Array.length_toList];exact l
     refine mZ (off:=off) hk e g ho hdn (λ_ _ K=>nK hx K) (λ_ _ K=>?_) (by rw[c];exact d) (λj=>?_) (by rw[c];exact q) m
     .rw[Array.toArray_toList];exact nK hy K
     .rw[<-XX.inj p,rep_at (by rw[c];exact d)]
   .cases h
 .rw[<-h]at k;cases k
def aft(pu:List (Nat × Nat × List XB))(b:Nat)(c:List XB):List XB:=match pu.find? (λx=>x.1 == b) with|some x=>x.2.2|none=>c
def sto(pu:List (Nat × Nat × List XB))(b:Nat):Option Nat:=(pu.find? (λx=>x.1 == b)).map (·.2.1)
def olB(pu:List (Nat × Nat × List XB)):Nat->List (List XB)->List Bl
 | _,[]=>[]
 | b,c :: r=>⟨c,aft pu b c,none,sto pu b⟩ :: olB pu (b+1) r
def mkB(pu:List (Nat × Nat × List XB)):Nat->List (Nat × List XB)->List Bl
 | _,[]=>[]
 | b,c :: r=>⟨c.2,aft pu b c.2,some c.1,sto pu b⟩ :: mkB pu (b+1) r
def bls(cs:List (List XB))(mk:List (Nat × List XB))(pu:List (Nat × Nat × List XB)):List Bl:=olB pu 0 cs++mkB pu cs.length mk
def rO(pu:List (Nat × Nat × List XB)):∀(cs:List (List XB)) (b:Nat),(olB pu b cs).length=cs.length
 | [],_=>rfl
 | c :: r,b=>by rw[olB,Yx,rO pu r,Yx]
def Gn(pu:List (Nat × Nat × List XB)):∀(cs:List (Nat × List XB)) (b:Nat),(mkB pu b cs).length=cs.length
 | [],_=>rfl
 | c :: r,b=>by rw[mkB,Yx,Gn pu r,Yx]
def yC(pu:List (Nat × Nat × List XB)):∀(cs:List (List XB)) (b:Nat),(olB pu b cs).map (·.before)=cs
 | [],_=>rfl
 | c :: r,b=>by rw[olB,Z7,yC pu r]
def yG(pu:List (Nat × Nat × List XB)):∀(cs:List (Nat × List XB)) (b:Nat),(mkB pu b cs).map (·.before)=cs.map (·.2)
 | [],_=>rfl
 | c :: r,b=>by rw[mkB,Z7,yG pu r,Z7]
def Gf{pu:List (Nat × Nat × List XB)}:∀(cs:List (List XB)) (b j:Nat) (e:Bl),(olB pu b cs)[j]? = some e->e.al=none/\e.after=aft pu (b+j) e.before/\e.st=sto pu (b+j)
 | [],_,_,_,h=>by simp[olB]at h
 | c :: r,b,0,e,h=>by
  rw[olB,Yi]at h;obtain rfl:=XX.inj h;exact⟨rfl,rfl,rfl⟩
 | c :: r,b,j+1,e,h=>by
  rw[olB,Yg]at h;have:=Gf r (b+1) j e h;rwa[show b+1+j=b+(j+1) by omega]at this
def Gp(pu:List (Nat × Nat × List XB)):∀(cs:List (Nat × List XB)) (b j:Nat) (e:Bl),(mkB pu b cs)[j]? = some e->(∃x∈cs,e.al=some x.1)/\e.after=aft pu (b+j) e.before/\e.st=sto pu (b+j)
 | [],_,_,_,h=>by simp[mkB]at h
 | c :: r,b,0,e,h=>by
  rw[mkB,Yi]at h;obtain rfl:=XX.inj h;exact⟨⟨c,YH,rfl⟩,rfl,rfl⟩
 | c :: r,b,j+1,e,h=>by
  rw[mkB,Yg]at h;obtain⟨⟨x,hx,k⟩,d⟩:=Gp pu r (b+1) j e h;refine⟨⟨x,Yo _ hx,k⟩,?_⟩;rwa[show b+1+j=b+(j+1) by omega]at d
variable {cs cs':List (List XB)}{mk:List (Nat × List XB)}{pu:List (Nat × Nat × List XB)}{ks:List Nat}
def BX:(bls cs mk pu).length=cs.length+mk.length:=by rw[bls,XK,rO,Gn]
def zP:(bls cs mk pu).map (·.before)=cs++mk.map (·.2):=by rw[bls,Y1,yC,yG]
def wR{b:Nat}{e:Bl}(h:(bls cs mk pu)[b]? = some e):e.after=aft pu b e.before/\e.st=sto pu b/\((b<cs.length/\e.al=none)\/(cs.length<=b/\∃x∈mk,e.al=some x.1)):=by
 unfold bls at h;by_cases k:b<cs.length
 .rw[XY (by rw[rO];exact k)]at h;have:=Gf cs 0 b e h;rw[XI]at this;exact⟨this.2.1,this.2.2,Ye ⟨k,this.1⟩⟩
 .rw[XW (by rw[rO];omega),rO]at h;have:=Gp pu mk cs.length (b-cs.length) e h;rw[show cs.length+(b-cs.length)=b by omega]at this;exact⟨this.2.1,this.2.2,X7 ⟨oM,this.1⟩⟩
def AU:nJ (bls cs mk pu) cs.length=true:=by
 simp only[nJ,XV,decide_eq_true_eq];refine⟨Yq.2 λx hx=>?_,by rw[BX];omega⟩;rw[yBe]at hx;rcases(wR hx).2.2 with⟨b,k⟩|⟨b,y,-,k⟩
 .rw[k];simp[b]
 .rw[k];simp;omega
def inB(m:Nat)(mk:List (Nat × List XB))(pu:List (Nat × Nat × List XB)):Bool:=mk.all (λx=>x.1.blt m) && pu.all (λx=>x.2.1.blt m)
def G6(h:inB its.length mk pu=true)(m:pu.map (λx=>x.2.2.length)=pu.map (λx=>(((cs++mk.map (·.2))[x.1]?).getD []).length)):
 (∀e∈bls cs mk pu,∀j,e.al=some j\/e.st=some j->j<its.length)/\∀e∈bls cs mk pu,e.fin.length=e.before.length:=by
 simp only[inB,XV]at h;refine⟨λe d j k=>?_,λe d=>?_⟩
 .obtain⟨b,c⟩:=ZA d;obtain⟨i,g,l⟩:=wR c;rcases k with k|k
  .rcases l with⟨-,f⟩|⟨-,x,hx,f⟩
   .rw[f]at k;cases k
   .rw[f]at k;obtain rfl:=XX.inj k;have:=Yq.1 h.1 x hx;exact Z6 (YL this)
  .rw[g]at k;unfold sto at k;obtain⟨x,hx,rfl⟩:=XE.1 k;have:=Yq.1 h.2 x (ZC hx);exact Z6 (YL this)
 .obtain⟨b,c⟩:=ZA d;obtain⟨i,g,-⟩:=wR c;unfold Bl.fin;rw[g,i];unfold sto aft;cases f:pu.find? (λx=>x.1 == b) with
  | none=>rfl
  | some x =>
   show x.2.2.length=_;have n:=ZC f;have hx:x.1=b:=by simpa using yAR f
   have l:=yCb.1 m x n;rw[l,<-zP (pu:=pu),hx,YB,c];rfl
def lk(k:List It)(b:List (Zw × SV))(t:Zw):Option SV:=
 match k.find? (λit=>it.dst == some t) with
 | some it=>some it.out
 | none=>(b.find? (λx=>x.1 == t)).map (·.2)
structure M(w0:XA)(k0:Nat)(X:List Nat)(n:Nat)(cs:List (List XB))(ks:List Nat)(os:List (Zw × SV))(a:Act)(w:XA):Prop where
 st:St w0 k0 X cs ks w
 sl:Sl a n
 os:Olds a (ad ks) os
def All:Nat->(List Nat->Prop)->Prop
 | 0,f=>f []
 | n+1,f=>∀k:Nat,All n λl=>f (k :: l)
def All.get:∀ {n:Nat}{f:List Nat->Prop},All n f->∀l:List Nat,l.length=n->f l
 | 0,f,h,l,hl=>by rw[List.length_eq_zero_iff.1 hl];exact h
 | n+1,f,h,[],hl=>by simp at hl
 | n+1,f,h,k :: l,hl=>All.get (h k) l (by simpa using hl)
def O5{s:SV}{new:List Nat}(h:∀b,s.blk=some b->b<ks.length):s.at (ad (ks++new))=s.at (ad ks):=SV.at_congr λb k=>by
 unfold ad;rw[Z9,Z9,XY (h b k)]
def Olds.mk'{μ:Nat->Nat}:∀ {l:List (Zw × SV)},(∀x∈l,a.tmps[x.1]? = some (x.2.at μ))->Olds a μ l
 | [],_=>trivial
 | x :: r,h=>⟨h x YH,Olds.mk' λy k=>h y (Yo _ k)⟩
def M.next{d:List (Zw × SV)}{new:List Nat}{w':XA}(h:M w0 k0 X n cs ks os a w)(k:allB ops its (bls cs mk pu) os n=true)(o:(d.map λx=>lk its os x.1)=d.map λx=>some x.2)
 (u:St w0 k0 X cs' (ks++new) w'):M w0 k0 X n cs' (ks++new) d (puts (ad (ks++new)) its a) w':=by
 refine⟨u,h.sl.puts,Olds.mk' λx hx=>?_⟩;have l:=yCb.1 o x hx;simp only[allB,XV,beq_iff_eq]at k;obtain⟨⟨⟨⟨E,hd⟩,g⟩,r⟩,v⟩:=k;unfold lk at l;cases hf:its.find? (λit=>it.dst == some x.1) with
 | some it =>
  rw[hf]at l;have f:=ZC hf;have c:it.dst=some x.1:=by simpa using yAR hf
  obtain⟨j,m⟩:=ZA f;have i:=Yq.1 r it f;rw[c]at i;have:=tC (μ:=(ad (ks++new))) its a j it x.1 hd m c (by rw[h.sl.size];simpa using i);rw[this,<-XX.inj l]
 | none =>
  rw[hf]at l;obtain⟨y,t,q⟩:=XE.1 l;have f:=ZC t;have m:y.1=x.1:=by simpa using yAR t
  have C:=h.os.get y.1 y.2 f;rw[mN _ its a x.1 (λit s p=>by
   have:=List.find?_eq_none.1 hf it s;rw[p]at this;simp at this),<-m,C,<-q]
  congr 1
  refine(O5 λb B=>?_).symm;have c:=Yq.1 g y f;rw[B]at c;dsimp only at c;cases i:(bls cs mk pu)[b]? with
  | none=>rw[i]at c;cases c
  | some e =>
   rw[i]at c;rcases(wR i).2.2 with⟨A,-⟩|⟨-,z,-,D⟩
   .rw[h.st.len];exact A
   .dsimp only at c;rw[D]at c;simp at c
def M.reg(h:M w0 k0 X n cs ks os a w)(k:allB ops its (bls cs mk pu) os n=true)(b:Certs P Q w0 k0 X ops its (bls cs mk pu) os 0 ops.toList its):Reg P ops Q w0 k0 X its (bls cs mk pu) os a (ad ks):=
 Reg.mk' (by rw[h.sl.size];exact k) h.os b
def Di:((bls cs mk pu).map (·.before)).take cs.length=cs:=by rw[zP,List.take_left'];rfl
def M.tx{id:Nat}(h:M w0 k0 X n cs ks os a w)(k:List It)(mk:List (Nat × List XB))(pu:List (Nat × Nat × List XB))(c:List (List XB))(b:List (Zw × SV))
 (e:(allB ops k (bls cs mk pu) os n && inB k.length mk pu,(bls cs mk pu).map Bl.fin,b.map λx=>lk k os x.1)=(true,c,b.map λx=>some x.2))
 (g:pu.map (λx=>x.2.2.length)=pu.map (λx=>(((cs++mk.map (·.2))[x.1]?).getD []).length))
 (m:Certs P Q w0 k0 X ops k (bls cs mk pu) os 0 ops.toList k)
 (p:All mk.length λnew=>∀d w',M w0 k0 X n c (ks++new) b d w'->Q .normal d w'):(Zd id ops false).wp P Q a w:=by
 simp only[Ze.injEq,XV]at e;obtain⟨⟨d,l⟩,o,j⟩:=e;refine region_text' h.st (h.reg d m) AU Di (G6 l g) λnew w' f i=>?_
 rw[BX,ZE]at f;exact p.get new f _ _ (h.next d j (o ▸ i))
def M.dr{id:Nat}(h:M w0 k0 X n cs ks os a w)(l:P.follows .mixedOrders=true)(k:List It)(mk:List (Nat × List XB))(pu:List (Nat × Nat × List XB))(c:List (List XB))(b:List (Zw × SV))
 (e:(allB ops k (bls cs mk pu) os n && inB k.length mk pu,(bls cs mk pu).map Bl.fin,b.map λx=>lk k os x.1)=(true,c,b.map λx=>some x.2))
 (g:pu.map (λx=>x.2.2.length)=pu.map (λx=>(((cs++mk.map (·.2))[x.1]?).getD []).length))
 (o:Certs P Q w0 k0 X ops k (bls cs mk pu) os 0 ops.toList k)
 (q:All mk.length λnew=>∀d w',M w0 k0 X n c (ks++new) b d w'->Q .normal d w'):(Zd id ops true).wp P Q a w:=by
 simp only[Ze.injEq,XV]at e;obtain⟨⟨d,m⟩,p,j⟩:=e;refine region_draws' l h.st (h.reg d o) AU Di (G6 m g) λnew w' f i=>?_
 rw[BX,ZE]at f;exact q.get new f _ _ (h.next d j (p ▸ i))
def O3:(bls cs [] []).map Bl.fin=cs:=by
 have h:∀(cs:List (List XB)) (b:Nat),(olB [] b cs).map Bl.fin=cs:=λcs=>by
  induction cs with
  | nil=>intro _;rfl
  | cons c r ih=>intro b;rw[olB,Z7,ih];rfl
 rw[bls,Y1,h];exact yAk _
def M.tx0{id:Nat}(h:M w0 k0 X n cs ks os a w)(k:List It)(b:List (Zw × SV))(d:(allB ops k (bls cs [] []) os n,b.map λx=>lk k os x.1)=(true,b.map λx=>some x.2))
 (e:Certs P Q w0 k0 X ops k (bls cs [] []) os 0 ops.toList k) (g:∀c w',M w0 k0 X n cs ks b c w'->Q .normal c w'):(Zd id ops false).wp P Q a w:=by
 simp only[Ze.injEq]at d;refine h.tx k [] [] cs b (by simp only[d.1,d.2,O3];rfl) rfl e (λc w' f=>g c w' ?_);rwa[yAk]at f
def M.t{id:Nat}(h:M w0 k0 X n cs ks os a w)(k:List It)(mk:List (Nat × List XB))(pu:List (Nat × Nat × List XB))(c:List (List XB))(b:List (Zw × SV))(e:Certs P Q w0 k0 X ops k (bls cs mk pu) os 0 ops.toList k)(i:All mk.length λnew=>∀d w',M w0 k0 X n c (ks++new) b d w'->Q .normal d w')(f:(allB ops k (bls cs mk pu) os n && inB k.length mk pu,(bls cs mk pu).map Bl.fin,b.map λx=>lk k os x.1)=(true,c,b.map λx=>some x.2):=by kernel_rfl)(g:pu.map (λx=>x.2.2.length)=pu.map (λx=>(((cs++mk.map (·.2))[x.1]?).getD []).length):=by kernel_rfl):(Zd id ops false).wp P Q a w:=h.tx k mk pu c b f g e i
def M.d{id:Nat}(h:M w0 k0 X n cs ks os a w)(k:List It)(mk:List (Nat × List XB))(pu:List (Nat × Nat × List XB))(c:List (List XB))(b:List (Zw × SV))(e:Certs P Q w0 k0 X ops k (bls cs mk pu) os 0 ops.toList k)(i:All mk.length λnew=>∀d w',M w0 k0 X n c (ks++new) b d w'->Q .normal d w')(f:(allB ops k (bls cs mk pu) os n && inB k.length mk pu,(bls cs mk pu).map Bl.fin,b.map λx=>lk k os x.1)=(true,c,b.map λx=>some x.2):=by kernel_rfl)(g:pu.map (λx=>x.2.2.length)=pu.map (λx=>(((cs++mk.map (·.2))[x.1]?).getD []).length):=by kernel_rfl)(j:P.follows .mixedOrders=true:=by kernel_rfl):(Zd id ops true).wp P Q a w:=h.dr j k mk pu c b f g e i
def M.u{id:Nat}(h:M w0 k0 X n cs ks os a w)(k:List It)(b:List (Zw × SV))(d:Certs P Q w0 k0 X ops k (bls cs [] []) os 0 ops.toList k)(f:∀c w',M w0 k0 X n cs ks b c w'->Q .normal c w')(e:(allB ops k (bls cs [] []) os n,b.map λx=>lk k os x.1)=(true,b.map λx=>some x.2):=by kernel_rfl):(Zd id ops false).wp P Q a w:=h.tx0 k b e d f
def M.at(h:M w0 k0 X n cs ks os a w){t:Zw}{s:SV}(c:(os.find? (λx=>x.1 == t)).map (·.2)=some s:=by kernel_rfl):a.tmps[t]? = some (s.at (ad ks)):=by
 obtain⟨y,b,rfl⟩:=XE.1 c;have k:y.1=t:=by simpa using yAR b
 rw[<-k];exact h.os.get y.1 y.2 (ZC b)
def St.made{w w':XA}{cs:List (List XB)}{k:List Nat}(h:St w w.heap.size [] cs k w'){b:Nat}{c:List XB}(g:cs[b]? = some c):Made w (ad k b) c w':=by
 obtain⟨f,i,e,d⟩:=h.has b c g;exact⟨h.bel.below,d.elim id (λh=>absurd h Yf),e,f,i⟩
def M.av(h:M w0 k0 X n cs ks os a w){t:Zw}{v:XB}(k:(os.find? (λx=>x.1 == t)).map (·.2)=some (.v v):=by kernel_rfl):a.tmps[t]? = some v:=h.at k
def M.ev(h:M w0 k0 X n cs ks os a w){t:Zw}{v:XB}(k:(os.find? (λx=>x.1 == t)).map (·.2)=some (.v v):=by kernel_rfl):a.eval (.tmp t)=v:=BI (h.at k)
def M.enter{c:Code}(k:List (Zw × SV))(n:Nat)(h:(k.map λx=>a.tmps[x.1]?,a.tmps.size,a.defers)=(k.map λx=>some (x.2.at (ad [])),n,[]))(b:∀a,M w w.heap.size [] n [] [] k a w->c.wp P Q a w):c.wp P Q a w:=by
 simp only[Ze.injEq]at h;exact b a ⟨St.begin w,⟨h.2.1,h.2.2⟩,Olds.mk' λx hx=>yCb.1 h.1 x hx⟩
abbrev z(n:Nat):List XB:=List.replicate n (uZ 0)
def It.s(d:Zw)(k:List (Zw × Nat))(b:SV):It:=⟨some d,k,b,.stay⟩
def It.x(d:Zw)(k:List (Zw × Nat))(v:XB):It:=⟨some d,k,.v v,.stay⟩
def It.c(d:Zw)(k:List (Zw × Nat))(v:XB):It:=⟨some d,k,.v v,.call⟩
def It.u(k:List (Zw × Nat))(b:Nat):It:=⟨none,k,.v Zs,.put b⟩
end RG
namespace RG
variable {P:YJ}{ops:Array Yp}{Q:yAM->Act->XA->Prop}{w0 w:XA}{k0 n:Nat}{X ks:List Nat}{cs:List (List XB)}{os:List (Zw × SV)}{a:Act}
inductive Hh where
 | x (v:XB)
 | c (v:XB)
 | s (v:SV)
 | m (b:Nat)
 | u (b:Nat)
def nd(k:Array Yp)(i:Nat):List (Zw × Nat):=
 match k[i]? with
 | none=>[]
 | some o=>o.op.operands.toList.filterMap λx=>match x with
  | .tmp t=>((YA i).find? λj=>match k[j]? with|some p=>p.dst == some t && cO o j|none=>false).map λj=>(t,j)
  | _=>none
def dt(k:Array Yp)(i:Nat):Option Zw:=(k[i]?).bind (·.dst)
def Hh.it(k:Array Yp)(i:Nat):Hh->It
 | .x v=>⟨dt k i,nd k i,.v v,.stay⟩
 | .c v=>⟨dt k i,nd k i,.v v,.call⟩
 | .s v=>⟨dt k i,nd k i,v,.stay⟩
 | .m b=>⟨dt k i,nd k i,.p b 0,.make b⟩
 | .u b=>⟨none,nd k i,.v Zs,.put b⟩
def mkL(k:Array Yp):Nat->List Hh->List It
 | _,[]=>[]
 | i,h :: r=>h.it k i :: mkL k (i+1) r
def kps(k:List It)(b:List (Zw × SV))(l:List Zw):List (Zw × SV):=l.filterMap λt=>(lk k b t).map λs=>(t,s)
def M.U{id:Nat}(h:M w0 k0 X n cs ks os a w)(k:List Hh)(b:List Zw)(d:Certs P Q w0 k0 X ops (mkL ops 0 k) (bls cs [] []) os 0 ops.toList (mkL ops 0 k))(f:∀c w',M w0 k0 X n cs ks (kps (mkL ops 0 k) os b) c w'->Q .normal c w')(e:(allB ops (mkL ops 0 k) (bls cs [] []) os n,(kps (mkL ops 0 k) os b).map λx=>lk (mkL ops 0 k) os x.1)=(true,(kps (mkL ops 0 k) os b).map λx=>some x.2):=by kernel_rfl):(Zd id ops false).wp P Q a w:=h.u _ _ d f e
def M.T{id:Nat}(h:M w0 k0 X n cs ks os a w)(k:List Hh)(mk:List (Nat × List XB))(pu:List (Nat × Nat × List XB))(b:List (List XB))(c:List Zw)(e:Certs P Q w0 k0 X ops (mkL ops 0 k) (bls cs mk pu) os 0 ops.toList (mkL ops 0 k))(i:All mk.length λnew=>∀d w',M w0 k0 X n b (ks++new) (kps (mkL ops 0 k) os c) d w'->Q .normal d w')(f:(allB ops (mkL ops 0 k) (bls cs mk pu) os n && inB (mkL ops 0 k).length mk pu,(bls cs mk pu).map Bl.fin,(kps (mkL ops 0 k) os c).map λx=>lk (mkL ops 0 k) os x.1)=(true,b,(kps (mkL ops 0 k) os c).map λx=>some x.2):=by kernel_rfl)(g:pu.map (λx=>x.2.2.length)=pu.map (λx=>(((cs++mk.map (·.2))[x.1]?).getD []).length):=by kernel_rfl):(Zd id ops false).wp P Q a w:=h.t _ mk pu b _ e i f g
def M.D{id:Nat}(h:M w0 k0 X n cs ks os a w)(k:List Hh)(mk:List (Nat × List XB))(pu:List (Nat × Nat × List XB))(b:List (List XB))(c:List Zw)(e:Certs P Q w0 k0 X ops (mkL ops 0 k) (bls cs mk pu) os 0 ops.toList (mkL ops 0 k))(i:All mk.length λnew=>∀d w',M w0 k0 X n b (ks++new) (kps (mkL ops 0 k) os c) d w'->Q .normal d w')(f:(allB ops (mkL ops 0 k) (bls cs mk pu) os n && inB (mkL ops 0 k).length mk pu,(bls cs mk pu).map Bl.fin,(kps (mkL ops 0 k) os c).map λx=>lk (mkL ops 0 k) os x.1)=(true,b,(kps (mkL ops 0 k) os c).map λx=>some x.2):=by kernel_rfl)(g:pu.map (λx=>x.2.2.length)=pu.map (λx=>(((cs++mk.map (·.2))[x.1]?).getD []).length):=by kernel_rfl)(j:P.follows .mixedOrders=true:=by kernel_rfl):(Zd id ops true).wp P Q a w:=h.d _ mk pu b _ e i f g j
end RG
namespace NT
def IsP(n:Nat):Prop:=2<=n/\∀m,m ∣ n->m=1\/m=n
def IsP.cop{p k:Nat}(h:IsP p)(b:0<k)(c:k<p):yCw p k:=by
 unfold yCw;rcases h.2 _ (yCs p k)with e|e
 .exact e
 .have:=yAQ b (yCg p k);omega
def IsP.cop_of{p k:Nat}(h:IsP p)(b:¬p ∣ k):yCw p k:=by
 unfold yCw;rcases h.2 _ (yCs p k)with e|e
 .exact e
 .exact absurd (e ▸ yCg p k) b
def IsP.euclid{p a b:Nat}(h:IsP p)(hd:p ∣ a*b):p ∣ a\/p ∣ b:=by
 by_cases k:p ∣ a
 .exact Ye k
 .exact X7 ((h.cop_of k).dvd_of_dvd_mul_left hd)
/-! the binomials -/
def ch: Nat -> Nat -> Nat
  | _, 0 => 1
  | 0, _ + 1 => 0
  | n + 1, k + 1 => ch n k + ch n (k + 1)
def sE(n:Nat):ch n 0=1:=by cases n<;>rfl
def sF:∀(n k:Nat),n<k->ch n k=0
 | 0,k+1,_=>rfl
 | n+1,k+1,h=>by
  rw[ch,sF n k oM,sF n (k+1) oM]
def GT:∀(n:Nat),ch n n=1
 | 0=>rfl
 | n+1=>by rw[ch,GT n,sF n (n+1) oM]
def wM:∀(n k:Nat),(k+1)*ch (n+1) (k+1)=(n+1)*ch n k
 | 0,0=>rfl
 | 0,k+1=>by simp[ch]
 | n+1,0=>by
  have h:=wM n 0;have e:ch (n+1+1) (0+1)=ch (n+1) 0+ch (n+1) (0+1):=rfl;rw[sE]at h;rw[e,sE];omega
 | n+1,k+1=>by
  have b:=wM n k;have c:=wM n (k+1);have e:ch (n+1+1) (k+1+1)=ch (n+1) (k+1)+ch (n+1) (k+1+1):=rfl;have e3:ch (n+1) (k+1)=ch n k+ch n (k+1):=rfl;rw[e,yA1,c];have:(k+1+1)*ch (n+1) (k+1)=(n+1)*ch n k+ch (n+1) (k+1):=by
   rw[<-b,yAs (k+1) 1,ZV]
  rw[this,e3,yAs (n+1) 1,ZV,yA1];omega
def sumTo:Nat->(Nat->Nat)->Nat
 | 0,_=>0
 | n+1,f=>sumTo n f+f n
def sumTo_congr(f g:Nat->Nat):∀n,(∀k,k<n->f k=g k)->sumTo n f=sumTo n g
 | 0,_=>rfl
 | n+1,h=>by
  rw[sumTo,sumTo,sumTo_congr f g n (λk b=>h k oM),h n oM]
def Am(f g:Nat->Nat):∀n,sumTo n (λk=>f k+g k)=sumTo n f+sumTo n g
 | 0=>rfl
 | n+1=>by simp only[sumTo];rw[Am f g n];omega
def Ak(a:Nat)(f:Nat->Nat):∀n,sumTo n (λk=>a*f k)=a*sumTo n f
 | 0=>rfl
 | n+1=>by simp only[sumTo];rw[Ak a f n,yA1]
def kC{f:Nat->Nat}:∀n,sumTo (n+1) f=f 0+sumTo n (λk=>f (k+1))
 | 0=>by simp[sumTo]
 | n+1=>by rw[sumTo,kC (f:=f) n];simp only[sumTo];omega
def Al{p:Nat}{f:Nat->Nat}:∀n,(∀k,k<n->p ∣ f k)->p ∣ sumTo n f
 | 0,_=>Nat.dvd_zero p
 | n+1,h=>Nat.dvd_add (Al n (λk b=>h k oM)) (h n oM)
def Qj(a:Nat):∀n,(a+1)^n=sumTo (n+1) (λk=>ch n k*a^k)
 | 0=>by simp[sumTo,ch]
 | n+1=>by
  rw[Zf,Qj a n,yA1,Z5];rw[kC (f:=(λk=>ch (n+1) k*a^k)) (n+1)];have e:sumTo (n+1) (λk=>ch (n+1) (k+1)*a^(k+1))
   = sumTo (n+1) (λk=>a*(ch n k*a^k))+sumTo (n+1) (λk=>ch n (k+1)*a^(k+1)):=by
   rw[<-Am];refine sumTo_congr _ _ _ ?_;intro k _;show(ch n k+ch n (k+1))*a^(k+1)=_;rw[yAs,Zf];have:ch n k*(a^k*a)=a*(ch n k*a^k):=by
    rw[YK a,yAo]
   rw[this]
  rw[e,Ak];have c:sumTo (n+1) (λk=>ch n k*a^k)
   = ch n 0*a^0+sumTo n (λk=>ch n (k+1)*a^(k+1)):=kC n
  have e3:sumTo (n+1) (λk=>ch n (k+1)*a^(k+1))=sumTo n (λk=>ch n (k+1)*a^(k+1)):=by
   rw[sumTo,sF n (n+1) oM,yDu,yAl]
  have b:ch (n+1) 0*a^0=ch n 0*a^0:=by rw[sE,sE]
  rw[e3,b,YK _ a];omega
def IsP.ch_dvd{p k:Nat}(h:IsP p)(b:k+1<p):p ∣ ch p (k+1):=by
 obtain⟨n,rfl⟩:∃n,p=n+1:=⟨p-1,oN h.1⟩
 have e:=wM n k;have hd:(n+1) ∣ (k+1)*ch (n+1) (k+1):=e ▸ Nat.dvd_mul_right _ _;exact(h.cop oM b).dvd_of_dvd_mul_left hd
def IsP.frob{p:Nat}(h:IsP p)(a:Nat):(a+1)^p%p=(a^p+1)%p:=by
 obtain⟨n,rfl⟩:∃n,p=n+1:=⟨p-1,oN h.1⟩
 rw[Qj,sumTo,kC,GT,sE];obtain⟨c,b⟩:(n+1) ∣ sumTo n (λk=>ch (n+1) (k+1)*a^(k+1)):=
  Al _ (λk d=>Nat.dvd_mul_right_of_dvd (h.ch_dvd oM) _)
 rw[b];have:1*a^0+(n+1)*c+1*a^(n+1)=(a^(n+1)+1)+(n+1)*c:=by
  rw[yBd];omega
 rw[this,yBs]
def IsP.fermat{p:Nat}(h:IsP p):∀a,a^p%p=a%p
 | 0=>by
  rw[yEq (oN h.1)]
 | a+1=>by
  rw[h.frob,yB2,h.fermat a,<-yB2]
def IsP.cancel{p a x y:Nat}(h:IsP p)(d:¬p ∣ a)(e:a*x%p=a*y%p):x%p=y%p:=by
 have key:∀x y,y<=x->a*x%p=a*y%p->x%p=y%p:=by
  intro x y k e;have b:=yAt (Nat.sub_mod_eq_zero_of_mod_eq e);rw[<-Nat.mul_sub]at b;obtain⟨c,f⟩:=(h.cop_of d).dvd_of_dvd_mul_left b;have:x=y+p*c:=oM;rw[this,yBs]
 rcases yEr y x with k|k
 .exact key x y k e
 .exact(key y x k e.symm).symm
def IsP.fermat1{p:Nat}(h:IsP p)(a:Nat)(k:¬p ∣ a):a^(p-1)%p=1:=by
 obtain⟨n,rfl⟩:∃n,p=n+1:=⟨p-1,oN h.1⟩
 have e:=h.fermat a;rw[Zf,YK]at e;have:=h.cancel k (x:=a^n) (y:=1) (by rw[e,Z5]);rw[Nat.add_sub_cancel,this,X6 h.1]
/-! powers that are 1 -/
def N3{b r:Nat}(hr : 1<r)(x y : Nat): b^x%r=1 -> b^y%r=1 -> b^(yDM x y)%r=1:=by
  induction x, y using yDM.induction with
  | H0 n => intro _ h; rw[Nat.gcd_zero_left]; exact h
  | H1 m n hm ih =>
    intro h1 h2;rw[Nat.gcd_rec];refine ih ?_ h1;have e : b^n=(b^m)^(n/m) * b^(n%m):=by
      rw[<-yCu, <-yAP, Nat.div_add_mod]
    rw[e, yAW, yDl, h1, Nat.one_pow, X6 hr, ZV, yEB]at h2;exact h2
def rY:∀n,2<=n->∃r,IsP r/\r ∣ n/\(IsP n\/r*r<=n):=by
 intro n;induction n using yD5 with
 | _ n ih =>
  intro q;by_cases l:IsP n
  .exact⟨n,l,Nat.dvd_refl n,Ye l⟩
  .have:∃m,m ∣ n/\m≠1/\m≠n:=by
    refine Zo λd=>l ⟨q,λm c=>?_⟩
    refine Zo λb=>d ⟨m,c,λe=>b (Ye e),λe=>b (X7 e)⟩
   obtain⟨m,⟨k,d⟩,t,u⟩:=this;have p:m≠0:=by intro e;rw[e,yDu]at d;omega
   have s:k≠0:=by intro e;rw[e,Nat.mul_zero]at d;omega
   have o:k≠1:=by intro e;rw[e,Z5]at d;omega
   have j:m<n:=by
    have:=yAQ oM (⟨k,d⟩:m ∣ n);omega
   have i:k<n:=by
    have:=Nat.mul_le_mul_right k (show 2<=m by omega);omega
   rcases yEr m k with f|f
   .obtain⟨r,g,b,_⟩:=ih m j oM;have c:=yAQ oM b;refine⟨r,g,yB1 b ⟨k,d⟩,X7 ?_⟩;rw[d];exact ZD c (XH c f)
   .obtain⟨r,g,b,_⟩:=ih k i oM;have c:=yAQ oM b;refine⟨r,g,yB1 b ⟨m,by rw[d,YK]⟩,X7 ?_⟩;rw[d];exact ZD (XH c f) c
/-! what of a prime of n - 1 goes into the primes of n -/
def part{n q a r : Nat}(hq : IsP q)(hr : IsP r)(hrn : r ∣ n)(hn : 1<n)
    (h1 : a^(n-1)%n=1) (hd : q ∣ n-1) (h2 : yDM (a^((n-1)/q)%n + (n-1)) n=1) : q ∣ r-1:=by
  have hr2:=hr.1;have toR : ∀x y, x%n=y%n -> x%r=y%r:=by
    intro x y e;rw[<-yB7 x hrn, e, yB7 y hrn]
  have hm : a^(n-1)%r=1:=by
    have:=toR (a^(n-1)) 1 (by rw[h1, X6 hn]);rw[this, X6 hr2]
  have hra : ¬r ∣ a:=by
    intro hc;have hz : a^(n-1)%r=0:=yA2 (yB1 hc (by
      have : a^1 ∣ a^(n-1):=yD6 a oM;rwa[yBv]at this))
    omega
  have hb : (a^((n-1)/q))^q%r=1:=by
    rw[<-yCu, Nat.div_mul_cancel hd]; exact hm
  have hbr : ¬r ∣ a^((n-1)/q):=by
    intro hc;have : r ∣ (a^((n-1)/q))^q:=yB1 hc (by
      have : (a^((n-1)/q))^1 ∣ (a^((n-1)/q))^q:=yD6 _ (by have:=hq.1; omega);rwa[yBv]at this)
    have:=yA2 this;omega
  have hg:=N3 hr2 q (r-1) hb (hr.fermat1 _ hbr);rcases hq.2 _ (yCs q (r-1))with e|e
  · rw[e, yBv]at hg
    exfalso;have hx : r ∣ a^((n-1)/q)%n + (n-1):=by
      refine yAt ?_;have e1 : (a^((n-1)/q)%n)%r=1:=by rw[yB7 _ hrn]; exact hg
      have e2 : (n-1 + 1)%r=0:=by
        rw[Nat.sub_add_cancel oM]; exact yA2 hrn
      have : (a^((n-1)/q)%n + (n-1))%r=(1 + (n-1))%r:=by
        rw[yB2, e1, yB2 1 (n-1), X6 hr2]
      rw[this, Nat.add_comm, e2]
    have:=Nat.dvd_gcd hx hrn;rw[h2]at this;have:=yAQ oM this;omega
  · rw[<-e]; exact yCg _ _
def Cy{n f:Nat}(e:1<n)(hf:n<(f+1)*(f+1))
 (k:∀r,IsP r->r ∣ n->f ∣ r-1):IsP n:=by
 obtain⟨r,c,b,h|h⟩:=rY n e
 .exact h
 .have:=yAQ (oN c.1) (k r c b);have d:f+1<=r:=oN c.1;have:=ZD d d;omega
/-! trial -/
def trial(n : Nat): Nat -> Nat -> Bool
  | 0, _ => true
  | k + 1, d => (n%d != 0) && trial n k (d + 1)
def Cf{n:Nat}:∀k d,trial n k d=true->∀m,d<=m->m<d+k->¬m ∣ n
 | 0,_,_,m,_,_=>oM
 | k+1,d,h,m,h1,h2=>by
  simp only[trial,XV,bne_iff_ne,ne_eq]at h;rcases Zp d m with b|c
  .exact Cf k (d+1) h.2 m b oM
  .have:m=d:=oM;subst this;intro hd;exact h.1 (yA2 hd)
def small{n k:Nat}(d:2<=n)(e:trial n k 2=true)(j:n<(k+2)*(k+2)):IsP n:=by
 obtain⟨r,f,c,h|h⟩:=rY n d
 .exact h
 .have g:=f.1;have b:r<2+k:=by
   refine Zo λi=>?_
   have:=ZD (show k+2<=r by omega) (show k+2<=r by omega);omega
  exact absurd c (Cf k 2 e r g b)
/-! powers, reckoned -/
def pm(n : Nat): Nat -> Nat -> Nat -> Nat -> Nat
  | 0, _, _, acc => acc
  | k + 1, a, e, acc => pm n k (a * a%n) (e/2) (if e%2=1 then acc * a%n else acc)
def FX(n:Nat):∀k a e b,e<2^k->b<n->pm n k a e b=b*a^e%n
 | 0,a,e,b,h,ha=>by
  have:e=0:=by simpa using h
  subst this;rw[pm,yBd,Z5,X6 ha]
 | k+1,a,e,b,h,ha=>by
  have g:0<n:=oM;have c:(if e%2=1 then b*a%n else b)<n:=by
   split
   .exact Y8 _ g
   .exact ha
  rw[pm,FX n k _ _ _ (by rw[Zf]at h;omega) c];have d:∀y,y*(a*a%n)^(e/2)%n=y*(a*a)^(e/2)%n:=by
   intro y;rw[yAW,<-yDl,<-yAW]
  rw[d];have f:a^e=a^(e%2)*(a*a)^(e/2):=by
   have:(a*a)=a^2:=by rw[Zf,yBv]
   rw[this,<-yCu,<-yAP,Nat.mod_add_div]
  rw[f];split
  .rename_i h1
   rw[h1,yBv,yAW,yEB,<-yAW,yAo]
  .rename_i h1
   have:e%2=0:=oM;rw[this,yBd,ZV]
def part'{n q a r k:Nat}(f:IsP q)(g:IsP r)(c:r ∣ n)(b:1<n)(i:n<2^k)
 (d:pm n k a (n-1) 1=1) (hd:(n-1)%q=0) (e:yDM (pm n k a ((n-1)/q) 1+(n-1)) n=1):q ∣ r-1:=by
 rw[FX n k a (n-1) 1 oM b,ZV]at d;rw[FX n k a _ 1 (Nat.lt_of_le_of_lt (Nat.div_le_self _ _) oM) b,ZV]at e;exact part f g c b d (yAt hd) e
/-! the two primes -/
def x21: IsP 1627771:=small (k:=1275) dC dK dC
def x30:IsP 545358713:=small (k:=23352) dC dK dC
def x26:IsP 44706919:=small (k:=6686) dC dK dC
def x17:IsP 120233:=small (k:=346) dC dK dC
def x27:IsP 107590001:=small (k:=10372) dC dK dC
def x23:IsP 7240687:=small (k:=2690) dC dK dC
def x16:IsP 96557:=small (k:=310) dC dK dC
def x39:IsP 297159362677:=
 Cy (f:=1627771) dC dK (λr b hd=>part' (k:=39) (a:=2) x21 b hd dC dK dK dK dK)
def c95:IsP 29047611873442575647497758179:=
 Cy (f:=(545358713*297159362677)) dC dK (λr b hd=>ZH dK (part' (k:=95) (a:=2) x30 b hd dC dK dK dK dK) (part' (k:=95) (a:=2) x39 b hd dC dK dK dK dK))
def b68:IsP 174723607534414371449:=
 Cy (f:=(44706919*120233)) dC dK (λr b hd=>ZH dK (part' (k:=68) (a:=2) x26 b hd dC dK dK dK dK) (part' (k:=68) (a:=2) x17 b hd dC dK dK dK dK))
def c109:IsP 341948486974166000522343609283189:=
 Cy (f:=29047611873442575647497758179) dC dK (λr b hd=>part' (k:=109) (a:=2) c95 b hd dC dK dK dK dK)
def pN:IsP 115792089237316195423570985008687907852837564279074904382605163141518161494337:=
 Cy (f:=(174723607534414371449*341948486974166000522343609283189)) dC dK (λr b hd=>ZH dK (part' (k:=256) (a:=2) b68 b hd dC dK dK dK dK) (part' (k:=256) (a:=2) c109 b hd dC dK dK dK dK))
def e128:IsP 255515944373312847190720520512484175977:=
 Cy (f:=(107590001*7240687*96557)) dC dK (λr b hd=>ZH dK (ZH dK (part' (k:=128) (a:=2) x27 b hd dC dK dK dK dK) (part' (k:=128) (a:=2) x23 b hd dC dK dK dK dK)) (part' (k:=128) (a:=2) x16 b hd dC dK dK dK dK))
def Wx:IsP 205115282021455665897114700593932402728804164701536103180137503955397371:=
 Cy (f:=255515944373312847190720520512484175977) dC dK (λr b hd=>part' (k:=237) (a:=2) e128 b hd dC dK dK dK dK)
def pP:IsP 115792089237316195423570985008687907853269984665640564039457584007908834671663:=
 Cy (f:=205115282021455665897114700593932402728804164701536103180137503955397371) dC dK (λr b hd=>part' (k:=256) (a:=2) Wx b hd dC dK dK dK dK)
end NT
namespace EC
structure Line{P:Nat}[NeZero P](x1 y1 x2 y2 l:Fin P):Prop where
 go:y2=y1+l*(x2-x1)
 on:l*(y1+y2)=x1^2+x1*x2+x2^2
variable {P:Nat}[NeZero P]
def CJ{k c d g l b f:Fin P}(m:c^2=k^3+7)(n:g^2=d^3+7)(i:Line k c d g l)(hx:b=l^2-k-d)(j:f=l*(k-b)-c):f^2=b^3+7:=by
 obtain⟨e,h⟩:=i;subst j hx e
 grobner
def O8(k g b c i f j n d l e m:Fin P)(o:Line k g b j i)(r:Line b j c n f)
 (q:d=i^2-k-b) (p:l=i*(k-d)-g) (u:e=f^2-b-c) (s:m=f*(b-e)-j) :
 ((l-n)^2-(d+c)*(d-c)^2)*(e-k)^2=((m-g)^2-(k+e)*(e-k)^2)*(d-c)^2:=by
 obtain⟨t,v⟩:=o;obtain⟨e3,w⟩:=r;subst p s q u e3 t
 grobner
def O7(c e d k m j n g b i f l:Fin P)(o:Line c e d n m)(r:Line d n k g j)
 (q:b=m^2-c-d) (p:i=m*(c-b)-e) (u:f=j^2-d-k) (s:l=j*(d-f)-n) :
 ((i-g)^2-(k+b)*(b-k)^2)*((l-e)*(b-k)-(i-g)*(f-c))+(b-k)^2*(((i-g)*k-g*(b-k))*(f-c)-((l-e)*c-e*(f-c))*(b-k))=0:=by
 obtain⟨t,v⟩:=o;obtain⟨e3,w⟩:=r;subst p s q u e3 t
 grobner (ringSteps:=100000000)
def Mq(b g c k i f j e d l:Fin P)(m:Line b g c j i)(p:Line c j k e f)
 (o:k=i^2-b-c) (n:e=i*(b-k)-g) (s:d=f^2-c-k) (q:l=f*(c-d)-j) :
 (9*k^4-8*k*e^2)*(d-b)^2=((l-g)^2-(b+d)*(d-b)^2)*(4*e^2):=by
 obtain⟨r,t⟩:=m;obtain⟨e3,u⟩:=p;subst q s n o r
 grobner (ringSteps:=100000000)
def Mo(c e d k i g j b f l:Fin P)(m:Line c e d j i)(p:Line d j k b g)
 (o:k=i^2-c-d) (n:b=i*(c-k)-e) (s:f=g^2-d-k) (q:l=g*(d-f)-j) :
 (3*k^2*(k*(4*b^2)-(9*k^4-8*k*b^2))-2*b^2*(4*b^2))*(f-c)=((l-e)*(c*(4*b^2)-(9*k^4-8*k*b^2))-e*(f-c)*(4*b^2))*(2*b):=by
 obtain⟨r,t⟩:=m;obtain⟨e3,u⟩:=p;subst q s n o r
 grobner (ringSteps:=100000000)
end EC
namespace EC
variable {P:Nat}[NeZero P]
def val_zero:(0:Fin P).val=0:=by simp
def val_one(h:NT.IsP P):(1:Fin P).val=1:=by
 have k:=h.1;show 1%P=1;exact X6 oM
def nzd(h:NT.IsP P){a b:Fin P}(e:a*b=0):a=0\/b=0:=by
 have c:a.val*b.val%P=0:=by
  have:=congrArg yDV e;rw[yAG,val_zero]at this;exact this
 rcases h.euclid (yAt c)with k|k
 .exact Ye (yA0 (by rw[val_zero];exact yBB k a.isLt))
 .exact X7 (yA0 (by rw[val_zero];exact yBB k b.isLt))
def cG(h:NT.IsP P){a b:Fin P}(k:a≠0)(c:b≠0):a*b≠0:=λe=>(nzd h e).elim k c
def cancel(h:NT.IsP P){a b c:Fin P}(d:a≠0)(e:b*a=c*a):b=c:=by
 have f:(b-c)*a=0:=by grobner
 rcases nzd h f with k|k
 .grobner
 .exact absurd k d
def inv(a:Fin P):Fin P:=Fin.ofNat P (a.val^(P-2))
def inv_mul(h:NT.IsP P){a:Fin P}(k:a≠0):inv a*a=1:=by
 apply yA0;have c:=h.1;have b:¬P ∣ a.val:=λhd=>k (yA0 (by rw[val_zero];exact yBB hd a.isLt))
 rw[yAG,val_one h];show a.val^(P-2)%P*a.val%P=1;rw[yD7,<-Zf,show(P-2).succ=P-1 by omega];exact h.fermat1 _ b
abbrev Pt(P:Nat):=Option (Fin P × Fin P)
def On:Pt P->Prop
 | none=>True
 | some (x,y)=>y^2=x^3+7
def neg:Pt P->Pt P
 | none=>none
 | some (x,y)=>some (x,-y)
def nN(k b c d:Fin P):Fin P:=if k=c then 3*k^2*inv (2*b) else(d-b)*inv (c-k)
def third(k c b l:Fin P):Pt P:=some (l^2-k-b,l*(k-(l^2-k-b))-c)
def add:Pt P->Pt P->Pt P
 | none,b=>b
 | a,none=>a
 | some (x1,y1),some (x2,y2)=>if x1=x2/\y2 = -y1 then none else third x1 y1 x2 (nN x1 y1 x2 y2)
def qM(h:NT.IsP P){x b k:Fin P}(c:b^2=x^3+7)(d:k^2=x^3+7)(ho:¬k = -b):k=b:=by
 have e:(k-b)*(k+b)=0:=by grobner
 rcases nzd h e with e|e
 .grobner
 .exact absurd (by grobner) ho
def wY{x k:Fin P}(h:NT.IsP P)(b:(2:Fin P)≠0)(ho:¬(x=x/\k = -k)):2*k≠0:=λe=>by
 rcases nzd h e with e|e
 .exact b e
 .exact ho ⟨rfl,by rw[e];grobner⟩
def bT(h:NT.IsP P)(g:(2:Fin P)≠0){k d b c:Fin P}(i:d^2=k^3+7)(f:c^2=b^3+7)(ho:¬(k=b/\c = -d)):Line k d b c (nN k d b c):=by
 unfold nN;by_cases hx:k=b
 .subst hx;rw[yEX rfl];have l:=qM h i f (λe=>ho ⟨rfl,e⟩);subst l;have j:=inv_mul h (wY h g ho);exact⟨by grobner,by grobner⟩
 .rw[yEY hx];have hd:b-k≠0:=λe=>hx (by grobner)
  have j:=inv_mul h hd;refine⟨by grobner,cancel h hd (by grobner)⟩
def CS(h:NT.IsP P)(i:(2:Fin P)≠0){b c k d l m:Fin P}(f:c^2=b^3+7)(g:d^2=k^3+7)(ho:¬(b=k/\d = -c))(L:Line b c k d l)(M:Line b c k d m):l=m:=by
 obtain⟨o,b1⟩:=L;obtain⟨a2,n⟩:=M;by_cases hx:b=k
 .subst hx;have j:=qM h f g (λe=>ho ⟨rfl,e⟩);subst j;exact cancel h (wY h i ho) (by grobner)
 .have hd:k-b≠0:=λe=>hx (by grobner)
  exact cancel h hd (by grobner)
def cC(h:NT.IsP P)(f:(2:Fin P)≠0){b k c d l:Fin P}(g:k^2=b^3+7)(e:d^2=c^3+7)(ho:¬(b=c/\d = -k))(L:Line b k c d l):add (some (b,k)) (some (c,d))=third b k c l:=by
 show(if b=c/\d = -k then none else third b k c (nN b k c d))=_;rw[yEY ho,CS h f g e ho (bT h f g e ho) L]
def jF{b k c d:Fin P}(ho:b=c/\d = -k):add (some (b,k)) (some (c,d))=none:=by
 show(if b=c/\d = -k then none else third b k c (nN b k c d))=_;rw[yEX ho]
def bK{a:Pt P}:add a none=a:=by cases a<;>rfl
def Line.swap{d c e k l:Fin P}(L:Line d c e k l):Line e k d c l:=by
 obtain⟨a,b⟩:=L;exact⟨by grobner,by grobner⟩
def DL{k e c d l:Fin P}(L:Line k e c d l):third k e c l=third c d k l:=by
 obtain⟨a,b⟩:=L;unfold third;have f:l^2-k-c=l^2-c-k:=by grobner
 have g:l*(k-(l^2-k-c))-e=l*(c-(l^2-c-k))-d:=by grobner
 rw[g,f]
def add_comm(h:NT.IsP P)(f:(2:Fin P)≠0)(a b:Pt P)(c:On a)(d:On b):add a b=add b a:=by
 rcases a with _|⟨g,j⟩
 .rw[bK];rfl
 .rcases b with _|⟨l,i⟩
  .rfl
  .by_cases ho:g=l/\i = -j
   .rw[jF ho,jF ⟨ho.1.symm,by rw[ho.2];grobner⟩]
   .have k:¬(l=g/\j = -i):=λe=>ho ⟨e.1.symm,by rw[e.2];grobner⟩
    have L:=bT h f c d ho;rw[cC h f c d ho L,cC h f d c k L.swap,DL L]
def Fp{a b:Pt P}(h:NT.IsP P)(g:(2:Fin P)≠0)(k:On a)(c:On b):On (add a b):=by
 rcases a with _|⟨d,f⟩
 .exact c
 .rcases b with _|⟨i,e⟩
  .exact k
  .by_cases ho:d=i/\e = -f
   .rw[jF ho];trivial
   .have L:=bT h g k c ho;rw[cC h g k c ho L];exact CJ k c L rfl rfl
def cD{a:Pt P}(h:On a):On (neg a):=by
 rcases a with _|⟨x,y⟩
 .trivial
 .have k:y^2=x^3+7:=h;show(-y)^2=x^3+7
  grobner
def neg_neg'(a:Pt P):neg (neg a)=a:=by
 rcases a with _|⟨x,y⟩
 .rfl
 .show some (x,- -y)=some (x,y);have:- -y=y:=by grobner
  rw[this]
def add_neg(a:Pt P):add a (neg a)=none:=by
 rcases a with _|⟨x,y⟩
 .rfl
 .exact jF ⟨rfl,rfl⟩
def Line.neg{d c e k l:Fin P}(L:Line d c e k l):Line d (-c) e (-k) (-l):=by
 obtain⟨a,b⟩:=L;exact⟨by grobner,by grobner⟩
def neg_add(h:NT.IsP P)(m:(2:Fin P)≠0){a b:Pt P}(i:On a)(j:On b):neg (add a b)=add (neg a) (neg b):=by
 rcases a with _|⟨k,d⟩
 .rfl
 .rcases b with _|⟨c,f⟩
  .rfl
  .by_cases ho:k=c/\f = -d
   .rw[jF ho];exact(jF ⟨ho.1,by rw[ho.2]⟩).symm
   .have L:=bT h m i j ho;have g:¬(k=c/\-f = - -d):=λe=>ho ⟨e.1,by have:=e.2;grobner⟩
    rw[cC h m i j ho L];refine Eq.trans ?_ (cC h m (cD (a:=some (k,d)) i) (cD (a:=some (c,f)) j) g L.neg).symm;generalize nN k d c f=l;unfold third;show some (l^2-k-c,-(l*(k-(l^2-k-c))-d))=some ((-l)^2-k-c,-l*(k-((-l)^2-k-c)) - -d);have n:(-l)^2=l^2:=by grobner
    rw[n];have o:-(l*(k-(l^2-k-c))-d) = -l*(k-(l^2-k-c)) - -d:=by grobner
    rw[o]
def Line.back{k d f j l c e:Fin P}(L:Line k d f j l)(g:c=l^2-k-f)(i:e=l*(k-c)-d):Line k (-d) c e (-l):=by
 obtain⟨a,b⟩:=L;subst i g a;exact⟨by grobner,by grobner (ringSteps:=10000000)⟩
def Tb{c b k l:Fin P}(d:k=l^2-c-b):(-l)^2-c-k=b:=by
 subst d
 grobner
def Ta{d k b c l:Fin P}(a:c=b+l*(k-d)):-l*(d-k) - -b=c:=by
 subst a
 grobner
def RP{x y:Fin P}(z:y=0)(k:y^2=x^3+7):x^3+7=0:=by
 grobner
def CL(h:NT.IsP P)(j:(2:Fin P)≠0)(y:∀x:Fin P,x^3+7≠0){b c:Pt P}(g:On b)(m:On c):add (neg b) (add b c)=c:=by
 rcases b with _|⟨d,f⟩
 .rfl
 .rcases c with _|⟨i,s⟩
  .rw[bK];exact jF ⟨rfl,by grobner⟩
  .have r:=g;have w:=m;by_cases ho:d=i/\s = -f
   .rw[jF ho,bK,ho.1,ho.2];rfl
   .have L:=bT h j g m ho;have k:=CJ g m L rfl rfl;rw[cC h j g m ho L];generalize nN d f i s=l at L k;obtain⟨n,q⟩:∃n,n=l^2-d-i:=⟨_,rfl⟩
    unfold third;rw[<-q]at k⊢;obtain⟨p,t⟩:∃p,p=l*(d-n)-f:=⟨_,rfl⟩
    rw[<-t]at k⊢;have M:=L.back q t;have a:=L.go;have o:¬(d=n/\p = - -f):=λe=>by
     obtain⟨u,v⟩:=e;have z:2*f=0:=by
      grobner
     rcases nzd h z with z|z
     .exact j z
     .exact y d (RP z r)
    refine(cC h j (cD (a:=some (d,f)) g) k o M).trans ?_;unfold third;rw[Tb q,Ta a]
def UW(h:NT.IsP P){d b c k o p j l m n:Fin P}(g:c-b≠0)(f:k-d≠0)(i:j-p=m*(c-b))(e:l-o=n*(k-d))
 (hx:((j-p)^2-(c+b)*(c-b)^2)*(k-d)^2=((l-o)^2-(d+k)*(k-d)^2)*(c-b)^2):m^2-c-b=n^2-d-k:=by
 rw[i,e]at hx;clear i e;refine cancel h (cG h (cG h g g) (cG h f f)) ?_
 grobner
def UV(h:NT.IsP P){d k c m l i j p g o X:Fin P}(n:c-k≠0)(q:m-d≠0)(v:j-i=g*(c-k))(s:p-l=o*(m-d))(t:g^2-c-k=X)
 (f:((j-i)^2-(k+c)*(c-k)^2)*((p-l)*(c-k)-(j-i)*(m-d))+(c-k)^2*(((j-i)*k-i*(c-k))*(m-d)-((p-l)*d-l*(m-d))*(c-k))=0):g*(c-X)-j=o*(d-X)-l:=by
 rw[v,s]at f;have r:j=i+g*(c-k):=by clear f t;grobner
 have w:c+k=g^2-X:=by clear f;grobner
 rw[r];obtain⟨a,x⟩:=vH (c-k);rw[x]at n f⊢;generalize m-d=b at q f;have u:(o*(d-X)-l-(g*(k-X)-i))*(a*a*a*b)=0:=by
  have y:k+c=g^2-X:=by rw[<-w];clear f;grobner
  rw[y]at f
  grobner
 rcases nzd h u with e|e
 .have y:c=k+a:=by clear f u e w r t v s;grobner
  rw[y]
  grobner
 .exact absurd e (cG h (cG h (cG h n n) n) q)
def U8(h:NT.IsP P){d b k m c j f l:Fin P}(n:2*c≠0)(g:k-d≠0)(i:f*(2*c)=3*b^2)(o:j-m=l*(k-d))
 (hx:(9*b^4-8*b*c^2)*(k-d)^2=((j-m)^2-(d+k)*(k-d)^2)*(4*c^2)):f^2-b-b=l^2-d-k:=by
 rw[o]at hx;refine cancel h (cG h (cG h n n) (cG h g g)) ?_;have e:9*b^4=(f*(2*c))*(f*(2*c)):=by rw[i];clear hx i;grobner
 rw[e]at hx
 grobner
def U7(h:NT.IsP P){c b g i k m d o X:Fin P}(j:2*k≠0)(q:g-c≠0)(f:d*(2*k)=3*b^2)(p:m-i=o*(g-c))(n:d^2-b-b=X)
 (l:(3*b^2*(b*(4*k^2)-(9*b^4-8*b*k^2))-2*k^2*(4*k^2))*(g-c)=((m-i)*(c*(4*k^2)-(9*b^4-8*b*k^2))-i*(g-c)*(4*k^2))*(2*k)):d*(b-X)-k=o*(c-X)-i:=by
 rw[p]at l;have e:9*b^4-8*b*k^2=X*(4*k^2):=by
  have r:9*b^4=(d*(2*k))*(d*(2*k)):=by rw[f];clear l f;grobner
  rw[r,<-n]
  grobner
 rw[e,<-f]at l;clear e f n;refine cancel h (cG h (cG h (cG h j j) j) q) ?_
 grobner
def qJ{a b:Fin P}(h:¬a=b):a-b≠0:=λe=>h (by grobner)
def Line.run{c b d k l:Fin P}(L:Line c b d k l):k-b=l*(d-c)/\b-k=l*(c-d):=by
 obtain⟨a,-⟩:=L;exact⟨by grobner,by grobner⟩
def Line.at{x y l:Fin P}(L:Line x y x y l):l*(2*y)=3*x^2:=by
 obtain⟨-,b⟩:=L
 grobner
def QN{m l d:Fin P}(s:m^2=l^2):(m*d)^2=(l*d)^2:=by grobner
def OD{k b:Fin P}(s:(k - -b)^2=(k-b)^2):4*(k*b)=0:=by grobner
def WL{m l b c k:Fin P}(r:m^2-c-b=k)(e:k=l^2-b-c):m^2=l^2:=by grobner
def TQ{x l a b:Fin P}(e:x=l^2-a-b):x=l^2-b-a:=by grobner
def TP{g d c e k b l:Fin P}(L:Line g d c e l)(f:b=l*(g-k)-d):b=l*(c-k)-e:=by
 obtain⟨a,-⟩:=L
 grobner
def four_ne(h:NT.IsP P)(k:(2:Fin P)≠0):(4:Fin P)≠0:=λe=>by
 have:(2:Fin P)*2=0:=by grobner
 rcases nzd h this with e|e<;>exact k e
def CG{y z:Fin P}(e:y = -z):z = -y:=by grobner
def AZ(h:NT.IsP P)(r:(2:Fin P)≠0){b f d n i j m l k o c g:Fin P}(F:j^2=i^3+7)(H:f^2=b^3+7)
 (s:Line b f d n m) (w:Line d n i j l) (v:k=m^2-b-d) (u:o=m*(b-k)-f) (a:c=l^2-d-i) (y:g=l*(d-c)-n)
 (G:o^2=k^3+7) (I:g^2=c^3+7) (z:¬(k=i/\j = -o)) (J:¬(b=c/\g = -f)) (hx:¬c=b) :
 add (some (k,o)) (some (i,j))=add (some (b,f)) (some (c,g)):=by
 have p:=bT h r G F z;have q:=bT h r H I J;rw[cC h r G F z p,cC h r H I J q];unfold third;by_cases hd:k=i
 .have K:=qM h G (hd ▸ F) (λe=>z ⟨hd,e⟩);subst hd K;have t:=wY (x:=k) h r z;have E:=U8 h t (qJ hx) p.at q.run.1 (Mq b f d k m l n j c g s w v u a y);have D:=U7 h t (qJ hx) p.at q.run.1 rfl (Mo b f d k m l n j c g s w v u a y);rw[D,E]
 .have E:=UW h (qJ hd) (qJ hx) p.run.2 q.run.1 (O8 b f d i m l n j k o c g s w v u a y);have D:=UV h (qJ hd) (qJ hx) p.run.2 q.run.1 rfl (O7 b f d i m l n j k o c g s w v u a y);rw[D,E]
def add_assoc(h:NT.IsP P)(l:(2:Fin P)≠0)(h7:∀x:Fin P,x^3+7≠0)(a b c:Pt P)(g:On a)(k:On b)(n:On c):add (add a b) c=add a (add b c):=by
 have comm:=λ(a b:Pt P) (g:On a) (k:On b)=>add_comm h l a b g k
 have f:=Fp h l g k;have i:=Fp h l k n;have H:∀ {u v:Pt P},On u->On v->add (neg u) (add u v)=v:=λhu hv=>CL h l h7 hu hv
 by_cases X:b=neg a
 .subst X;rw[add_neg];have:=H k n;rw[neg_neg']at this;exact this.symm
 by_cases Y:c=neg b
 .subst Y;rw[add_neg,bK,comm _ _ f n,comm a b g k];exact H k g
 by_cases z3:c=neg (add a b)
 .subst z3;rw[add_neg];have e:add b (neg (add a b))=neg a:=by
   rw[comm a b g k,neg_add h l k g];have:=H (cD k) (cD g);rw[neg_neg']at this;exact this
  rw[e,add_neg]
 by_cases t:add b c=neg a
 .rw[t,add_neg];have e:a=neg (add b c):=by rw[t,neg_neg']
  have j:add a b=neg c:=by
   rw[comm a b g k,e,neg_add h l k n];have:=H (cD k) (cD n);rw[neg_neg']at this;exact this
  rw[j,comm _ _ (cD n) n,add_neg]
 rcases a with _|⟨p,r⟩
 .rfl
 rcases b with _|⟨j,q⟩
 .rfl
 rcases c with _|⟨w,J⟩
 .rw[bK,bK]
 have O:¬(p=j/\q = -r):=λe=>X (by rw[e.1,e.2];rfl)
 have w2:¬(j=w/\J = -q):=λe=>Y (by rw[e.1,e.2];rfl)
 have A:=bT h l g k O;have E:=bT h l k n w2;have B:=cC h l g k O A;have C:=cC h l k n w2 E;rw[B]at f z3⊢;rw[C]at i t⊢;generalize nN p r j q=l1 at A B f z3⊢;generalize nN j q w J=Z at E C i t⊢;unfold third at f i z3 t B C⊢;obtain⟨G,D⟩:∃G,G=l1^2-p-j:=⟨_,rfl⟩
 obtain⟨I,W⟩:∃I,I=Z^2-j-w:=⟨_,rfl⟩
 rw[<-D]at f z3 B⊢;rw[<-W]at i t C⊢;obtain⟨K,Q⟩:∃K,K=l1*(p-G)-r:=⟨_,rfl⟩
 obtain⟨L,U⟩:∃L,L=Z*(j-I)-q:=⟨_,rfl⟩
 rw[<-Q]at f z3 B⊢;rw[<-U]at i t C⊢;have S:¬(G=w/\J = -K):=λe=>z3 (by rw[e.2,<-e.1];rfl)
 have T:¬(p=I/\L = -r):=λe=>t (by rw[e.2,<-e.1];rfl)
 by_cases hx:I=p
 .have hy:L=r:=by
   have s:=i;rw[hx]at s;exact qM h g s (λe=>T ⟨hx.symm,e⟩)
  by_cases hd:G=w
  .exfalso;have R:J=K:=by
    have s:=f;exact qM h s (hd ▸ n) (λe=>S ⟨hd,e⟩)
   have N:=H k n;rw[C,hx,hy]at N;rw[hd,<-R]at B;have V:¬p=j:=λe=>by
    subst e;have s:=qM h g k (λe=>O ⟨rfl,e⟩);subst s;rw[comm _ _ (cD k) g,add_neg]at N;cases N
   have u1:¬(j=p/\r = - -q):=λe=>V e.1.symm
   have M:=bT h l (cD (a:=some (j,q)) k) g u1;have r2:=cC h l (cD (a:=some (j,q)) k) g u1 M;have F:third j (-q) p (nN j (-q) p r)=some (w,J):=r2.symm.trans N;generalize nN j (-q) p r=m at M F;unfold third at F;have r4:m^2-j-p=w:=by injection F with F;injection F
   have k1:=M.run.1;have k2:=A.run.2;rw[hd]at D;have s2:=QN (d:=p-j) (WL r4 D);rw[<-k1,<-k2]at s2;have k3:=OD s2;have s:∀ {x y:Fin P},y^2=x^3+7->y≠0:=λo z=>h7 _ (RP z o)
   rcases nzd h k3 with e|e
   .exact four_ne h l e
   .rcases nzd h e with e|e
    .exact s g e
    .exact s k e
  ·-- the same,from the other side
   have s:=AZ h l g n E.swap A.swap (TQ W) (TP E U) (TQ D) (TP A Q) i f (λe=>T ⟨e.1.symm,CG e.2⟩) (λe=>S ⟨e.1.symm,CG e.2⟩) hd;rw[comm _ _ f n,comm _ _ g i];exact s.symm
 .exact AZ h l n g A E D Q W U f i S T hx
structure Cur(P:Nat)[NeZero P]:Prop where
 pr:NT.IsP P
 two:(2:Fin P)≠0
 sev:∀x:Fin P,x^3+7≠0
def Cur.y_ne(C:Cur P){a b:Fin P}(h:On (some (a,b))):b≠0:=λe=>C.sev a (RP e h)
def Cur.opp_ne(C:Cur P){a b:Fin P}(h:On (some (a,b))):¬(a=a/\b = -b):=λe=>by
 have k:2*b=0:=by
  have:=e.2
  grobner
 exact cG C.pr C.two (C.y_ne h) k
def Jac(x y z:Fin P):Pt P->Prop
 | none=>z=0
 | some (a,b)=>z≠0/\x=a*z^2/\y=b*z^3
def Pair(x y:Fin P):Pt P->Prop
 | none=>x=0/\y=0
 | some (a,b)=>x=a/\y=b
def dbl(n:Fin P):Fin P:=n+n
def twB(x y:Fin P):Fin P:=dbl (dbl (x*(y*y)))
def twS(x:Fin P):Fin P:=dbl (x*x)+x*x
def twX(x y:Fin P):Fin P:=twS x*twS x-dbl (twB x y)
def twY(x y:Fin P):Fin P:=twS x*(twB x y-twX x y)-dbl (dbl (dbl (y*y*(y*y))))
def twZ(y z:Fin P):Fin P:=dbl (y*z)
def V0{a b l x y z:Fin P}(g:l*(2*b)=3*a^2)(ex:x=a*z^2)(k:y=b*z^3):twX x y=(l^2-a-a)*twZ y z^2:=by
 subst ex k;unfold twX twS twB twZ dbl
 grobner (ringSteps:=100000000)
def VZ{a b l x y z X:Fin P}(g:l*(2*b)=3*a^2)(ex:x=a*z^2)(c:y=b*z^3)(k:twX x y=X*twZ y z^2):twY x y=(l*(a-X)-b)*twZ y z^3:=by
 subst ex c;unfold twY;rw[k];unfold twS twB twZ dbl
 grobner (ringSteps:=100000000)
def VY(C:Cur P){b y z:Fin P}(d:b≠0)(k:z≠0)(f:y=b*z^3):twZ y z≠0:=λe=>by
 have c:2*b*(z*z*(z*z))=0:=by
  unfold twZ dbl at e;subst f
  grobner
 exact cG C.pr (cG C.pr C.two d) (cG C.pr (cG C.pr k k) (cG C.pr k k)) c
def Jac.twice(C:Cur P){x y z:Fin P}{p:Pt P}(h:Jac x y z p)(k:On p):Jac (twX x y) (twY x y) (twZ y z) (add p p):=by
 match p,h,k with
 | none,h,_ =>
  have c:=h;show twZ y z=0;subst c;unfold twZ dbl
  grobner
 | some (a,b),h,k =>
  obtain⟨d,ex,c⟩:=h;have ho:=C.opp_ne k;have L:=bT C.pr C.two k k ho;rw[cC C.pr C.two k k ho L];have hx:=V0 L.at ex c;exact⟨VY C (C.y_ne k) d c,hx,VZ L.at ex c hx⟩
def cN(b k:Fin P):Fin P:=b*(k*k)
def eM(b k:Fin P):Fin P:=b*(k*k)*k
def plX(k c bx b:Fin P):Fin P:=(b-c)*(b-c)-(bx-k)*(bx-k)*(bx-k)-dbl ((bx-k)*(bx-k)*k)
def plY(k b bx c:Fin P):Fin P:=(c-b)*((bx-k)*(bx-k)*k-plX k b bx c)-(bx-k)*(bx-k)*(bx-k)*b
def plZ(k c b bx:Fin P):Fin P:=k*c*(bx-b)
def WA{a b c d l t k f bx e Z:Fin P}(g:d-b=l*(c-a))(j:k=a*t^2)(o:f=b*t^3)(e3:bx=c*t^2)(i:e=d*t^3)(n:Z=t*(bx-k)):plX k f bx e=(l^2-a-c)*Z^2:=by
 have m:d=b+l*(c-a):=by grobner
 subst m j o e3 i n;unfold plX dbl
 grobner (ringSteps:=100000000)
def Wz{a b c d l t k e bx f Z X:Fin P}(g:d-b=l*(c-a))(i:k=a*t^2)(o:e=b*t^3)(e3:bx=c*t^2)(m:f=d*t^3)(j:Z=t*(bx-k))(n:plX k e bx f=X*Z^2):plY k e bx f=(l*(a-X)-b)*Z^3:=by
 unfold plY;rw[n];have p:d=b+l*(c-a):=by grobner
 subst p i o e3 m j
 grobner (ringSteps:=100000000)
def Br(C : Cur P){a c t : Fin P}{k : Nat}(ht : t ≠ 0)(e : a * t ^ k = c * t ^ k): a = c := by
  have hk : ∀k : Nat, t ^ k ≠ 0 := λk => by
    induction k with
    | zero => intro h; exact ht (by have h2 : (1 : Fin P) = 0 := by { rw [← h]; grind }; calc t = t * 1 := by grobner
                                    _ = 0 := by rw [h2]; grobner)
    | succ k ih => intro h; exact cG C.pr ih ht (by rw [<-h]; grind)
  exact cancel C.pr (hk k) e
def Jac.plus(C:Cur P){m n e j o f:Fin P}{p q:Pt P}(h:Jac m n e p)(l:On p)(B:Jac j o f q)(i:On q)(F:e≠0)(E:f≠0):
 (cN m f=cN j e/\eM n f=eM o e/\add p q=add p p) \/
 (¬(cN m f=cN j e/\eM n f=eM o e)/\Jac (plX (cN m f) (eM n f) (cN j e) (eM o e)) (plY (cN m f) (eM n f) (cN j e) (eM o e)) (plZ e f (cN m f) (cN j e)) (add p q)):=by
 match p,q,h,l,B,i with
 | none,_,h,_,_,_=>exact absurd h F
 | some (a,b),none,_,_,h,_=>exact absurd h E
 | some (a,b),some (c,d),h,l,B,i =>
  obtain⟨-,y,w⟩:=h;obtain⟨-,A,z⟩:=B;have t:=cG C.pr F E;have s:cN m f=a*(e*f)^2:=by subst y;unfold cN;clear l i;grobner
  have v:eM n f=b*(e*f)^3:=by subst w;unfold eM;clear l i;grobner
  have e3:cN j e=c*(e*f)^2:=by subst A;unfold cN;clear l i;grobner
  have u:eM o e=d*(e*f)^3:=by subst z;unfold eM;clear l i;grobner
  by_cases r:cN m f=cN j e/\eM n f=eM o e
  .refine Ye ⟨r.1,r.2,?_⟩;have g:a=c:=Br C t (by rw[<-s,<-e3];exact r.1);have D:b=d:=Br C t (by rw[<-v,<-u];exact r.2);rw[g,D]
  .refine X7 ⟨r,?_⟩;by_cases g:a=c
   .have hd:d = -b:=Zo λD=>r ⟨by rw[s,e3,g],by
     have:=qM C.pr (x:=a) l (by rw[g];exact i) D;rw[v,u,this]⟩
    rw[jF ⟨g,hd⟩];show plZ _ _ _ _=0;rw[s,e3,g];unfold plZ
    grobner
   .have ho:¬(a=c/\d = -b):=λh=>g h.1
    have L:=bT C.pr C.two l i ho;rw[cC C.pr C.two l i ho L];have D:plZ e f (cN m f) (cN j e)=e*f*(cN j e-cN m f):=rfl;have hx:=WA L.run.1 s v e3 u D;refine⟨?_,hx,Wz L.run.1 s v e3 u D hx⟩;rw[D];refine cG C.pr t (λh=>g ?_);exact Br C (k:=2) t (by rw[<-s,<-e3];clear l i L hx;grobner)
def Jac.zero(C:Cur P){x y z:Fin P}{p:Pt P}(h:Jac x y z p)(k:z=0):p=none:=by
 match p,h with
 | none,_=>rfl
 | some (a,b),h=>exact absurd k h.1
def Jac.neg{x y z:Fin P}{p:Pt P}(h:Jac x y z p):Jac x (0-y) z (neg p):=by
 match p,h with
 | none,h=>exact h
 | some (a,b),h=>exact⟨h.1,h.2.1,by have:=h.2.2;show 0-y = -b*z^3;grobner⟩
def inv_zero(C:Cur P):inv (0:Fin P)=0:=by
 apply yA0;have k:=C.pr.1;show(0:Fin P).val^(P-2)%P=_;rw[val_zero];by_cases h:P=2
 .exact absurd (yA0 (by rw[val_zero];show 2%P=0;rw[h])) C.two
 .rw[yEq oM,Nat.zero_mod]
def Jac.pair(C:Cur P){x y z:Fin P}{p:Pt P}(h:Jac x y z p):Pair (x*(inv z*inv z)) (y*(inv z*inv z)*inv z) p:=by
 match p,h with
 | none,h =>
  have k:=h;subst k;rw[inv_zero C];exact⟨by grobner,by grobner⟩
 | some (a,b),h =>
  have c:=inv_mul C.pr h.1;obtain⟨-,ex,k⟩:=h;subst ex k;exact⟨by grobner,by grobner⟩
def Pair.jac(C:Cur P){x y:Fin P}{p:Pt P}(h:Pair x y p)(k:¬(x=0/\y=0)):Jac x y 1 p:=by
 match p,h with
 | none,h=>exact absurd h k
 | some (a,b),h =>
  obtain⟨ex,c⟩:=h;subst ex c;refine⟨λe=>?_,by grobner,by grobner⟩;have:=congrArg yDV e;rw[val_zero,val_one C.pr]at this;omega
def Pair.nothing(C:Cur P){x y:Fin P}{p:Pt P}(h:Pair x y p)(k:On p)(c:x=0/\y=0):p=none:=by
 match p,h,k with
 | none,_,_=>rfl
 | some (a,b),h,k =>
  obtain⟨ex,d⟩:=h;exact absurd (by rw[<-d];exact c.2) (C.y_ne k)
def mul:Nat->Pt P->Pt P
 | 0,_=>none
 | n+1,a=>add (mul n a) a
def jB:On (none:Pt P):=trivial
def jS{a:Pt P}:add none a=a:=rfl
def Cur.on(C:Cur P){a b:Pt P}(k:On a)(c:On b):On (add a b):=Fp C.pr C.two k c
def Cur.comm(C:Cur P){a b:Pt P}(k:On a)(c:On b):add a b=add b a:=add_comm C.pr C.two a b k c
def Cur.assoc(C:Cur P){a b c:Pt P}(d:On a)(e:On b)(k:On c):add (add a b) c=add a (add b c):=add_assoc C.pr C.two C.sev a b c d e k
def Cur.neg_l(C:Cur P){a:Pt P}(k:On a):add (neg a) a=none:=by
 rw[C.comm (cD k) k,add_neg]
def Cur.swap(C:Cur P){a b c d:Pt P}(f:On a)(e:On b)(k:On c)(hd:On d):add (add a b) (add c d)=add (add a c) (add b d):=by
 rw[C.assoc f e (C.on k hd),<-C.assoc e k hd,C.comm e k,C.assoc k e hd,<-C.assoc f k (C.on e hd)]
def cE(C:Cur P){a:Pt P}(k:On a):∀n,On (mul n a)
 | 0=>jB
 | n+1=>C.on (cE C k n) k
def mul_add(C:Cur P){a:Pt P}(k:On a)(m:Nat):∀n,mul (m+n) a=add (mul m a) (mul n a)
 | 0=>(bK).symm
 | n+1=>by
  show add (mul (m+n) a) a=add (mul m a) (add (mul n a) a);rw[mul_add C k m n,C.assoc (cE C k m) (cE C k n) k]
def dZ:Int->Pt P->Pt P
 | .ofNat n,a=>mul n a
 | .negSucc n,a=>neg (mul (n+1) a)
def jA(C:Cur P){a:Pt P}(k:On a):∀n,On (dZ n a)
 | .ofNat n=>cE C k n
 | .negSucc n=>cD (cE C k (n+1))
def oK(C:Cur P){a:Pt P}(k:On a):∀n,dZ (n+1) a=add (dZ n a) a
 | .ofNat n=>rfl
 | .negSucc 0=>by
  show(none:Pt P)=add (neg (add none a)) a;rw[jS,C.neg_l k]
 | .negSucc (n+1)=>by
  show neg (mul (n+1) a)=add (neg (add (mul (n+1) a) a)) a;have b:=cE C k (n+1);rw[neg_add C.pr C.two b k,C.assoc (cD b) (cD k) k,C.neg_l k,bK]
def sP(C:Cur P){a:Pt P}(k:On a)(n:Int):dZ (n-1) a=add (dZ n a) (neg a):=by
 have h:=oK C k (n-1);rw[Int.sub_add_cancel]at h;rw[h,C.assoc (jA C k _) k (cD k),add_neg,bK]
def Cd(C:Cur P){a:Pt P}(k:On a)(m:Int):∀n:Nat,dZ (m+n) a=add (dZ m a) (dZ n a)
 | 0=>by rw[ZF,yCx];exact(bK).symm
 | n+1=>by
  rw[show m+((n+1:Nat):Int)=(m+n)+1 by omega,oK C k,Cd C k m n,show((n+1:Nat):Int)=(n:Int)+1 by omega,oK C k,
   C.assoc (jA C k _) (jA C k _) k]
def Cc(C:Cur P){a:Pt P}(k:On a):∀n:Nat,dZ (-(n:Int)) a=neg (dZ n a)
 | 0=>rfl
 | n+1=>by
  have b:dZ (((n+1:Nat):Int)) a=add (dZ n a) a:=by rw[show((n+1:Nat):Int)=(n:Int)+1 by omega,oK C k]
  rw[b,neg_add C.pr C.two (jA C k _) k,<-Cc C k n,show -((n+1:Nat):Int) = -(n:Int)-1 by omega,sP C k]
def Ca(C:Cur P){a:Pt P}(k:On a)(m:Int):∀n:Nat,dZ (m-n) a=add (dZ m a) (dZ (-(n:Int)) a)
 | 0=>by rw[ZF,Int.sub_zero];exact(bK).symm
 | n+1=>by
  rw[show m-((n+1:Nat):Int)=(m-n)-1 by omega,sP C k,Ca C k m n,show -((n+1:Nat):Int) = -(n:Int)-1 by omega,sP C k,
   C.assoc (jA C k _) (jA C k _) (cD k)]
def wU(C:Cur P){a:Pt P}(b:On a)(m n:Int):dZ (m+n) a=add (dZ m a) (dZ n a):=by
 rcases Int.le_total 0 n with h|h
 .obtain⟨k,rfl⟩:=yC7 h;exact Cd C b m k
 .obtain⟨k,c⟩:=yC7 (show 0<=-n by omega);obtain rfl:n = -(k:Int):=oM;rw[<-Ca C b m k,Int.sub_eq_add_neg]
def Cb(a:Pt P):dZ 1 a=a:=jS
def Hq(a:Pt P):dZ 0 a=none:=rfl
def tot(a:Nat->Pt P):Nat->(Nat->Int)->Pt P
 | 0,_=>none
 | k+1,f=>add (tot a k f) (dZ (f k) (a k))
def DJ{f:Nat->Int}(C:Cur P){a:Nat->Pt P}:∀k,(∀i,i<k->On (a i))->On (tot a k f)
 | 0,_=>jB
 | k+1,h=>C.on (DJ C k λi b=>h i oM) (jA C (h k oM) _)
def eJ{a:Nat->Pt P}{f g:Nat->Int}:∀k,(∀i,i<k->f i=g i)->tot a k f=tot a k g
 | 0,_=>rfl
 | k+1,h=>by
  show add (tot a k f) _=add (tot a k g) _;rw[eJ k (λi b=>h i oM),h k oM]
def xB(a:Nat->Pt P){f:Nat->Int}:∀k,(∀i,i<k->f i=0)->tot a k f=none
 | 0,_=>rfl
 | k+1,h=>by
  show add (tot a k f) _=none;rw[xB a k (λi b=>h i oM),h k oM];rfl
def Be(C:Cur P){a:Nat->Pt P}(f g:Nat->Int):∀k,(∀i,i<k->On (a i))->tot a k (λj=>f j+g j)=add (tot a k f) (tot a k g)
 | 0,_=>rfl
 | k+1,h=>by
  have b:∀i,i<k->On (a i):=λi d=>h i oM
  have c:=h k oM;show add (tot a k _) (dZ (f k+g k) (a k))=add (add (tot a k f) (dZ (f k) (a k))) (add (tot a k g) (dZ (g k) (a k)));rw[Be C f g k b,wU C c,C.swap (DJ C k b) (DJ C k b) (jA C c _) (jA C c _)]
def FB(C:Cur P){a:Nat->Pt P}(i:Nat)(d:Int):∀k,i<k->(∀i,i<k->On (a i))->tot a k (λj=>if j=i then d else 0)=dZ d (a i)
 | k+1,hi,h=>by
  show add (tot a k _) (dZ (if k=i then d else 0) (a k))=_;by_cases b:k=i
  .subst b;rw[yEX rfl,xB a k (λj c=>yEY oM)];rfl
  .rw[yEY b,FB C i d k oM (λj c=>h j oM)];exact bK
def Nf{f:Nat->Int}{i k:Nat}(C:Cur P){a:Nat->Pt P}(d:Int)(c:i<k)(h:∀i,i<k->On (a i)):
 tot a k (λj=>if j=i then f j+d else f j)=add (tot a k f) (dZ d (a i)):=by
 rw[<-FB C i d k c h,<-Be C f _ k h];refine eJ k λj _=>?_
 by_cases b:j=i
 .rw[yEX b,yEX b]
 .rw[yEY b,yEY b,yCx]
def Hx{f:Nat->Int}{k:Nat}(C:Cur P){a:Nat->Pt P}(h:∀i,i<k->On (a i)):tot a k (λj=>2*f j)=add (tot a k f) (tot a k f):=by
 rw[<-Be C f f k h];exact eJ k λj _=>oM
end EC
namespace EC
def ND{x P c:Nat}(j:NT.IsP P)(m:P=3*c+1)(l:7<P)(i:(P-7)^c%P≠1):(x*x*x+7)%P≠0:=λe=>by
 have hx:¬P ∣ x:=λhd=>by
  have k:P ∣ x*x*x:=Nat.dvd_mul_left_of_dvd hd _;have b:P ∣ 7:=(Nat.dvd_add_right k).1 (yAt e);have:=yAQ dC b;omega
 have k:=j.fermat1 x hx;have b:x*x*x%P=P-7:=by
  have f:x*x*x%P<P:=Y8 _ oM;have d:(x*x*x%P+7)%P=0:=by rw[yD8];exact e
  by_cases g:x*x*x%P+7<P
  .rw[X6 g]at d;omega
  .rw[yDC oM,X6 oM]at d;omega
 apply i;rw[<-b,<-yDl];rw[<-k]
 congr 1
 rw[show P-1=3*c by omega,yCu]
 congr 1
 rw[Zf,Zf,yBv]
def SQ{P c:Nat}[NeZero P](b:NT.IsP P)(f:P=3*c+1)(d:7<P)(g:(P-7)^c%P≠1):Cur P:=by
 refine⟨b,λe=>?_,λx e=>?_⟩
 .have:=congrArg yDV e;rw[val_zero]at this;have k:(2:Fin P).val=2%P:=rfl;rw[k,X6 oM]at this;omega
 .have i:x*x*x+7=0:=by rw[<-e];grobner
  have:=congrArg yDV i;rw[val_zero,Fin.val_add,yAG,yAG]at this;have k:(7:Fin P).val=7%P:=rfl;rw[k,yD7,yD8,Nat.add_mod_mod]at this;exact ND b f d g this
def Om:NT.pm 115792089237316195423570985008687907853269984665640564039457584007908834671663 256 (115792089237316195423570985008687907853269984665640564039457584007908834671663-7) 38597363079105398474523661669562635951089994888546854679819194669302944890554 1≠1:=dK
def Uj{P c k:Nat}(b:c<2^k)(d:1<P)(h:NT.pm P k (P-7) c 1≠1):(P-7)^c%P≠1:=λe=>h (by rw[NT.FX P k _ c 1 b d,ZV];exact e)
def cur:∃(P:Nat) (_:NeZero P),P=115792089237316195423570985008687907853269984665640564039457584007908834671663/\Cur P:=by
 have f:=NT.pP;have e:=Om;have d:115792089237316195423570985008687907853269984665640564039457584007908834671663=3*38597363079105398474523661669562635951089994888546854679819194669302944890554+1:=dK;have b:38597363079105398474523661669562635951089994888546854679819194669302944890554<2^256:=dK;have k:7<115792089237316195423570985008687907853269984665640564039457584007908834671663:=dK;generalize 38597363079105398474523661669562635951089994888546854679819194669302944890554=c at *;generalize 115792089237316195423570985008687907853269984665640564039457584007908834671663=P at *;have g:NeZero P:=⟨oM⟩
 exact⟨P,g,rfl,SQ f d k (Uj b oM e)⟩
end EC
section
structure At4(w:XA)(k a b c d:Nat):Prop where
 c0:w.cell? ⟨k,0,none⟩=some (uZ a)
 c1:w.cell? ⟨k,1,none⟩=some (uZ b)
 c2:w.cell? ⟨k,2,none⟩=some (uZ c)
 c3:w.cell? ⟨k,3,none⟩=some (uZ d)
 f:∀o,w.frozen? ⟨k,o,none⟩=false
variable {w w1:XA}{k a b c d:Nat}
def At4.lt(h:At4 w k a b c d):k<w.heap.size:=ZY _ _ h.c0
def At4.below{B:Nat}(h:At4 w k a b c d)(f:Below B w w1)(e:k<B):At4 w1 k a b c d:=
 ⟨by rw[f.cell (p:=⟨k,0,none⟩) e];exact h.c0,by rw[f.cell (p:=⟨k,1,none⟩) e];exact h.c1,by rw[f.cell (p:=⟨k,2,none⟩) e];exact h.c2,by rw[f.cell (p:=⟨k,3,none⟩) e];exact h.c3,
  λo=>by rw[f.frozen (p:=⟨k,o,none⟩) e];exact h.f o⟩
def At4.call(h:At4 w k a b c d)(e:kZ w w1):At4 w1 k a b c d:=h.below e h.lt
def At4.alloc(h:At4 w k a b c d)(o:Obj):At4 (w.alloc o) k a b c d:=h.call (aD o)
def At4.drewN(h:At4 w k a b c d)(q:Nat):At4 (w.drewN q) k a b c d:=⟨h.c0,h.c1,h.c2,h.c3,h.f⟩
def At4.new(w:XA)(t:Yd)(a b c d:Nat):At4 (w.alloc (.cells #[uZ a,uZ b,uZ c,uZ d] t)) w.heap.size a b c d:=
 ⟨by rw[Yr];rfl,by rw[Yr];rfl,by rw[Yr];rfl,by rw[Yr];rfl,λo=>Zu _ _ _ _⟩
def At4.made(w:XA)(t:Yd)(a b c d:Nat){k:Nat}(e:w.heap.size=k):At4 (w.alloc (.cells #[uZ a,uZ b,uZ c,uZ d] t)) k a b c d:=
 e ▸ At4.new w t a b c d
def bU{i j:Nat}{o k:Nat}(h:i≠j\/o≠k):(⟨i,o,none⟩:Addr)≠⟨j,k,none⟩:=by
 intro e;simp only[Addr.mk.injEq,and_true]at e;omega
def At4.other{j o : Nat}(h : At4 w k a b c d)(hj : j ≠ k)(v : XB): At4 (w.setCell ⟨j, o, none⟩ v) k a b c d :=
  ⟨by rw [Yc _ _ _ _ (bU (Ye hj))]; exact h.c0, by rw [Yc _ _ _ _ (bU (Ye hj))]; exact h.c1,
   by rw [Yc _ _ _ _ (bU (Ye hj))]; exact h.c2, by rw [Yc _ _ _ _ (bU (Ye hj))]; exact h.c3, λo => by rw [Zq]; exact h.f o⟩
def At4.set0(h : At4 w k a b c d)(x : Nat): At4 (w.setCell (aZ k) (uZ (x : Int))) k x b c d :=
  ⟨ZI _ _ _ h.c0, by rw [Yc _ _ _ _ (bU (X7 dC))]; exact h.c1,
   by rw [Yc _ _ _ _ (bU (X7 dC))]; exact h.c2, by rw [Yc _ _ _ _ (bU (X7 dC))]; exact h.c3, λo => by rw [Zq]; exact h.f o⟩
def At4.set1(h : At4 w k a b c d)(x : Nat): At4 (w.setCell ⟨k, 1, none⟩ (uZ (x : Int))) k a x c d :=
  ⟨by rw [Yc _ _ _ _ (bU (X7 dC))]; exact h.c0, ZI _ _ _ h.c1,
   by rw [Yc _ _ _ _ (bU (X7 dC))]; exact h.c2, by rw [Yc _ _ _ _ (bU (X7 dC))]; exact h.c3, λo => by rw [Zq]; exact h.f o⟩
def At4.set2(h : At4 w k a b c d)(x : Nat): At4 (w.setCell ⟨k, 2, none⟩ (uZ (x : Int))) k a b x d :=
  ⟨by rw [Yc _ _ _ _ (bU (X7 dC))]; exact h.c0, by rw [Yc _ _ _ _ (bU (X7 dC))]; exact h.c1,
   ZI _ _ _ h.c2, by rw [Yc _ _ _ _ (bU (X7 dC))]; exact h.c3, λo => by rw [Zq]; exact h.f o⟩
def At4.set3(h : At4 w k a b c d)(x : Nat): At4 (w.setCell ⟨k, 3, none⟩ (uZ (x : Int))) k a b c x :=
  ⟨by rw [Yc _ _ _ _ (bU (X7 dC))]; exact h.c0, by rw [Yc _ _ _ _ (bU (X7 dC))]; exact h.c1,
   by rw [Yc _ _ _ _ (bU (X7 dC))]; exact h.c2, ZI _ _ _ h.c3, λo => by rw [Zq]; exact h.f o⟩
def At4.drew(h:At4 w k a b c d):At4 w.drew k a b c d:=⟨h.c0,h.c1,h.c2,h.c3,h.f⟩
def set4(w:XA)(k:Nat)(x y z t:XB):XA:=(((w.setCell (aZ k) x).setCell ⟨k,1,none⟩ y).setCell ⟨k,2,none⟩ z).setCell ⟨k,3,none⟩ t
def At4.self4(h:At4 w k a b c d)(x y z t:Nat):At4 (set4 w k (uZ x) (uZ y) (uZ z) (uZ t)) k x y z t:=(((h.set0 x).set1 y).set2 z).set3 t
def At4.other4{j:Nat}(h:At4 w k a b c d)(e:j≠k)(x y z t:XB):At4 (set4 w j x y z t) k a b c d:=(((h.other e x).other e y).other e z).other e t
def aM{x y z t:XB}{B j:Nat}{b:XA}(h:Below B b w)(k:B<=j):Below B b (set4 w j x y z t):=
 (((h.setCell (p:=⟨j,0,none⟩) k x).setCell (p:=⟨j,1,none⟩) k y).setCell (p:=⟨j,2,none⟩) k z).setCell (p:=⟨j,3,none⟩) k t
end
structure FoldI(w wr:XA)(g0 g1 g2 a b c d p q r s:Nat):Prop where
 bl:kZ w wr
 pr:At4 wr w.heap.size g0 g1 g2 0
 lo:At4 wr (w.heap.size+1) a b c d
 hi:At4 wr (w.heap.size+1+1) p q r s
 re:At4 wr (w.heap.size+1+1+1) 0 0 0 0
 ha:a<18446744073709551616
 hb:b<18446744073709551616
 hc:c<18446744073709551616
 hd:d<18446744073709551616
 hp:p<18446744073709551616
 hq:q<18446744073709551616
 hr:r<18446744073709551616
 hs:s<18446744073709551616
def Lu{a b c d p q r s f i g t k P gk:Nat}(v:P+val f i g 0=top)(j:top<2*P)(l:val a b c d<top)(m:gk=val a b c d+top*val 0 0 0 0)
 (e:t+top*k=val a b c d+val f i g 0) (u:k<=1) (n:t=val p q r s) (o:t<top):(k=0->val a b c d=gk%P)/\(k=1->val p q r s=gk%P):=by
 have e:gk=val a b c d:=by rw[m];rfl
 rw[e];refine⟨λh=>?_,λh=>?_⟩
 .subst h;rw[X6 oM]
 .subst h;rw[<-n,yDC oM,X6 oM];omega
def MW{p q r s:Nat}(h:¬(p=0/\q=0/\r=0/\s=0)):0<val p q r s:=by unfold val;omega
def Iw{x h g P gk:Nat}(k:0<h)(d:P+g=top)(b:top<2*P)(c:gk=x+top*h):x+g*h<gk/\(x+g*h)%P=gk%P:=by
 have e:gk=x+g*h+P*h:=by rw[c,<-d,yAs];omega
 rw[e,yBs];have:0<P*h:=Nat.mul_pos oM k;exact⟨oM,rfl⟩
def C3{l t a b c d g h x:Nat}(k:g*h+x=l+18446744073709551616*t)(f:t=val a b c d):val l a b c+top*val d 0 0 0=x+val g 0 0 0*h:=by
 have e:val g 0 0 0=g:=by unfold val;omega
 rw[e];unfold val at *;unfold top;omega
def val_mul(k b c h:Nat):val k b c 0*h=k*h+18446744073709551616*(b*h)+340282366920938463463374607431768211456*(c*h):=by
 unfold val;rw[yAs,yAs,yAs,yAo,yAo];omega
def yS{s o j l r m h x a b c d i q n p k f e g:Nat}(t:s+18446744073709551616*val a b c d=l*h+x)
 (u:o+18446744073709551616*val i q n p=r*h+val a b c d) (v:j+18446744073709551616*val k f e g=m*h+val i q n p) :
 val s o j k+top*val f e g 0=x+val l r m 0*h:=by
 rw[val_mul];unfold val at *;unfold top;omega
def yT(g0 g1 g2:Nat)(x y:XB)(m n P:Nat)(hj:g0<18446744073709551616)(k7:g1<18446744073709551616)(k8:g2<18446744073709551616)
 (hor:(g1=0/\g2=0)\/∃o:Nat,bits .or .u64 (g1:Int) (g2:Int)=(o:Int)/\o≠0) (hP:P+val g0 g1 g2 0=top) (hw:top<2*P) (hx:Four x m) (hy:Four y n) (w:XA) :
 YN prog 155 #[.agg #[.int .u64 g0,.int .u64 g1,.int .u64 g2,.int .u64 0],x,y] w (Ret λe w'=>Below w.heap.size w w'/\Four e ((m+top*n)%P)):=by
 obtain⟨a,b,c,d,rfl,ha,hb,hc,hd,em⟩:=hx;obtain⟨p,q,r,s,rfl,hp,hq,hr,hs,en⟩:=hy;go_enter func155,ntmps155;go_wp2;go_loopg [] (val a b c d+top*val p q r s) (λg wr=>∃(a b c d p q r s:Nat),FoldI w wr g0 g1 g2 a b c d p q r s/\g=val a b c d+top*val p q r s/\Hid (g%P=(m+top*n)%P))
 case atStart =>
  have f:=E9 w (.cells #[.int .u64 g0,.int .u64 g1,.int .u64 g2,.int .u64 0] 78) (.cells #[.int .u64 a,.int .u64 b,.int .u64 c,.int .u64 d] 76) (.cells #[.int .u64 p,.int .u64 q,.int .u64 r,.int .u64 s] 76) (.cells #[.int .u64 0,.int .u64 0,.int .u64 0,.int .u64 0] 76);refine⟨a,b,c,d,p,q,r,s,⟨f,?_,?_,?_,?_,ha,hb,hc,hd,hp,hq,hr,hs⟩,rfl,?_⟩
  .exact(((At4.new w 78 g0 g1 g2 0).alloc _).alloc _).alloc _
  .exact((At4.made (w.alloc _) 76 a b c d (XP _ _)).alloc _).alloc _
  .exact(At4.made ((w.alloc _).alloc _) 76 p q r s (by simp)).alloc _
  .exact At4.made (((w.alloc _).alloc _).alloc _) 76 0 0 0 0 (by simp)
  .rw[em,en];rfl
 case round =>
  obtain⟨a,b,c,d,p,q,r,s,hI,hg,HE⟩:=hrel;clear em en ha hb hc hd hp hq hr hs;obtain⟨bl,pr,lo,hi,re,ha,hb,hc,hd,hp,hq,hr,hs⟩:=hI;have HB:Hid (Below w.heap.size w wr):=bl;clear bl;generalize K:w.heap.size+1+1+1=C at re⊢;generalize F:w.heap.size+1+1=k2 at hi⊢;generalize D:w.heap.size+1=k1 at lo⊢;have H:Hid (w.heap.size+1=k1/\w.heap.size+1+1=k2/\w.heap.size+1+1+1=C):=⟨D,F,K⟩
  generalize E:w.heap.size=B at pr HB⊢;have H0:Hid (w.heap.size=B):=E;have k9:Hid (B<=k1):=by unfold Hid;omega
  have Y:B≠k1:=oM;have kh:B≠k2:=oM;have kt:B≠C:=oM;have n12:k1≠k2:=oM;have R:k1≠C:=oM;have kj:k2≠C:=oM;have z0:=pr.lt;have z1:=lo.lt;have z2:=hi.lt;have z3:=re.lt;clear E D F K;by_cases hz:p=0/\q=0/\r=0/\s=0
  .obtain⟨rfl,rfl,rfl,rfl⟩:=hz;obtain⟨p0,p1,p2,p3,pf⟩:=id pr;obtain⟨l0,l1,l2,l3,lf⟩:=id lo;obtain⟨E,D,F,K,hf⟩:=id hi;obtain⟨r0,r1,I,r3,rf⟩:=id re;go_wp2_with fail
   refine(rL _ _ _ _ (Four.mk ha hb hc hd rfl) (Four.mk hj k7 k8 dC rfl) _).mono ?_;rintro e w1 ⟨v,rfl,f,v4,t,k,rfl,⟨V,T,Z,S,rfl,O,Q,U,W,J⟩,hk,N⟩;have z:=Lu hP hw (nF ha hb hc hd) hg N hk J (J ▸ nF O Q U W);rw[HE.out]at z;have L:Hid _:=z;clear z;clear p0 p1 p2 p3 pf l0 l1 l2 l3 lf E D F K hf r0 r1 I r3 rf N J hg HE;have i:=lo.call f;have j:=re.call f;have z3:=j.lt;have z1:=i.lt;have G:Hid (Below B w w1):=HB.trans (f.mono oM);obtain⟨l0,l1,l2,l3,lf⟩:=id i;obtain⟨r0,r1,I,r3,rf⟩:=id j;have A:k=0\/k=1:=oM;rcases A with rfl|rfl
   .go_wp2;have u:=((((j.set0 a).set1 b).set2 c).set3 d).alloc (.cells #[.int .u64 V,.int .u64 T,.int .u64 Z,.int .u64 S] 76);refine XN (v:=?v0) ?hr0 rfl ?hR0
    case hr0=>simp[results,Tryz.results155,go_sem,u.c0,u.c1,u.c2,u.c3];rfl
    refine⟨_,rfl,?_,Four.mk ha hb hc hd (L.1 trivial).symm⟩;rw[H0.out];have X:B<=C:=by have:=H.out;have:=H0.out;omega
    have q1:=(((G.setCell (p:=⟨C,0,none⟩) X (.int .u64 a)).setCell (p:=⟨C,1,none⟩) X (.int .u64 b)).setCell (p:=⟨C,2,none⟩) X (.int .u64 c)).setCell (p:=⟨C,3,none⟩) X (.int .u64 d);exact q1.alloc (by simp;omega) _
   .go_wp2;have u:=((((j.set0 V).set1 T).set2 Z).set3 S).alloc (.cells #[.int .u64 V,.int .u64 T,.int .u64 Z,.int .u64 S] 76);refine XN (v:=?v1) ?hr1 rfl ?hR1
    case hr1=>simp[results,Tryz.results155,go_sem,u.c0,u.c1,u.c2,u.c3];rfl
    refine⟨_,rfl,?_,Four.mk O Q U W (L.2 trivial).symm⟩;rw[H0.out];have X:B<=C:=by have:=H.out;have:=H0.out;omega
    have q1:=(((G.setCell (p:=⟨C,0,none⟩) X (.int .u64 V)).setCell (p:=⟨C,1,none⟩) X (.int .u64 T)).setCell (p:=⟨C,2,none⟩) X (.int .u64 Z)).setCell (p:=⟨C,3,none⟩) X (.int .u64 S);exact q1.alloc (by simp;omega) _
  .go_upto_region 1 with fail
   go_cut [12] from 10 to 72 (λc wx=>c=.bool true/\wr=wx)
   case first =>
    obtain⟨E,D,F,K,hf⟩:=id hi;go_wp2_with fail
    all_goals (go_meet;exact⟨rfl,rfl⟩)
   case rest =>
    obtain⟨rfl,rfl⟩:=hcut;have h6:=Iw (MW hz) hP hw hg;clear hz;obtain⟨p0,p1,p2,p3,pf⟩:=id pr;obtain⟨l0,l1,l2,l3,lf⟩:=id lo;obtain⟨E,D,F,K,hf⟩:=id hi;rcases hor with⟨rfl,rfl⟩|⟨o,ho,ku⟩
    .have hor:bits .or .u64 0 0=0:=dK;go_wp2_with fail
     refine(kF g0 _ _ _ _ hj (Four.mk hp hq hr hs rfl) (Four.mk ha hb hc hd rfl) _).mono ?_;rintro e w1 ⟨v,rfl,f,l,v4,t,rfl,hl,⟨V,T,Z,S,rfl,O,Q,U,W,J⟩,N⟩;have i:=(lo.alloc _).call f;have z:=(hi.alloc _).call f;have A:=(pr.alloc _).call f;have j:=(re.alloc _).call f;have u:=(At4.new wr 76 0 0 0 0).call f;have G:Hid (Below B w w1):=(HB.alloc oM _).trans (f.mono (by simp;omega));clear f p0 p1 p2 p3 pf l0 l1 l2 l3 lf E D F K hf lo hi pr re;generalize hn:wr.heap.size=k4 at u z0 z1 z2 z3⊢;clear hn;have m0:B≠k4:=oM;have m1:k1≠k4:=oM;have m2:k2≠k4:=oM;have m3:C≠k4:=oM;have M:Hid (B<k4):=z0;clear z0 z1 z2 z3;have z0:=A.lt;have z1:=i.lt;have z2:=z.lt;have z3:=j.lt;have z4:=u.lt;have I:Hid (g0*val p q r s+val a b c d=l+18446744073709551616*t/\t=val V T Z S):=⟨N.symm,J⟩
     have HL:Hid (_/\_):=h6;clear N J h6 hg;obtain⟨p0,p1,p2,p3,pf⟩:=id A;obtain⟨l0,l1,l2,l3,lf⟩:=id i;obtain⟨E,D,F,K,hf⟩:=id z;obtain⟨t0,t1,t2,t3,tf⟩:=id u;go_wp2;go_region
     go_wp2;obtain⟨q1,q2,q3⟩:=H.out;have X:=H0.out;subst q1 q2 q3 X;go_roundg (val l V T Z+top*val S 0 0 0)
     case measure=>rw[C3 I.1 I.2];exact HL.1
     case rel =>
      refine⟨l,V,T,Z,S,0,0,0,⟨?_,?_,?_,?_,?_,hl,O,Q,U,W,dC,dC,dC⟩,rfl,?_⟩
      .have s1:=(G.setCell (p:=⟨w.heap.size+1,0,none⟩) (yB0 _) (.int .u64 l))
       exact(aM (aM (aM s1 (yAg M.out)) (yB0 _)) oM).drew
      .exact((((A.other Y.symm _).other4 m0.symm _ _ _ _).other4 Y.symm _ _ _ _).other4 kh.symm _ _ _ _).drew
      .exact((((i.set0 l).other4 m1.symm _ _ _ _).self4 l V T Z).other4 n12.symm _ _ _ _).drew
      .exact((((z.other n12 _).other4 m2.symm _ _ _ _).other4 n12 _ _ _ _).self4 S 0 0 0).drew
      .exact((((j.other R _).other4 m3.symm _ _ _ _).other4 R _ _ _ _).other4 kj _ _ _ _).drew
      .unfold Hid;rw[C3 I.1 I.2,<-HE.out];exact HL.2
    .go_wp2_with fail
     refine(kF g0 _ _ _ _ hj (Four.mk hp hq hr hs rfl) (Four.mk ha hb hc hd rfl) _).mono ?_;rintro e w1 ⟨v,rfl,f,l,v4,t,rfl,hl,⟨V,T,Z,S,rfl,O,Q,U,W,J⟩,N⟩;have i:=(lo.alloc _).call f;have z:=(hi.alloc _).call f;have A:=(pr.alloc _).call f;have j:=(re.alloc _).call f;have u:=(At4.new wr 76 0 0 0 0).call f;have G:Hid (Below B w w1):=(HB.alloc oM _).trans (f.mono (by simp;omega));clear f p0 p1 p2 p3 pf l0 l1 l2 l3 lf E D F K hf lo hi pr re;generalize hn:wr.heap.size=k4 at u z0 z1 z2 z3⊢;clear hn;have m0:B≠k4:=oM;have m1:k1≠k4:=oM;have m2:k2≠k4:=oM;have m3:C≠k4:=oM;have M:Hid (B<k4):=z0;clear z0 z1 z2 z3;have kg:Hid (l+18446744073709551616*val V T Z S=g0*val p q r s+val a b c d):=by unfold Hid;rw[<-J];exact N
     have HL:Hid (_/\_):=h6;clear N J h6 hg;have z0:=A.lt;have z1:=i.lt;have z2:=z.lt;have z3:=j.lt;have z4:=u.lt;obtain⟨p0,p1,p2,p3,pf⟩:=id A;obtain⟨l0,l1,l2,l3,lf⟩:=id i;obtain⟨E,D,F,K,hf⟩:=id z;obtain⟨t0,t1,t2,t3,tf⟩:=id u;go_wp2_with fail
     refine(kF g1 _ _ _ _ k7 (Four.mk hp hq hr hs rfl) (Four.mk O Q U W rfl) _).mono ?_;rintro e w2 ⟨v,rfl,I,l',v5,t,rfl,ko,⟨a2,b2,c2,d2,rfl,kp,k5,ks,kn,J⟩,N⟩;have h9:=((i.set0 l).other4 m1.symm _ _ _ _).call I;have h8:=((z.other n12 _).other4 m2.symm _ _ _ _).call I;have h7:=((A.other Y.symm _).other4 m0.symm _ _ _ _).call I;have ht:=((j.other R _).other4 m3.symm _ _ _ _).call I;have h5:=((u.other m1 _).self4 V T Z S).call I;have k6:Hid (Below B w w2):=((aM (G.setCell (p:=⟨k1,0,none⟩) k9.out _) (yAg M.out)).trans (I.mono (by simp;omega)))
     clear I p0 p1 p2 p3 pf l0 l1 l2 l3 lf E D F K hf t0 t1 t2 t3 tf i z A j u G z0 z1 z2 z3 z4;have kd:Hid (l'+18446744073709551616*val a2 b2 c2 d2=g1*val p q r s+val V T Z S):=by unfold Hid;rw[<-J];exact N
     clear N J;have z0:=h7.lt;have z1:=h9.lt;have z2:=h8.lt;have z3:=ht.lt;have z4:=h5.lt;obtain⟨p0,p1,p2,p3,pf⟩:=id h7;obtain⟨l0,l1,l2,l3,lf⟩:=id h9;obtain⟨E,D,F,K,hf⟩:=id h8;obtain⟨t0,t1,t2,t3,tf⟩:=id h5;go_wp2_with fail
     refine(kF g2 _ _ _ _ k8 (Four.mk hp hq hr hs rfl) (Four.mk kp k5 ks kn rfl) _).mono ?_;rintro e w3 ⟨v,rfl,L,h4,v6,t,rfl,ki,⟨a3,b3,c3,d3,rfl,kk,ke,kr,kl,J⟩,N⟩;have hu:=((h9.set1 l').other4 m1.symm _ _ _ _).call L;have hm:=((h8.other n12 _).other4 m2.symm _ _ _ _).call L;have ka:=((h7.other Y.symm _).other4 m0.symm _ _ _ _).call L;have kc:=((ht.other R _).other4 m3.symm _ _ _ _).call L;have kf:=((h5.other m1 _).self4 a2 b2 c2 d2).call L;have km:Hid (Below B w w3):=((aM (k6.setCell (p:=⟨k1,1,none⟩) k9.out _) (yAg M.out)).trans (L.mono (by simp;omega)))
     clear L p0 p1 p2 p3 pf l0 l1 l2 l3 lf E D F K hf t0 t1 t2 t3 tf h9 h8 h7 ht h5 k6 z0 z1 z2 z3 z4;have kb:Hid (h4+18446744073709551616*val a3 b3 c3 d3=g2*val p q r s+val a2 b2 c2 d2):=by unfold Hid;rw[<-J];exact N
     clear N J;have z0:=ka.lt;have z1:=hu.lt;have z2:=hm.lt;have z3:=kc.lt;have z4:=kf.lt;obtain⟨l0,l1,l2,l3,lf⟩:=id hu;obtain⟨E,D,F,K,hf⟩:=id hm;obtain⟨t0,t1,t2,t3,tf⟩:=id kf;go_wp2;go_region
     go_wp2;clear l0 l1 l2 l3 lf E D F K hf t0 t1 t2 t3 tf;obtain⟨q1,q2,q3⟩:=H.out;have X:=H0.out;subst q1 q2 q3 X;go_roundg (val l l' h4 a3+top*val b3 c3 d3 0)
     case measure=>rw[yS kg.out kd.out kb.out];exact HL.1
     case rel =>
      refine⟨l,l',h4,a3,b3,c3,d3,0,⟨?_,?_,?_,?_,?_,hl,ko,ki,kk,ke,kr,kl,dC⟩,rfl,?_⟩
      .have s1:=(km.setCell (p:=⟨w.heap.size+1,2,none⟩) (yB0 _) (.int .u64 h4))
       have s2:=(aM s1 (yAg M.out) (x:=(.int .u64 a3)) (y:=(.int .u64 b3)) (z:=(.int .u64 c3)) (t:=(.int .u64 d3)))
       exact(aM (s2.setCell (p:=⟨w.heap.size+1,3,none⟩) (yB0 _) (.int .u64 a3)) oM).drew
      .exact((((ka.other Y.symm _).other4 m0.symm _ _ _ _).other Y.symm _).other4 kh.symm _ _ _ _).drew
      .exact((((hu.set2 h4).other4 m1.symm _ _ _ _).set3 a3).other4 n12.symm _ _ _ _).drew
      .exact((((hm.other n12 _).other4 m2.symm _ _ _ _).other n12 _).self4 b3 c3 d3 0).drew
      .exact((((kc.other R _).other4 m3.symm _ _ _ _).other R _).other4 kj _ _ _ _).drew
      .unfold Hid;rw[yS kg.out kd.out kb.out,<-HE.out];exact HL.2
section
structure At8(w:XA)(k a b c d e f g h:Nat):Prop where
 c0:w.cell? ⟨k,0,none⟩=some (uZ a)
 c1:w.cell? ⟨k,1,none⟩=some (uZ b)
 c2:w.cell? ⟨k,2,none⟩=some (uZ c)
 c3:w.cell? ⟨k,3,none⟩=some (uZ d)
 c4:w.cell? ⟨k,4,none⟩=some (uZ e)
 c5:w.cell? ⟨k,5,none⟩=some (uZ f)
 c6:w.cell? ⟨k,6,none⟩=some (uZ g)
 c7:w.cell? ⟨k,7,none⟩=some (uZ h)
 fz:∀o,w.frozen? ⟨k,o,none⟩=false
variable {w w1:XA}{k a b c d e f g h:Nat}
def At8.made(w:XA)(t:Yd)(a b c d e f g h:Nat){k:Nat}(i:w.heap.size=k):At8 (w.alloc (.cells #[uZ a,uZ b,uZ c,uZ d,uZ e,uZ f,uZ g,uZ h] t)) k a b c d e f g h:=by
 subst i;exact⟨by rw[Yr];rfl,by rw[Yr];rfl,by rw[Yr];rfl,by rw[Yr];rfl,by rw[Yr];rfl,by rw[Yr];rfl,by rw[Yr];rfl,by rw[Yr];rfl,λo=>Zu _ _ _ _⟩
def nA{q B:Nat}{k:XA}(H:Below B k w):Below B k (w.drewN q):=⟨H.os,H.tape,H.output,H.size,H.block⟩
end
structure Gap(g0 g1 g2 P:Nat):Prop where
 h0:g0<18446744073709551616
 h1:g1<18446744073709551616
 h2:g2<18446744073709551616
 hor:(g1=0/\g2=0)\/∃o:Nat,bits .or .u64 (g1:Int) (g2:Int)=(o:Int)/\o≠0
 hP:P+val g0 g1 g2 0=top
 hP2:top<2*P
 hg:0<val g0 g1 g2 0
def zQ{k a b c d:Nat}{w W e:XA}(h:Hid (Below k w W))(pr:At4 W k a b c d)(f:kZ W e):Hid (Below k w e):=h.trans (f.mono (yAg pr.lt))
section
structure Blk where
 k:Nat
 o:Nat
 a:Nat
 b:Nat
 c:Nat
 d:Nat
structure Blk.at(x:Blk)(w:XA):Prop where
 c0:w.cell? ⟨x.k,x.o,none⟩=some (uZ (x.a:Int))
 c1:w.cell? ⟨x.k,x.o+1,none⟩=some (uZ (x.b:Int))
 c2:w.cell? ⟨x.k,x.o+2,none⟩=some (uZ (x.c:Int))
 c3:w.cell? ⟨x.k,x.o+3,none⟩=some (uZ (x.d:Int))
 f:∀o,w.frozen? ⟨x.k,o,none⟩=false
structure Kept(w:XA)(k0:Nat)(l:List Blk)(W:XA):Prop where
 bl:Below k0 w W
 le:k0<=W.heap.size
 at':∀x∈l,x.at W
variable {w W w1:XA}{k0:Nat}{l:List Blk}{x:Blk}
def Blk.at.lt(h:x.at W):x.k<W.heap.size:=ZY _ _ h.c0
def Blk.at.call(h:x.at W)(k:kZ W w1):x.at w1:=
 ⟨by rw[k.cell (p:=⟨x.k,x.o,none⟩) h.lt];exact h.c0,by rw[k.cell (p:=⟨x.k,x.o+1,none⟩) h.lt];exact h.c1,by rw[k.cell (p:=⟨x.k,x.o+2,none⟩) h.lt];exact h.c2,by rw[k.cell (p:=⟨x.k,x.o+3,none⟩) h.lt];exact h.c3,
  λo=>by rw[k.frozen (p:=⟨x.k,o,none⟩) h.lt];exact h.f o⟩
def Blk.at.other{j i : Nat}(h : x.at W)(hj : j ≠ x.k)(v : XB): x.at (W.setCell ⟨j, i, none⟩ v) :=
  ⟨by rw [Yc _ _ _ _ (bU (Ye hj))]; exact h.c0, by rw [Yc _ _ _ _ (bU (Ye hj))]; exact h.c1,
   by rw [Yc _ _ _ _ (bU (Ye hj))]; exact h.c2, by rw [Yc _ _ _ _ (bU (Ye hj))]; exact h.c3, λo => by rw [Zq]; exact h.f o⟩
def Kept.call(h:Kept w k0 l W)(k:kZ W w1):Kept w k0 l w1:=
 ⟨h.bl.trans (k.mono h.le),XH h.le k.size,λx hx=>(h.at' x hx).call k⟩
def Kept.drew(h:Kept w k0 l W):Kept w k0 l W.drew:=⟨h.bl.drew,h.le,λx hx=>⟨(h.at' x hx).c0,(h.at' x hx).c1,(h.at' x hx).c2,(h.at' x hx).c3,(h.at' x hx).f⟩⟩
def Kept.undrew(h:Kept w k0 l W.drew):Kept w k0 l W:=
 ⟨⟨h.bl.os,h.bl.tape,h.bl.output,h.bl.size,h.bl.block⟩,h.le,λx hx=>⟨(h.at' x hx).c0,(h.at' x hx).c1,(h.at' x hx).c2,(h.at' x hx).c3,(h.at' x hx).f⟩⟩
def Kept.alloc(h:Kept w k0 l W)(o:Obj):Kept w k0 l (W.alloc o):=h.call (aD o)
def Kept.set{j i:Nat}(h:Kept w k0 l W)(b:k0<=j)(k:∀x∈l,j≠x.k)(v:XB):Kept w k0 l (W.setCell ⟨j,i,none⟩ v):=
 ⟨h.bl.setCell (p:=⟨j,i,none⟩) b v,by simpa using h.le,λx hx=>(h.at' x hx).other (k x hx) v⟩
def Kept.set4{j:Nat}(h:Kept w k0 l W)(b:k0<=j)(k:∀x∈l,j≠x.k)(p q r s:XB):Kept w k0 l (Go.Proofs.YtlofhpkoaljmeaaGreat.set4 W j p q r s):=
 (((h.set b k p).set b k q).set b k r).set b k s
def Kept.set4'{j:Nat}(h:Kept w k0 l W)(b:k0<=j)(k:∀x∈l,j≠x.k)(p q r s:XB):
 Kept w k0 l ((((W.setCell (aZ j) p).setCell ⟨j,1,none⟩ q).setCell ⟨j,2,none⟩ r).setCell ⟨j,3,none⟩ s):=h.set4 b k p q r s
def Kept.lts(h:Kept w k0 l W):∀x∈l,x.k<W.heap.size:=λx hx=>(h.at' x hx).lt
def Kept.head(h:Kept w k0 (x :: l) W):x.at W:=h.at' x (YH)
def Kept.tail(h:Kept w k0 (x :: l) W):Kept w k0 l W:=⟨h.bl,h.le,λy k=>h.at' y (Yo _ k)⟩
def At4.blk{k a b c d:Nat}(h:At4 W k a b c d):(Blk.mk k 0 a b c d).at W:=⟨h.c0,h.c1,h.c2,h.c3,h.f⟩
def Blk.at.at4{k a b c d:Nat}(h:(Blk.mk k 0 a b c d).at W):At4 W k a b c d:=⟨h.c0,h.c1,h.c2,h.c3,h.f⟩
def Kept.mk1(b:Below k0 w W)(k:k0<=W.heap.size):Kept w k0 [] W:=⟨b,k,λ_ h=>by cases h⟩
def Kept.cons(h:Kept w k0 l W)(hx:x.at W):Kept w k0 (x :: l) W:=
 ⟨h.bl,h.le,λy b=>by rcases Y6.1 b with rfl|k;exact hx;exact h.at' y k⟩
def Kept.put{j a b c d:Nat}(h:Kept w k0 (⟨j,0,a,b,c,d⟩ :: l) W)(k:k0<=j)(e:∀x∈l,j≠x.k)(x y z t:Nat):
 Kept w k0 (⟨j,0,x,y,z,t⟩ :: l) ((((W.setCell (aZ j) (uZ x)).setCell ⟨j,1,none⟩ (uZ y)).setCell ⟨j,2,none⟩ (uZ z)).setCell ⟨j,3,none⟩ (uZ t)):=
 (h.tail.set4' k e _ _ _ _).cons (h.head.at4.self4 x y z t).blk
end
end Go.Proofs.YtlofhpkoaljmeaaGreat
