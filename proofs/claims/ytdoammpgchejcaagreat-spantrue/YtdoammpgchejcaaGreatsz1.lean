import Derived.KernelRfl
import Derived.Below
import Derived.Deep.MidRow
import Derived.WalkKit
import Derived.Test.YtdoammpgchejcaaGreatRows
import Derived.Lib.Mul64
import Derived.Laws.Bits64b
import Derived.Laws.Externs
import Derived.Sort.Row
import Derived.Deep.LoopGhost
import Derived.Deep.QuietTactic
import Derived.StillTailTactics
import Derived.BigRegion
import Derived.BigQuiet
import Derived.WalkSpells
import Derived.WalkLawsBesides
import Derived.OrdersHeld
import Derived.Orders
import Derived.Deep.CutRange
import Derived.Deep.Draws
set_option linter.unusedVariables false
set_option linter.constructorNameAsVariable false
set_option linter.unusedSimpArgs false
set_option maxRecDepth 1000000
set_option maxHeartbeats 4000000
namespace Go.Proofs.YtdoammpgchejcaaGreat
variable {args:Array Ut}{m z:Fin P}{C vs:List Ut}{B id j p q r s:Nat}{p0 p1 p2:Prop}{v0:Ut}{t:WF}
theorem yCl{c:Prop}{h:Decidable c}(hc:c){α:Sort _}{t e:α}:ite c t e=t:=if_pos hc
theorem yCm{c:Prop}{h:Decidable c}(hc:¬c){α:Sort _}{t e:α}:ite c t e=e:=if_neg hc
theorem yCn:True:=True.intro
open _root_.Array renaming all_eq_true'->Xa,any_eq_true'->XQ,getD_eq_getD_getElem?->UI,getElem?_eq_getElem->U0,getElem?_eq_none->WP,getElem?_eq_some_iff->UZ,getElem?_replicate->Yi,getElem?_setIfInBounds->WE,getElem?_toList->Vq,mapM_eq_mapM_toList->XC,replicate->UJ,size_setIfInBounds->VF
open _root_.Bool renaming and_eq_true->UL,or_false->WV,true_or->Yb
open _root_.Classical renaming byContradiction->Wv
open _root_.Fin renaming ext->Ya,val->yBa,val_mul->XL
open _root_.Go renaming Calls->UH,Exit->Yq,FuncId->Xs,Oper->Vk,Operand->XI,Program->VD,Tmp->WF,TypeId->U8,Value->Ut,World->Ur,bodyPost_ret->UE,execOp->U5,run_loadVar_mid->Yg,undef->WR
open _root_.Go.Code renaming region->V6
open _root_.Go.Instr renaming alloc->yBI,indexAt->Vl,loadAt->ZD,sliceAt->Xp,storeAt->Yy,sureAddr->X6
open _root_.Go.IntKind renaming u64->Vo,wrap_u64->XW
open _root_.Go.Lib renaming half_mul_le->ZW
open _root_.Go.Next renaming value->Xr
open _root_.Go.Oper renaming upon_enter->Xb,wp->VT
open _root_.Go.Region renaming binds->VP,ready->U7,wanted->V4
open _root_.Go.Result renaming andThen->ZV
open _root_.Go.RowKit renaming Below->yAt
open _root_.Go.Sem renaming run_bind->UV
open _root_.Go.Value renaming pointer->yBv,slice->Vw
open _root_.Go.World renaming block_lt_of_cell?->Xq,cell?->VY,cell?_alloc_new->Vd,cell?_of_block->UW,cell?_setCell_other->UU,cell?_setCell_same->VV,frozen?_alloc_new->Wx,frozen?_setCell->VM,setCells->YL,size_alloc->UB
open _root_.Int renaming add_zero->ZU,eq_ofNat_of_zero_le->yAm,natCast_zero->WJ
open _root_.List renaming all_eq_true->Va,append_nil->Xw,countP_cons->yA5,find?_some->Yf,getD_eq_getElem?_getD->VQ,getElem?_append_left->UT,getElem?_append_right->U1,getElem?_cons_succ->U9,getElem?_cons_zero->Vf,getElem?_drop->Zr,getElem?_eq_getElem->UG,getElem?_eq_none->Wz,getElem?_eq_some_iff->UF,getElem?_map->Vz,getElem?_of_mem->WM,getElem?_take->WC,length_append->UA,length_cons->Vj,length_drop->ZK,length_map->UQ,length_nil->WI,length_take->WH,mapM_cons->YR,mapM_nil->Y1,map_append->Wq,map_cons->XX,map_inj_left->Zz,mem_cons->VX,mem_cons_of_mem->Vb,mem_cons_self->Vu,mem_of_find?_eq_some->WQ,mem_of_getElem?->VJ,mem_range->V0,mem_zipIdx_iff_getElem?->YC,not_mem_nil->UY,range->VG,size_toArray->VC
open _root_.Nat renaming Coprime->ZT,add_mod->Zp,add_mul->XH,add_mul_mod_self_left->YS,add_sub_cancel_left->WN,add_zero->XD,ble_eq->yB7,dvd_of_mod_eq_zero->XO,dvd_trans->Zo,eq_zero_of_dvd_of_lt->YX,gcd->yAZ,gcd_dvd_left->ZO,gcd_dvd_right->ZF,le_of_ble_eq_true->VR,le_of_dvd->Ye,le_of_lt->XM,le_refl->Uw,le_succ->Zn,le_total->yBM,le_trans->UC,lt_of_lt_of_le->Ux,lt_of_succ_le->Xl,mod_add_mod->yBp,mod_eq_of_lt->US,mod_eq_sub_mod->yAN,mod_eq_zero_of_dvd->Ys,mod_lt->V7,mod_mod->yBY,mod_mod_of_dvd->Zu,mod_mul_mod->yBo,mul_add->YB,mul_assoc->X5,mul_comm->Vv,mul_le_mul->WS,mul_left_comm->ZE,mul_mod->XB,mul_one->XU,one_mul->Xk,pow_add->Yr,pow_dvd_pow->yBm,pow_mod->yAy,pow_mul->ZQ,pow_one->YT,pow_succ->V9,pow_zero->YP,strongRecOn->yBl,zero_add->UD,zero_le->WA,zero_mul->yBL,zero_pow->yBK
open _root_.Nat.Coprime renaming mul_dvd_of_dvd_of_dvd->WX
open _root_.Option renaming isSome_iff_exists->Vr,map_eq_some_iff->Uy,some->UO
open _root_.Or renaming inl->U4,inr->UX
open _root_.Prod renaming mk->V8
open Go.Proofs.Tryz
abbrev uZ(n:Int):Ut:=.int .u64 n
abbrev iZ(n:Int):Ut:=.int .i64 n
abbrev aZ(k:Nat):Go.Addr:=⟨k,0,none⟩
abbrev jZ(k:Nat):Ut:=.pointer (some ⟨k,0,none⟩)
abbrev sZ(k n c:Nat):Ut:=.slice (some ⟨k,0,none⟩) n c
abbrev oZ(k o:Nat):Ut:=.pointer (some ⟨k,o,none⟩)
section
variable {P:Nat}[NeZero P]{N:Nat}
theorem oM{p:Prop}(h:p:=by omega):p:=h
theorem kR{p:Prop}(h:p:=by kernel_rfl):p:=h
theorem dC{p:Prop}(h:p:=by decide):p:=h
theorem dK{p:Prop}(h:p:=by decide +kernel):p:=h
end
section
open Go Go.RowKit
theorem hE{α:Sort _}(x:α):∃y,Hid (x=y):=⟨x,rfl⟩
theorem mk1{p:Prop}(h:p):Hid p:=h
theorem mk2(b:p0)(k:p1):Hid (p0/\p1):=⟨b,k⟩
theorem mk3(b:p0)(k:p1)(c:p2):Hid (p0/\p1/\p2):=⟨b,k,c⟩
theorem mk4{k:Prop}(d:p0)(b:p1)(e:p2)(c:k):Hid (p0/\p1/\p2/\k):=⟨d,b,e,c⟩
theorem mk5{b k:Prop}(e:p0)(c:p1)(f:p2)(d:b)(g:k):Hid (p0/\p1/\p2/\b/\k):=⟨e,c,f,d,g⟩
theorem mk6{b k c:Prop}(f:p0)(d:p1)(g:p2)(e:b)(i:k)(j:c):Hid (p0/\p1/\p2/\b/\k/\c):=⟨f,d,g,e,i,j⟩
theorem mk7{b k c p6:Prop}(g:p0)(e:p1)(i:p2)(f:b)(j:k)(l:c)(d:p6):Hid (p0/\p1/\p2/\b/\k/\c/\p6):=⟨g,e,i,f,j,l,d⟩
theorem mk8{b k c p6 p7:Prop}(g:p0)(e:p1)(i:p2)(f:b)(j:k)(m:c)(d:p6)(l:p7):Hid (p0/\p1/\p2/\b/\k/\c/\p6/\p7):=⟨g,e,i,f,j,m,d,l⟩
section
variable {P:VD}{ops:Array Vk}{rest:List Vk}{op:Vk}{a:Act}{w w':Ur}{Q:Yq->Act->Ur->Prop}{T:U8}{y:XI}{g o:Nat}{cs:List Ut}{v:Ut}{ob:Obj}
theorem stR(t:WF)(e:Hid (w.setCells g o cs=w'))(hv:Hid (.agg cs.toArray=v))(th:w.there g o cs.toArray.size)(b:(P.info? T).map (·.size)=some cs.toArray.size)(c:cs.toArray.all (·.oneCell')=true)(h:wpList P ops Q rest (a.put op.dst WR) w')(k:op.guard=none:=by rfl)(ho:op.op=.store T (.tmp t) y:=by rfl)(hx:a.eval (.tmp t)=oZ g o:=by rfl)(d:a.eval y=v:=by rfl):wpList P ops Q (op :: rest) a w:=
 wpList_store_mid k T (.tmp t) y ho g o cs.toArray hx (d.trans hv.out.symm) th b c (by rw[show cs.toArray.toList=cs from rfl,e.out];exact h)
theorem ldR(t:WF)(f:w.rangeAt g o cs)(hv:Hid (.agg cs.toArray=v))(e:(P.underlying T).map (·.isRow)=some true)(b:(P.info? T).map (·.size)=some cs.length)(h:wpList P ops Q rest (a.put op.dst v) w)(k:op.guard=none:=by rfl)(ho:op.op=.load T (.tmp t):=by rfl)(hx:a.eval (.tmp t)=oZ g o:=by rfl):wpList P ops Q (op :: rest) a w:=by
 obtain⟨d,c,i⟩:=Uy.1 e;exact wpList_load_mid k T (.tmp t) ho g o hx cs d f c i b (by rw[hv.out];exact h)
theorem alR(t:WF)(c:Hid (w.heap.size=g))(e:Hid (w.alloc ob=w'))(h:wpList P ops Q rest (a.put op.dst (jZ g)) w')(hd:op.dst=some t:=by rfl)(k:op.guard=none:=by rfl)(b:(U5 a.eval op).run P w=.ok (.value (jZ w.heap.size)) (w.alloc ob):=by kernel_rfl):wpList P ops Q (op :: rest) a w:=
 wpList_plain k λK d=>by
  unfold VT;rw[b,c.out,e.out];exact d _ _ h
end
end
section
open Go.RowKit
variable {P:Nat}[NeZero P]{N:Nat}
def val(a b c d:Nat):Nat:=a+18446744073709551616*b+340282366920938463463374607431768211456*c+6277101735386680763835789423207666416102355444464034512896*d
def Four(v:Ut)(n:Nat):Prop:=∃a b c d:Nat,v=.agg #[uZ a,uZ b,uZ c,uZ d] /\
 a<18446744073709551616/\b<18446744073709551616/\c<18446744073709551616/\d<18446744073709551616/\n=val a b c d
def top:Nat:=115792089237316195423570985008687907853269984665640564039457584007913129639936
theorem mO{a b c d:Nat}(k:a<18446744073709551616)(f:b<18446744073709551616)(e:c<18446744073709551616)(hd:d<18446744073709551616):val a b c d<top:=by
 unfold val top;omega
theorem Four.lt{v:Ut}{n:Nat}(h:Four v n):n<top:=by
 obtain⟨a,b,c,d,-,k,f,e,hd,rfl⟩:=h;exact mO k f e hd
theorem val_inj{a b c d:Nat}(k:a<18446744073709551616)(g:b<18446744073709551616)(e:c<18446744073709551616)
 (j:p<18446744073709551616) (i:q<18446744073709551616) (f:r<18446744073709551616) (h:val a b c d=val p q r s):a=p/\b=q/\c=r/\d=s:=by
 unfold val at h;omega
theorem Four.inj{v k:Ut}{n:Nat}(h:Four v n)(m:Four k n):v=k:=by
 obtain⟨a,b,c,d,rfl,j,i,l,hd,e⟩:=h;obtain⟨p,q,r,s,rfl,o,g,f,t,e'⟩:=m;obtain⟨rfl,rfl,rfl,rfl⟩:=val_inj j i l o g f (e.symm.trans e');rfl
theorem Four.num{v:Ut}{n m:Nat}(h:Four v n)(k:Four v m):n=m:=by
 obtain⟨a,b,c,d,rfl,l,j,o,hd,rfl⟩:=h;obtain⟨p,q,r,s,e,t,g,f,i,rfl⟩:=k;simp only[Value.agg.injEq,Array.mk.injEq,List.cons.injEq,Value.int.injEq,true_and,and_true,Int.ofNat_inj]at e;obtain⟨rfl,rfl,rfl,rfl⟩:=e;rfl
theorem Four.mk{a b c d n:Nat}(e:a<18446744073709551616)(g:b<18446744073709551616)(f:c<18446744073709551616)(hd:d<18446744073709551616)(k:n=val a b c d):
 Four (.agg #[uZ a,uZ b,uZ c,uZ d]) n:=⟨a,b,c,d,rfl,e,g,f,hd,k⟩
theorem ret_int{k:IntKind}{a b:Int}(h:a=b):Ending.returned (.int k a)=.returned (.int k b):=by rw[h]
end
section
open Go.RowKit Go.Sort
variable {P:Nat}[NeZero P]{N:Nat}
theorem mixed:prog.follows .mixedOrders=true:=kR
theorem FZ(x y c:Nat)(hx:x<18446744073709551616)(d:y<18446744073709551616)(b:c<=1):
 ∃s k:Nat,(∀w,(callFunc 175 #[uZ x,uZ y,uZ c]).run prog w=.ok (.value (.tuple #[uZ s,uZ k])) w) /\
  s<18446744073709551616/\k<=1/\s+18446744073709551616*k=x+y+c:=by
 refine⟨(x+y+c)%18446744073709551616,(x+y+c)/18446744073709551616,λw=>?_,oM,oM,oM⟩;rw[run_callFunc_extern func175 kR kR kR (e:=add64Entry) kR,run_add64 x y c oM oM oM oM];simp only[ZV]
 congr 5<;>omega
theorem Ex(x y c:Nat)(hx:x<18446744073709551616)(d:y<18446744073709551616)(b:c<=1):
 ∃s k:Nat,(∀w,(callFunc 167 #[uZ x,uZ y,uZ c]).run prog w=.ok (.value (.tuple #[uZ s,uZ k])) w) /\
  s<18446744073709551616/\k<=1/\s+y+c=x+18446744073709551616*k:=by
 refine⟨(x+18446744073709551616-y-c)%18446744073709551616,if x<y+c then 1 else 0,λw=>?_,oM,by split<;>omega,by split<;>omega⟩;rw[run_callFunc_extern func167 kR kR kR (e:=(Extern.MathBitsCarry.rows[1]).2) kR];have:c=0\/c=1:=oM;rcases this with rfl|rfl<;>rfl
theorem yT(x y:Nat)(hx:x<18446744073709551616)(b:y<18446744073709551616):
 ∃s k:Nat,(∀w,(callFunc 175 #[uZ x,uZ y,uZ 0]).run prog w=.ok (.value (.tuple #[uZ s,uZ k])) w) /\
  s<18446744073709551616/\k<=1/\s+18446744073709551616*k=x+y:=FZ x y 0 hx b (WA 1)
theorem OA(x y:Nat)(hx:x<18446744073709551616)(b:y<18446744073709551616):
 ∃s k:Nat,(∀w,(callFunc 167 #[uZ x,uZ y,uZ 0]).run prog w=.ok (.value (.tuple #[uZ s,uZ k])) w) /\
  s<18446744073709551616/\k<=1/\s+y=x+18446744073709551616*k:=Ex x y 0 hx b (WA 1)
theorem maskN(a:Nat)(k:a<18446744073709551616):bits .and .u64 (a:Int) 4294967295=((a%4294967296:Nat):Int):=by
 have h:=bits_and_u64_nat a 4294967295 k oM;rw[show a &&& 4294967295=a%4294967296 from Nat.and_two_pow_sub_one_eq_mod a 32]at h;exact h
theorem divN(a:Nat):(a:Int)/4294967296=((a/4294967296:Nat):Int):=oM
theorem mulN(a b:Nat):(a:Int)*(b:Int)=((a*b:Nat):Int):=(Int.natCast_mul a b).symm
theorem addN(a b:Nat):(a:Int)+(b:Int)=((a+b:Nat):Int):=(Int.natCast_add a b).symm
theorem wrapN(a:Nat)(k:a<18446744073709551616):Vo.wrap (a:Int)=(a:Int):=by rw[XW];omega
theorem wrapM(a:Nat):Vo.wrap (a:Int)=((a%18446744073709551616:Nat):Int):=by rw[XW];omega
theorem Pj(x y:Nat)(hx:x<18446744073709551616)(d:y<18446744073709551616)(w:Ur):
 UH prog 174 #[uZ x,uZ y] w λe w'=>e=.returned (.tuple #[uZ ((x*y/18446744073709551616:Nat):Int),uZ ((x*y%18446744073709551616:Nat):Int)])/\w'=w:=by
 obtain⟨i,f,bw,k⟩:=Lib.mul64_hi x y hx d;have m:=ZW (a:=x/4294967296) (b:=y/4294967296) oM oM;have n:=ZW (a:=x/4294967296) (b:=y%4294967296) oM oM;have o:=ZW (a:=x%4294967296) (b:=y/4294967296) oM oM;have b1:x/4294967296*(y/4294967296)<18446744073709551616:=oM;have l:x/4294967296*(y%4294967296)<18446744073709551616:=oM;have g:x%4294967296*(y/4294967296)<18446744073709551616:=oM;have c:x/4294967296*(y/4294967296)+(x/4294967296*(y%4294967296)+x%4294967296*(y%4294967296)/4294967296)/4294967296<18446744073709551616:=oM;have j:x/4294967296*(y/4294967296)+(x/4294967296*(y%4294967296)+x%4294967296*(y%4294967296)/4294967296)/4294967296+((x/4294967296*(y%4294967296)+x%4294967296*(y%4294967296)/4294967296)%4294967296+x%4294967296*(y/4294967296))/4294967296<18446744073709551616:=oM;go_enter func174,ntmps174;go_wp2;simp only[maskN x hx,maskN y d,divN,mulN,addN,wrapN _ i,wrapN _ l,wrapN _ f,maskN _ f,wrapN _ g,wrapN _ bw,wrapN _ b1,wrapN _ c,wrapN _ j,wrapM (x*y)];rw[k]
 go_ret2
 exact⟨rfl,rfl⟩
theorem I5(x y:Nat)(hx:x<18446744073709551616)(k:y<18446744073709551616):
 ∃h l:Nat,(∀w,UH prog 174 #[uZ x,uZ y] w λe w'=>e=.returned (.tuple #[uZ h,uZ l])/\w'=w) /\
  h<18446744073709551616/\l<18446744073709551616/\l+18446744073709551616*h=x*y:=by
 have b:x*y<=18446744073709551615*18446744073709551615:=WS oM oM;exact⟨_,_,λw=>Pj x y hx k w,oM,oM,oM⟩
theorem Rq(x y:Nat)(hx:x<18446744073709551616)(g:y<18446744073709551616)(w:Ur):
 UH prog 174 #[uZ x,uZ y] w λe w'=>w'=w/\∃h l:Nat,e=.returned (.tuple #[uZ h,uZ l]) /\
  h<18446744073709551616/\l<18446744073709551616/\l+18446744073709551616*h=x*y:=by
 obtain⟨h,l,d,b,f,c⟩:=I5 x y hx g;exact(d w).mono λe w' k=>⟨k.2,h,l,k.1,b,f,c⟩
theorem Ta(x y o c:Nat)(hx:x<18446744073709551616)(m:y<18446744073709551616)(ho:o<18446744073709551616)(s:c<18446744073709551616):
 ∃h l s1 k s2 b g d:Nat,(∀w,UH prog 174 #[uZ x,uZ y] w λe w'=>e=.returned (.tuple #[uZ h,uZ l])/\w'=w) /\
  (∀w,(callFunc 175 #[uZ l,uZ c,uZ 0]).run prog w=.ok (.value (.tuple #[uZ s1,uZ k])) w) /\
  (∀w,(callFunc 175 #[uZ o,uZ s1,uZ 0]).run prog w=.ok (.value (.tuple #[uZ s2,uZ b])) w) /\
  Vo.wrap ((h:Int)+(k:Int))=(g:Int)/\Vo.wrap ((g:Int)+(b:Int))=(d:Int) /\
  s2<18446744073709551616/\d<18446744073709551616/\s2+18446744073709551616*d=x*y+o+c:=by
 have p:x*y<=18446744073709551615*18446744073709551615:=WS oM oM;obtain⟨h,l,i,hh,r,u⟩:=I5 x y hx m;obtain⟨s1,k,q,d,n,t⟩:=yT l c r s;obtain⟨s2,b,a2,f,j,e3⟩:=yT o s1 ho d;refine⟨h,l,s1,k,s2,b,h+k,h+k+b,i,q,a2,?_,?_,f,oM,oM⟩
 ·rw[addN];exact wrapN _ oM
 ·rw[addN];exact wrapN _ oM
theorem rK(x y o c:Nat)(hx:x<18446744073709551616)(g:y<18446744073709551616)(ho:o<18446744073709551616)(p:c<18446744073709551616)(w:Ur):
 UH prog 243 #[uZ x,uZ y,uZ o,uZ c] w λe w'=>w'=w/\∃l h:Nat,e=.returned (.tuple #[uZ l,uZ h]) /\
  h<18446744073709551616/\l<18446744073709551616/\l+18446744073709551616*h=x*y+o+c:=by
 have m:x*y<=18446744073709551615*18446744073709551615:=WS oM oM;go_enter func243,ntmps243;go_wp2_with fail
 refine(Rq x y hx g _).mono ?_;rintro e j ⟨rfl,h,l,rfl,hh,n,t⟩;obtain⟨s1,k,s,b,i,r⟩:=yT l o n ho;obtain⟨s2,d,a2,q,f,e3⟩:=yT s1 c b p;have j:Vo.wrap ((h:Int)+(k:Int))=((h+k:Nat):Int):=by rw[addN];exact wrapN _ oM
 have u:Vo.wrap (((h+k:Nat):Int)+(d:Int))=((h+k+d:Nat):Int):=by rw[addN];exact wrapN _ oM
 go_wp2
 go_ret2
 refine⟨rfl,s2,h+k+d,?_,oM,oM,oM⟩;rfl
def Ret(Q:Ut->Ur->Prop)(e:Ending)(w:Ur):Prop:=∃v,e=.returned v/\Q v w
abbrev rZ(w:Ur)(Q:Ut->Ur->Prop):Go.Ending->Ur->Prop:=Ret λe w'=>yAt w.heap.size w w'/\Q e w'
abbrev kZ(w W:Ur):Prop:=yAt w.heap.size w W
theorem aC(w:Ur)(k:Obj):kZ w (w.alloc k):=(Below.refl _ _).alloc (Uw _) k
theorem below2(w:Ur)(k b:Obj):kZ w ((w.alloc k).alloc b):=(aC w k).alloc (by simp) b
theorem below3(w:Ur)(k b c:Obj):kZ w (((w.alloc k).alloc b).alloc c):=(below2 w k b).alloc (by simp;omega) c
theorem Ee(w:Ur)(c d b k:Obj):kZ w ((((w.alloc c).alloc d).alloc b).alloc k):=(below3 w c d b).alloc (by simp;omega) k
theorem qV(x y:Ut)(m n:Nat)(hx:Four x m)(A:Four y n)(w:Ur):
 UH prog 126 #[x,y] w (rZ w λe w'=>∃(v:Ut) (s k:Nat),e=.tuple #[v,uZ k]/\Four v s/\k<=1/\s+top*k=m+n):=by
 obtain⟨a,b,c,d,rfl,L,H,M,hd,D⟩:=hx;obtain⟨p,q,r,s,rfl,N,B,hr,F,E⟩:=A;obtain⟨s0,I,a0,l,f,O⟩:=yT a p L N;obtain⟨s1,C,J,j,o,Q⟩:=FZ b q I H B f;obtain⟨s2,G,a2,u,i,P⟩:=FZ c r C M hr o;obtain⟨s3,z,K,t,g,e3⟩:=FZ d s G hd F i;have hv:val s0 s1 s2 s3+top*z=m+n:=by rw[D,E];unfold val top;omega
 go_enter func126,ntmps126;go_wp2_with (first|simp only[a0]|simp only[J]|simp only[a2]|simp only[K])
 refine UE (v:=?v) ?hr rfl ?hR
 case hr=>simp[results,Tryz.results126,go_sem];rfl
 exact⟨_,rfl,below3 _ _ _ _,_,_,z,rfl,Four.mk l j u t rfl,g,hv⟩
theorem sL(x y:Ut)(m n:Nat)(hx:Four x m)(A:Four y n)(w:Ur):
 UH prog 239 #[x,y] w (rZ w λe w'=>∃(v:Ut) (s k:Nat),e=.tuple #[v,uZ k]/\Four v s/\k<=1/\s+n=m+top*k):=by
 obtain⟨a,b,c,d,rfl,L,H,M,hd,D⟩:=hx;obtain⟨p,q,r,s,rfl,N,B,hr,F,E⟩:=A;obtain⟨s0,I,a0,l,f,O⟩:=OA a p L N;obtain⟨s1,C,J,j,o,Q⟩:=Ex b q I H B f;obtain⟨s2,G,a2,u,i,P⟩:=Ex c r C M hr o;obtain⟨s3,z,K,t,g,e3⟩:=Ex d s G hd F i;have hv:val s0 s1 s2 s3+n=m+top*z:=by rw[D,E];unfold val top;omega
 go_enter func239,ntmps239;go_wp2_with (first|simp only[a0]|simp only[J]|simp only[a2]|simp only[K])
 refine UE (v:=?v) ?hr rfl ?hR
 case hr=>simp[results,Tryz.results239,go_sem];rfl
 exact⟨_,rfl,below3 _ _ _ _,_,_,z,rfl,Four.mk l j u t rfl,g,hv⟩
theorem jN(x:Ut)(m:Nat)(hx:Four x m)(w:Ur):
 UH prog 127 #[x] w (rZ w λe w'=>e=x):=by
 obtain⟨a,b,c,d,rfl,k,i,g,hd,f⟩:=hx;go_enter func127,ntmps127;go_wp2;refine UE (v:=?v) ?hr rfl ?hR
 case hr=>simp[results,Tryz.results127,go_sem];rfl
 exact⟨_,rfl,below2 _ _ _,rfl⟩
theorem jI(x:Ut)(m:Nat)(hx:Four x m)(w:Ur):
 UH prog 214 #[x] w (rZ w λe w'=>e=x):=by
 obtain⟨a,b,c,d,rfl,k,i,g,hd,f⟩:=hx;go_enter func214,ntmps214;go_wp2;refine UE (v:=?v) ?hr rfl ?hR
 case hr=>simp[results,Tryz.results214,go_sem];rfl
 exact⟨_,rfl,below2 _ _ _,rfl⟩
theorem EU(x a b c d:Nat):x*val a b c d=val (x*a) (x*b) (x*c) (x*d):=by
 unfold val;rw[YB,YB,YB,ZE x _ b,ZE x _ c,ZE x _ d]
theorem LP{x a b c d e k l o g f i m n:Nat}(t:m=val a b c d)(u:n=val p q r s)
 (v:e+18446744073709551616*j=x*a+p+0) (y:k+18446744073709551616*g=x*b+q+j)
 (w:l+18446744073709551616*f=x*c+r+g) (e3:o+18446744073709551616*i=x*d+s+f) :
 e+18446744073709551616*val k l o i=x*m+n:=by
 rw[t,u,EU x a b c d];unfold val;omega
theorem jX(x:Nat)(y z:Ut)(m n:Nat)(hx:x<18446744073709551616)(B:Four y m)(O:Four z n)(w:Ur):
 UH prog 234 #[uZ x,y,z] w (rZ w λe w'=>∃(l:Nat) (v:Ut) (s:Nat),e=.tuple #[uZ l,v]/\l<18446744073709551616/\Four v s/\l+18446744073709551616*s=x*m+n):=by
 obtain⟨a,b,c,d,rfl,N,M,Q,hd,E⟩:=B;obtain⟨p,q,r,s,rfl,R,C,hr,G,F⟩:=O;go_enter func234,ntmps234;go_wp2_with fail
 refine(rK x a p 0 hx N R dC _).mono ?_;rintro e o ⟨rfl,H,L,rfl,j,k,D⟩;go_wp2_with fail
 refine(rK x b q L hx M C j _).mono ?_;rintro e o ⟨rfl,S,K,rfl,A,f,P⟩;go_wp2_with fail
 refine(rK x c r K hx Q hr A _).mono ?_;rintro e o ⟨rfl,U,I,rfl,g,u,J⟩;go_wp2_with fail
 refine(rK x d s I hx hd G g _).mono ?_;rintro e o ⟨rfl,V,T,rfl,i,t,e3⟩;go_wp2;refine UE (v:=?v) ?hr rfl ?hR
 case hr=>simp[results,Tryz.results234,go_sem];rfl
 exact⟨_,rfl,below3 _ _ _ _,H,_,_,rfl,k,Four.mk f u t i rfl,LP E F D P J e3⟩
end
namespace RG
open Go Go.RowKit
inductive SV where
 | v (x:Ut)
 | p (b o:Nat)
 | s (b n c:Nat)
 | t (b n c:Nat) (y:Ut)
def SV.at(μ:Nat->Nat):SV->Ut
 | .v x=>x
 | .p b o=>.pointer (some ⟨μ b,o,none⟩)
 | .s b n c=>.slice (some ⟨μ b,0,none⟩) n c
 | .t b n c y=>.tuple #[.slice (some ⟨μ b,0,none⟩) n c,y]
def SV.blk:SV->Option Nat
 | .v _=>none
 | .p b _=>some b
 | .s b _ _=>some b
 | .t b _ _ _=>some b
theorem SV.at_congr{μ ν:Nat->Nat}{s:SV}(h:∀b,s.blk=some b->μ b=ν b):s.at μ=s.at ν:=by
 cases s with
 | v x=>rfl
 | p b o=>show yBv (some ⟨μ b,o,none⟩)=.pointer (some ⟨ν b,o,none⟩);rw[h b rfl]
 | s b n c=>show Vw (some ⟨μ b,0,none⟩) n c=.slice (some ⟨ν b,0,none⟩) n c;rw[h b rfl]
 | t b n c y=>show Value.tuple #[.slice (some ⟨μ b,0,none⟩) n c,y]=.tuple #[.slice (some ⟨ν b,0,none⟩) n c,y];rw[h b rfl]
inductive Kind where
 | stay
 | pass
 | call
 | make (b:Nat)
 | put (b:Nat)
structure It where
 dst:Option WF
 need:List (WF × Nat)
 out:SV
 kind:Kind
structure Bl where
 before:List Ut
 after:List Ut
 al:Option Nat
 st:Option Nat
def on(L:Array Bool)(i:Nat):Bool:=L.getD i false
def Bl.live(e:Bl)(L:Array Bool):Bool:=(e.al.map (on L)).getD true
def Bl.put(e:Bl)(L:Array Bool):Bool:=(e.st.map (on L)).getD false
def Bl.now(e:Bl)(L:Array Bool):List Ut:=if e.put L=true then e.after else e.before
theorem eC{L:Array Bool}{i:Nat}(h:i<L.size):on (L.setIfInBounds i true) j=(on L j || i == j):=by
 unfold on;simp only[UI,WE];by_cases k:i=j
 ·subst k;simp[h]
 ·simp[k]
theorem iC{e:Bl}{L:Array Bool}{i:Nat}(h:i<L.size):e.live (L.setIfInBounds i true)=(e.live L || e.al == some i):=by
 unfold Bl.live;cases d:e.al with
 | none=>rfl
 | some j =>
  show on _ j=(on L j || _);rw[eC h];by_cases k:i=j
  ·subst k;simp
  ·have b:(i == j)=false:=by simpa using k
   have c:(some j == some i)=false:=by simpa using λh=>k h.symm
   rw[b,c]
theorem kB{e:Bl}{L:Array Bool}{i:Nat}(h:i<L.size):e.put (L.setIfInBounds i true)=(e.put L || e.st == some i):=by
 unfold Bl.put;cases d:e.st with
 | none=>rfl
 | some j =>
  show on _ j=(on L j || _);rw[eC h];by_cases k:i=j
  ·subst k;simp
  ·have b:(i == j)=false:=by simpa using k
   have c:(some j == some i)=false:=by simpa using λh=>k h.symm
   rw[b,c]
theorem range_below{k o:Nat}{w w':Ur}{cs:List Ut}(h:w.rangeAt k o cs)(c:Below B w w')(b:k<B):w'.rangeAt k o cs:=λj v hv=>by
 rw[c.cell (p:=⟨k,o+j,none⟩) b];exact h j v hv
theorem dJ{k o n:Nat}{w w':Ur}(h:w.there k o n)(c:Below B w w')(b:k<B):w'.there k o n:=λj d=>by
 rw[c.cell (p:=⟨k,o+j,none⟩) b,c.frozen (p:=⟨k,o+j,none⟩) b];exact h j d
theorem below_setCells{k:Nat}{b:Ur}(c:B<=k):∀(vs:List Ut) (o:Nat) (w:Ur),Below B b w->Below B b (w.setCells k o vs)
 | [],_,_,h=>h
 | v :: r,o,w,h=>below_setCells c r (o+1) _ (h.setCell (p:=⟨k,o,none⟩) c v)
theorem setCells_size(k:Nat):∀(vs:List Ut) (o:Nat) (w:Ur),(w.setCells k o vs).heap.size=w.heap.size
 | [],_,_=>rfl
 | v :: r,o,w=>by
  rw[YL,setCells_size k r (o+1)];simp[World.setCell]
theorem there_setCells{k b o n:Nat}:∀(vs:List Ut) (i:Nat) (w:Ur),w.there b o n->(w.setCells k i vs).there b o n
 | [],_,_,h=>h
 | v :: r,i,w,h=>there_setCells r (i+1) _ λj c=>⟨World.isSome_setCells k [v] i w _ (h j c).1,by rw[VM];exact(h j c).2⟩
structure BelX(k0:Nat)(X:List Nat)(w w':Ur):Prop where
 os:w'.os=w.os
 tape:w'.tape=w.tape
 output:w'.output=w.output
 size:w.heap.size<=w'.heap.size
 block:∀j,j<k0->j ∉ X->w'.heap[j]? = w.heap[j]?
theorem BelX.below{k:Nat}{w w':Ur}(h:BelX k [] w w'):Below k w w':=⟨h.os,h.tape,h.output,h.size,λj b=>h.block j b UY⟩
theorem BelX.drew{k:Nat}{X:List Nat}{w w':Ur}(h:BelX k X w w'):BelX k X w w'.drew:=⟨h.os,h.tape,h.output,h.size,h.block⟩
theorem BelX.refl(k:Nat)(X:List Nat)(w:Ur):BelX k X w w:=⟨rfl,rfl,rfl,Uw _,λ_ _ _=>rfl⟩
theorem BelX.trans{d:Nat}{X:List Nat}{a b c:Ur}(h:BelX d X a b)(k:BelX d X b c):BelX d X a c:=
 ⟨k.os.trans h.os,k.tape.trans h.tape,k.output.trans h.output,UC h.size k.size,λi e hx=>(k.block i e hx).trans (h.block i e hx)⟩
structure Wd(w0:Ur)(k0:Nat)(X:List Nat)(bl:List Bl)(L:Array Bool)(μ:Nat->Nat)(w:Ur):Prop where
 bel:BelX k0 X w0 w
 le:k0<=w.heap.size
 has:∀(b:Nat) (e:Bl),bl[b]? = some e->e.live L=true->w.rangeAt (μ b) 0 (e.now L)/\w.there (μ b) 0 e.before.length/\μ b<w.heap.size/\(k0<=μ b\/μ b∈X)
 inj:∀(b c:Nat) (e f:Bl),bl[b]? = some e->bl[c]? = some f->e.live L=true->f.live L=true->b≠c->μ b≠μ c
variable {w0 w w':Ur}{k0:Nat}{X:List Nat}{bl:List Bl}{L:Array Bool}{μ:Nat->Nat}
theorem Wd.same{g:Array Bool}(h:Wd w0 k0 X bl L μ w)(d:∀(b:Nat) (e:Bl),bl[b]? = some e->e.live g=e.live L/\e.put g=e.put L):Wd w0 k0 X bl g μ w:=by
 refine⟨h.bel,h.le,λb e k hv=>?_,λb c e f k i j hf=>h.inj b c e f k i ((d b e k).1 ▸ j) ((d c f i).1 ▸ hf)⟩;have:=h.has b e k ((d b e k).1 ▸ hv);unfold Bl.now at this⊢;rw[(d b e k).2];exact this
theorem Wd.call(h:Wd w0 k0 X bl L μ w)(c:kZ w w'):Wd w0 k0 X bl L μ w':=by
 refine⟨h.bel.trans ⟨c.os,c.tape,c.output,c.size,λk i _=>c.block k (Ux i h.le)⟩,UC h.le c.size,λb e f hv=>?_,h.inj⟩;obtain⟨g,j,d,l⟩:=h.has b e f hv;exact⟨range_below g c d,dJ j c d,Ux d c.size,l⟩
def upd(μ:Nat->Nat)(b k:Nat):Nat->Nat:=λc=>if c=b then k else μ c
structure Made(w:Ur)(k:Nat)(c:List Ut)(w':Ur):Prop where
 bel:kZ w w'
 le:w.heap.size<=k
 lt:k<w'.heap.size
 range:w'.rangeAt k 0 c
 there:w'.there k 0 c.length
theorem Made.alloc(w:Ur)(c:List Ut)(t:U8):Made w w.heap.size c (w.alloc (.cells c.toArray t)):=by
 refine⟨aC w _,Uw _,by rw[UB];omega,λj v k=>?_,λj k=>⟨?_,Wx _ _ _ _⟩⟩
 ·rw[UD,Vd];simpa using k
 ·rw[UD,Vd];simp[k]
theorem Wd.make{i b k:Nat}{e:Bl}(h:Wd w0 k0 X bl L μ w)(z:i<L.size)(y:bl[b]? = some e)(D:e.al=some i)(u:∀(c:Nat) (f:Bl),bl[c]? = some f->c≠b->f.al≠some i)
 (j:∀(c:Nat) (f:Bl),bl[c]? = some f->f.st≠some i) (v:e.put L=false) (t:Made w k e.before w') :
 Wd w0 k0 X bl (L.setIfInBounds i true) (upd μ b k) w':=by
 have o:∀(c:Nat) (f:Bl),bl[c]? = some f->f.put (L.setIfInBounds i true)=f.put L:=λc f m=>by
  rw[kB z,show(f.st == some i)=false by simpa using j c f m,WV]
 have n:∀(c:Nat) (f:Bl),bl[c]? = some f->c≠b->f.live (L.setIfInBounds i true)=f.live L:=λc f m j=>by
  rw[iC z,show(f.al == some i)=false by simpa using u c f m j,WV]
 have p:∀(c:Nat) (f:Bl),bl[c]? = some f->c≠b->f.live (L.setIfInBounds i true)=true->μ c<w.heap.size:=λc f m j hv=>(h.has c f m (n c f m j ▸ hv)).2.2.1
 have l:=t.bel;have r:=t.le;refine⟨h.bel.trans ⟨l.os,l.tape,l.output,l.size,λk C _=>l.block k (Ux C h.le)⟩,UC h.le l.size,λc f m hv=>?_,λc d f g m hd hf x s=>?_⟩
 ·by_cases j:c=b
  ·subst j;rw[y]at m;obtain rfl:e=f:=UO.inj m;have q:e.now (L.setIfInBounds i true)=e.before:=by unfold Bl.now;rw[o c e y,v];rfl
   rw[q];unfold upd;rw[yCl rfl];exact⟨t.range,t.there,t.lt,U4 (UC h.le r)⟩
  ·obtain⟨B,a,v,A⟩:=h.has c f m (n c f m j ▸ hv);unfold upd;rw[yCm j];have q:f.now (L.setIfInBounds i true)=f.now L:=by unfold Bl.now;rw[o c f m]
   rw[q];exact⟨range_below B l v,dJ a l v,Ux v l.size,A⟩
 ·unfold upd;by_cases j:c=b
  ·subst j;rw[yCl rfl,yCm (λh=>s h.symm)];exact Nat.ne_of_gt (Ux (p d g hd (λh=>s h.symm) x) r)
  ·by_cases q:d=b
   ·subst q;rw[yCl rfl,yCm j];exact Nat.ne_of_lt (Ux (p c f m j hf) r)
   ·rw[yCm j,yCm q];exact h.inj c d f g m hd (n c f m j ▸ hf) (n d g hd q ▸ x) s
structure PutTo(k n:Nat)(cs:List Ut)(w w':Ur):Prop where
 os:w'.os=w.os
 tape:w'.tape=w.tape
 output:w'.output=w.output
 size:w.heap.size<=w'.heap.size
 block:∀j,j<w.heap.size->j≠k->w'.heap[j]? = w.heap[j]?
 range:w'.rangeAt k 0 cs
 there:w'.there k 0 n
theorem aH(k:Nat):∀(vs:List Ut) (o:Nat) (w:Ur) (j:Nat),j≠k->(w.setCells k o vs).heap[j]? = w.heap[j]?
 | [],_,_,_,_=>rfl
 | v :: r,o,w,j,h=>by
  rw[YL,aH k r (o+1) _ j h,Below.heap_setCell _ _ _ _ h]
theorem mX(k:Nat):∀(vs:List Ut) (o:Nat) (w:Ur),(w.setCells k o vs).os=w.os/\(w.setCells k o vs).tape=w.tape/\(w.setCells k o vs).output=w.output
 | [],_,_=>⟨rfl,rfl,rfl⟩
 | v :: r,o,w=>by rw[YL];exact mX k r (o+1) _
theorem PutTo.store{k n o:Nat}{b c:List Ut}(f:w.there k 0 n)(l:w.rangeAt k 0 b)(x:o+vs.length<=n)(s:∀j,c[j]? = if o<=j/\j<o+vs.length then vs[j-o]? else b[j]?):PutTo k n c w (w.setCells k o vs):=by
 obtain⟨q,m,r⟩:=mX k vs o w;refine⟨q,m,r,by rw[setCells_size];exact Uw _,λj _ d=>aH k vs o w j d,λj v hv=>?_,there_setCells _ _ _ f⟩;have e:w.there k o vs.length:=λj d=>by have:=f (o+j) oM;rwa[UD]at this
 rw[s j]at hv;rw[UD];by_cases d:o<=j/\j<o+vs.length
 ·rw[yCl d]at hv;have:=World.rangeAt_setCells_same w k o vs e (j-o) v hv;rwa[show o+(j-o)=j by omega]at this
 ·rw[yCm d]at hv;have p:w.rangeAt k j [v]:=λi u g=>by
   cases i with
   | zero =>
    obtain rfl:v=u:=by simpa using g
    have:=l j v hv;rwa[UD]at this
   | succ i=>simp at g
  have t:=World.rangeAt_setCells_apart p k o vs (UX (by simp only[Vj,WI];omega));have:=t 0 v rfl;exact this
theorem PutTo.whole{k:Nat}{b c:List Ut}(e:w.there k 0 b.length)(f:w.rangeAt k 0 b)(g:c.length=b.length):PutTo k b.length c w (w.setCells k 0 c):=
 PutTo.store e f oM (λj=>by
  by_cases d:0<=j/\j<0+c.length
  ·rw[yCl d];rfl
  ·rw[yCm d,Wz oM,Wz oM])
theorem Wd.put{i b:Nat}{e:Bl}(h:Wd w0 k0 X bl L μ w)(u:i<L.size)(t:bl[b]? = some e)(y:e.st=some i)(hv:e.live L=true)(n:PutTo (μ b) e.before.length e.after w w')
 (k:∀(c:Nat) (f:Bl),bl[c]? = some f->c≠b->f.st≠some i) (o:∀(c:Nat) (f:Bl),bl[c]? = some f->f.al≠some i) :
 Wd w0 k0 X bl (L.setIfInBounds i true) μ w':=by
 have l:∀(c:Nat) (f:Bl),bl[c]? = some f->f.live (L.setIfInBounds i true)=f.live L:=λc f m=>by
  rw[iC u,show(f.al == some i)=false by simpa using o c f m,WV]
 obtain⟨E,F,G,D⟩:=h.has b e t hv;have C:=h.le;refine⟨h.bel.trans ⟨n.os,n.tape,n.output,n.size,λj q hx=>n.block j oM (λe=>D.elim (λh=>oM) (λh=>hx (e ▸ h)))⟩,UC h.le n.size,λc f m p=>?_,λc d f g m hd hf A=>h.inj c d f g m hd (l c f m ▸ hf) (l d g hd ▸ A)⟩;rw[l c f m]at p;obtain⟨B,z,s,x⟩:=h.has c f m p;by_cases o:c=b
 ·subst o;rw[t]at m;obtain rfl:e=f:=UO.inj m;have r:e.now (L.setIfInBounds i true)=e.after:=by
   unfold Bl.now;rw[kB u,y];simp
  rw[r];exact⟨n.range,n.there,Ux s n.size,x⟩
 ·have r:f.now (L.setIfInBounds i true)=f.now L:=by
   unfold Bl.now;rw[kB u,show(f.st == some i)=false by simpa using k c f m o,WV]
  rw[r];have k:=n.block (μ c) s (h.inj c b f e m t p hv o);refine⟨λj v q=>?_,λj q=>?_,Ux s n.size,x⟩
  ·rw[UW (w:=w) (a:=⟨μ c,0+j,none⟩) k];exact B j v q
  ·rw[UW (w:=w) (a:=⟨μ c,0+j,none⟩) k,World.frozen?_of_block (w:=w) (a:=⟨μ c,0+j,none⟩) k];exact z j q
end RG
namespace RG
open Go Go.RowKit
variable {P:VD}{ops:Array Vk}{Q:Yq->Act->Ur->Prop}{w0 w:Ur}{k0:Nat}{X:List Nat}{its:List It}{bl:List Bl}{olds:List (WF × SV)}{a0:Act}{L:Array Bool}{μ μ' μ0:Nat->Nat}
structure Ac(its:List It)(bl:List Bl)(a0:Act)(L:Array Bool)(μ:Nat->Nat)(a:Act):Prop where
 defers:a.defers=a0.defers
 size:a.tmps.size=a0.tmps.size
 got:∀(i:Nat) (it:It) (d:WF),its[i]? = some it->on L i=true->it.dst=some d->a.tmps[d]? = some (it.out.at μ)/\∀b,it.out.blk=some b->∃e:Bl,bl[b]? = some e/\e.live L=true
 rest:∀t:WF,(∀(i:Nat) (it:It),its[i]? = some it->on L i=true->it.dst≠some t)->a.tmps[t]? = a0.tmps[t]?
def dB(o:Vk)(j:Nat):Bool:=o.after.any (λe=>VP .any e && e.on == j)
def Fp(k:Array Vk)(b:List It)(i:Nat)(t:WF):Bool:=b.zipIdx.all (λx=>x.1.dst != some t || (match k[x.2]? with|some o=>dB o i|none=>false))
def Known(c:Array Vk)(i:Nat)(k:List It)(olds:List (WF × SV))(b:List (WF × Nat))(μ:Nat->Nat)(a:Act):Prop:=
 (∀(t:WF) (j:Nat) (it:It),(t,j)∈b->k[j]? = some it->a.eval (.tmp t)=it.out.at μ)/\(∀(t:WF) (s:SV),(t,s)∈olds->Fp c k i t=true->a.eval (.tmp t)=s.at μ)
def readB(k:Array Vk)(i:Nat)(e:Bl):Bool:=match e.st with|none=>true|some s=>match k[s]? with|some o=>dB o i|none=>false
def Reads(k:Array Vk)(i:Nat)(c:List Bl)(μ:Nat->Nat)(w:Ur):Prop:=∀(b:Nat) (e:Bl),c[b]? = some e->(e.al=none\/∃(o:Vk) (j:Nat),k[i]? = some o/\e.al=some j/\dB o j=true)->readB k i e=true->w.rangeAt (μ b) 0 e.before
def Does(P:VD)(Q:Yq->Act->Ur->Prop)(c:List Bl)(o:Vk)(it:It)(μ:Nat->Nat)(a:Act)(w:Ur)(K:Act->Ur->Prop):Kind->Prop
 | .stay=>K (a.put o.dst (it.out.at μ)) w->o.wp P a w K Q
 | .pass=>it.out=.v WR
 | .call=>(∀w',kZ w w'->K (a.put o.dst (it.out.at μ)) w')->o.wp P a w K Q
 | .make b=>∀e:Bl,c[b]? = some e->(∀(k:Nat) (w':Ur),Made w k e.before w'->K (a.put o.dst (it.out.at (upd μ b k))) w')->o.wp P a w K Q
 | .put b=>∀e:Bl,c[b]? = some e->w.there (μ b) 0 e.before.length->w.rangeAt (μ b) 0 e.before->(∀w',PutTo (μ b) e.before.length e.after w w'->K (a.put o.dst (it.out.at μ)) w')->o.wp P a w K Q
def Cert(P:VD)(Q:Yq->Act->Ur->Prop)(d:Ur)(e:Nat)(X:List Nat)(k:Array Vk)(i:Nat)(b:List It)(c:List Bl)(olds:List (WF × SV))(o:Vk)(it:It):Prop:=
 ∀(μ:Nat->Nat) (a:Act) (w:Ur) (K:Act->Ur->Prop),Known k i b olds it.need μ a->Reads k i c μ w->BelX e X d w->Does P Q c o it μ a w K it.kind
def Jb(k:List It)(c:List Bl)(o:Vk)(it:It)(b:Nat):Bool:=
 (match c[b]? with|some e=>(match e.al with|none=>true|some j=>dB o j)|none=>false) || it.need.any (λx=>dB o x.2 && (match k[x.2]? with|some jt=>jt.dst.isSome && jt.out.blk == some b|none=>false))
def Ad(d:List It)(k:List Bl)(i:Nat)(o:Vk)(it:It):Kind->Bool
 | .stay | .pass | .call=>k.all (λe=>e.al != some i && e.st != some i) && (match it.out.blk with|none=>true|some b=>Jb d k o it b)
 | .make b=>(match it.out.blk with|some c=>c == b|none=>false) && k.zipIdx.all (λx=>x.1.st != some i && (x.1.al == some i) == (x.2 == b)) && (k[b]?).isSome
 | .put b=>(match it.out with | .v _=>true|_=>false) && k.zipIdx.all (λx=>x.1.al != some i && (x.1.st == some i) == (x.2 == b)) && (match k[b]? with|some e=>(match e.al with|none=>true|some j=>dB o j)|none=>false)
def Kind.isPass:Kind->Bool
 | .pass=>true
 | _=>false
def Jp(k:List It)(o:Vk)(it:It):Bool:=
 match o.guard with
 | none=>!it.kind.isPass
 | some (j,want)=>dB o j && (match k[j]? with|some jt=>jt.dst.isSome && (match jt.out with | .v (.bool b)=>(b == want) == !it.kind.isPass|_=>false)|none=>false)
def okB(k:List It)(c:List Bl)(i:Nat)(o:Vk)(it:It):Bool:=
 (o.dst == it.dst) && Jp k o it && o.after.all (λe=>!VP .any e || e.on<i) && it.need.all (λb=>dB o b.2 && ((k[b.2]?).bind (·.dst)) == some b.1) && Ad k c i o it it.kind
def yY:List It->Bool
 | []=>true
 | it :: r=>(match it.dst with|none=>true|some d=>r.all (λk=>k.dst != some d)) && yY r
def TJ(k:List Bl)(olds:List (WF × SV)):Bool:=
 olds.all (λx=>(match x.2.blk with|none=>true|some b=>match k[b]? with|some e=>e.al.isNone|none=>false))
def allB(b:Array Vk)(k:List It)(c:List Bl)(olds:List (WF × SV))(n:Nat):Bool:=
 b.size == k.length && yY k && TJ c olds && k.all (λit=>match it.dst with|none=>true|some d=>d<n) &&
 (VG k.length).all (λi=>match b[i]?,k[i]? with|some o,some it=>okB k c i o it|_,_=>false)
theorem JH:∀ {k:List It},yY k=true->∀(i j:Nat) (it b:It) (d:WF),k[i]? = some it->k[j]? = some b->it.dst=some d->b.dst=some d->i=j
 | [],_,i,_,_,_,_,h,_,_,_=>by simp at h
 | x :: r,h,i,j,it,b,d,hi,hj,di,dj=>by
  simp only[yY,UL]at h;match i,j with
  | 0,0=>rfl
  | 0,j+1 =>
   simp only[Vf,UO.injEq]at hi;simp only[U9]at hj;subst hi;rw[di]at h;have:=Va.1 h.1 b (VJ hj);rw[dj]at this;simp at this
  | i+1,0 =>
   simp only[Vf,UO.injEq]at hj;simp only[U9]at hi;subst hj;rw[dj]at h;have:=Va.1 h.1 it (VJ hi);rw[di]at this;simp at this
  | i+1,j+1 =>
   simp only[U9]at hi hj;rw[JH h.2 i j it b d hi hj di dj]
theorem oC{e:Bl}{i:Nat}(k:i<L.size)(h:e.live L=true):e.live (L.setIfInBounds i true)=true:=by rw[iC k,h,Yb]
theorem Ac.put{a:Act}{i:Nat}{it:It}(h:Ac its bl a0 L μ a)(hd:yY its=true)(p:i<L.size)(n:its[i]? = some it)(hμ:∀(b:Nat) (e:Bl),bl[b]? = some e->e.live L=true->μ' b=μ b)
 (s:∀d,it.dst=some d->d<a0.tmps.size) (o:∀d,it.dst=some d->∀b,it.out.blk=some b->∃e:Bl,bl[b]? = some e/\e.live (L.setIfInBounds i true)=true)
 (v:Ut) (hv:∀d,it.dst=some d->v=it.out.at μ'):Ac its bl a0 (L.setIfInBounds i true) μ' (a.put it.dst v):=by
 have m:∀(j:Nat) (f:It) (d:WF),its[j]? = some f->on L j=true->f.dst=some d->a.tmps[d]? = some (f.out.at μ')/\∀b,f.out.blk=some b->∃e:Bl,bl[b]? = some e/\e.live (L.setIfInBounds i true)=true:=λj f d g ho c=>by
  obtain⟨r,q⟩:=h.got j f d g ho c;refine⟨?_,λb l=>?_⟩
  ·rw[r]
   congr 1
   refine SV.at_congr λb u=>?_
   obtain⟨e,k,o⟩:=q b u;rw[hμ b e k o]
  ·obtain⟨e,k,o⟩:=q b l;exact⟨e,k,oC p o⟩
 cases k:it.dst with
 | none =>
  show Ac its bl a0 _ μ' a;refine⟨h.defers,h.size,λj f d g ho c=>?_,λt q=>h.rest t λj f g ho=>q j f g (by rw[eC p,ho,Yb])⟩;rw[eC p]at ho;by_cases l:i=j
  ·subst l;rw[n]at g;obtain rfl:it=f:=UO.inj g;rw[k]at c;cases c
  ·exact m j f d g (by simpa[l]using ho) c
 | some d0 =>
  have r:=s d0 k;refine⟨h.defers,?_,λj f d g ho c=>?_,λt q=>?_⟩
  ·show(a.tmps.setIfInBounds d0 v).size=_;rw[VF];exact h.size
  ·show(a.tmps.setIfInBounds d0 v)[d]? = _/\_;rw[WE];rw[eC p]at ho;by_cases l:i=j
   ·subst l;rw[n]at g;obtain rfl:it=f:=UO.inj g;rw[k]at c;obtain rfl:d0=d:=UO.inj c;rw[yCl rfl,yCl (by rw[h.size];exact r),hv d0 k];exact⟨rfl,o d0 k⟩
   ·have o:d0≠d:=λu=>l (JH hd i j it f d0 n g k (u ▸ c))
    rw[yCm o];exact m j f d g (by simpa[l]using ho) c
  ·show(a.tmps.setIfInBounds d0 v)[t]? = _;have o:d0≠t:=λl=>q i it n (by rw[eC p];simp) (by rw[k,l])
   rw[WE,yCm o];exact h.rest t λj f g ho=>q j f g (by rw[eC p,ho,Yb])
structure Inv(ops:Array Vk)(its:List It)(bl:List Bl)(a0:Act)(w0:Ur)(k0:Nat)(X:List Nat)(μ0:Nat->Nat)(L:Array Bool)(a:Act)(w:Ur):Prop where
 size:L.size=its.length
 cl:∀(i:Nat) (o:Vk),ops[i]? = some o->on L i=true->∀e∈o.after,VP .any e=true->on L e.on=true
 all:∃μ,(∀(b:Nat) (e:Bl),bl[b]? = some e->e.al=none->μ b=μ0 b)/\Ac its bl a0 L μ a/\Wd w0 k0 X bl L μ w/\∀(b:Nat) (e:Bl),bl[b]? = some e->e.put L=true->e.live L=true
theorem BC{o:Vk}(h:o.guard=none)(y:Nat->Option Bool):V4 o y=true:=by unfold V4;rw[h]
theorem jR{p:Bl × Nat->Bool}(h:bl.zipIdx.all p=true)(b:Nat)(e:Bl)(k:bl[b]? = some e):p (e,b)=true:=
 Va.1 h (e,b) (by rw[YC];exact k)
theorem two{s t:Option Nat}{i c b:Nat}(h:(s != some i && (t == some i) == (c == b))=true):s≠some i/\(t=some i↔c=b):=by
 rw[UL]at h;refine⟨by simpa using h.1,?_⟩;have k:(t == some i)=(c == b):=by simpa using h.2
 constructor
 ·intro d;rw[d]at k;simpa using k.symm
 ·intro d;rw[d]at k;simpa using k
theorem step{i:Nat}{o:Vk}{it:It}{a:Act}(hd:yY its=true)(ho:ops[i]? = some o)(R:its[i]? = some it)(ht:okB its bl i o it=true)(W:∀d,it.dst=some d->d<a0.tmps.size)
 (holds:∀(t:WF) (s:SV),(t,s)∈olds->a0.tmps[t]? = some (s.at μ0)/\∀b,s.blk=some b->∃e:Bl,bl[b]? = some e/\e.al=none)
 (l:∀(j:Nat) (Y:Vk) (H:It),ops[j]? = some Y->its[j]? = some H->Y.dst=H.dst) (F:ops.size=its.length) (B:Cert P Q w0 k0 X ops i its bl olds o it) (h7:on L i=false) (M:∀e∈o.after,VP .any e=true->on L e.on=true) (h:Inv ops its bl a0 w0 k0 X μ0 L a w) :
 wpOp P ops Q i (Inv ops its bl a0 w0 k0 X μ0 (L.setIfInBounds i true)) a w:=by
 obtain⟨hr,hn,μ,hμ,hA,hW,hO⟩:=h;have E:i<L.size:=by rw[hr];exact(UF.1 R).1
 simp only[okB,UL]at ht;obtain⟨⟨⟨⟨hu,V⟩,k2⟩,h8⟩,g⟩:=ht;have C:o.dst=it.dst:=by simpa using hu
 have r:∀j,dB o j=true->on L j=true:=λj J=>by
  obtain⟨e,S,m⟩:=XQ.1 J;simp only[UL,beq_iff_eq]at m;rw[<-m.2];exact M e S m.1
 have h9:V4 o (yielded ops a.tmps) = !it.kind.isPass:=by
  unfold V4;unfold Jp at V;cases N:o.guard with
  | none=>rw[N]at V;dsimp only at V⊢;rw[V]
  | some jw =>
   obtain⟨j,q⟩:=jw;rw[N]at V;dsimp only at V⊢;rw[UL]at V;cases J:its[j]? with
   | none=>rw[J]at V;cases V.2
   | some H =>
    rw[J]at V;obtain⟨h1,A⟩:=V;dsimp only at A;rw[UL]at A;obtain⟨d,I⟩:=Vr.1 A.1;have K:j<its.length:=(UF.1 J).1;have D:ops[j]? = some (ops[j]'(by rw[F];exact K)):=U0 _;have G:=(hA.got j H d J (r j h1) I).1;have O:yielded ops a.tmps j=match H.out.at μ with | .bool b=>some b|_=>none:=by
     unfold yielded;rw[D];show(match (ops[j]'(by rw[F];exact K)).dst.bind (a.tmps[·]?) with|some (.bool b)=>some b|_=>none)=_;rw[l j _ H D J,I];show(match a.tmps[d]? with|some (.bool b)=>some b|_=>none)=_;rw[G];cases H.out.at μ<;>rfl
    rw[O];have l:=A.2;cases n:H.out with
    | p b x=>rw[n]at l;cases l
    | s b x y=>rw[n]at l;cases l
    | t b x y z=>rw[n]at l;cases l
    | v x =>
     rw[n]at l;cases x with
     | bool b =>
      show(some b == some q)=_;dsimp only at l;have:(b == q) = !it.kind.isPass:=by simpa using l
      rw[<-this];cases b<;>cases q<;>rfl
     | _=>cases l
 have hK:Known ops i its olds it.need μ a:=by
  refine⟨λt j H hm J=>?_,λt s hm K=>?_⟩
  ·have h1:=Va.1 h8 (t,j) hm;simp only[UL,J]at h1;have A:H.dst=some t:=by simpa using h1.2
   have G:=(hA.got j H t J (r j h1.1) A).1;show a.tmps.getD t WR=_;rw[UI,G];rfl
  ·obtain⟨A,G⟩:=holds t s hm;have O:=hA.rest t (λj H J U I=>by
    have l:=Va.1 K (H,j) (by rw[YC];exact J);dsimp only at l;rw[I]at l;cases D:ops[j]? with
    | none=>rw[D]at l;simp at l
    | some Y =>
     rw[D]at l;have q:dB Y i=true:=by simpa using l
     obtain⟨e',N,F⟩:=XQ.1 q;simp only[UL,beq_iff_eq]at F;have:=hn j Y D U e' N F.1;rw[F.2,h7]at this;cases this)
   show a.tmps.getD t WR=_;rw[UI,O,A];show s.at μ0=s.at μ;refine SV.at_congr λb m=>?_
   obtain⟨e,S,q⟩:=G b m;rw[hμ b e S q]
 have hR:Reads ops i bl μ w:=λb e m q K=>by
  have:=(hW.has b e m (by
   unfold Bl.live;rcases q with q|⟨I,j,l,q,hd⟩
   ·rw[q];rfl
   ·rw[q];show on L j=true;rw[ho]at l;obtain rfl:=UO.inj l;exact r j hd)).1
  unfold Bl.now Bl.put at this;unfold readB at K;cases hs:e.st with
  | none=>rw[hs]at this;exact this
  | some s =>
   rw[hs]at this K;dsimp only at K;cases l:ops[s]? with
   | none=>rw[l]at K;cases K
   | some os =>
    rw[l]at K;have I:on L s=false:=by
     cases U:on L s with
     | false=>rfl
     | true =>
      obtain⟨e',N,F⟩:=XQ.1 K;simp only[UL,beq_iff_eq]at F;have:=hn s os l U e' N F.1;rw[F.2,h7]at this;cases this
    rw[show(Option.map (on L) (some s)).getD false=on L s from rfl,I]at this;exact this
 have Z:∀b,Jb its bl o it b=true->∃e:Bl,bl[b]? = some e/\e.live L=true:=λb m=>by
  unfold Jb at m;rw[Bool.or_eq_true]at m;rcases m with A|A
  ·cases S:bl[b]? with
   | none=>rw[S]at A;cases A
   | some e =>
    rw[S]at A;dsimp only at A;refine⟨e,rfl,?_⟩;unfold Bl.live;cases q:e.al with
    | none=>rfl
    | some j=>rw[q]at A;exact r j A
  ·obtain⟨x,hx,G⟩:=List.any_eq_true.1 A;rw[UL]at G;cases J:its[x.2]? with
   | none=>rw[J]at G;cases G.2
   | some H =>
    rw[J]at G;dsimp only at G;rw[UL]at G;obtain⟨d,l⟩:=Vr.1 G.2.1;exact(hA.got x.2 H d J (r x.2 G.1) l).2 b (by simpa using G.2.2)
 have G:∀(j:Nat) (Y:Vk),ops[j]? = some Y->on (L.setIfInBounds i true) j=true->∀e∈Y.after,VP .any e=true->on (L.setIfInBounds i true) e.on=true:=λj Y D U e S m=>by
  rw[eC E]at U⊢;by_cases l:i=j
  ·subst l;rw[ho]at D;obtain rfl:o=Y:=UO.inj D;rw[M e S m,Yb]
  ·rw[hn j Y D (by simpa[l]using U) e S m,Yb]
 have I:(L.setIfInBounds i true).size=its.length:=by rw[VF];exact hr
 have hC:=B μ a w (Inv ops its bl a0 w0 k0 X μ0 (L.setIfInBounds i true)) hK hR hW.bel;unfold wpOp;rw[ho];dsimp only;rw[h9];cases hk:it.kind with
 | pass =>
  rw[hk]at hC g;simp only[Ad,UL]at g;have H:∀(b:Nat) (e:Bl),bl[b]? = some e->e.al≠some i/\e.st≠some i:=λb e m=>by simpa using Va.1 g.1 e (VJ m)
  have l:∀(b:Nat) (e:Bl),bl[b]? = some e->e.live (L.setIfInBounds i true)=e.live L/\e.put (L.setIfInBounds i true)=e.put L:=λb e m =>
   ⟨by rw[iC E,show(e.al == some i)=false by simpa using(H b e m).1,WV],by rw[kB E,show(e.st == some i)=false by simpa using(H b e m).2,WV]⟩
  show Inv ops its bl a0 w0 k0 X μ0 (L.setIfInBounds i true) (a.put o.dst WR) w;refine⟨I,G,μ,hμ,?_,hW.same l,λb e m=>by rw[(l b e m).1,(l b e m).2];exact hO b e m⟩;rw[C];have n:it.out=.v WR:=hC;refine hA.put hd E R (λ_ _ _ _=>rfl) W (λ_ _ b M=>?_) _ (λ_ _=>by rw[n];rfl);rw[n]at M;cases M
 | stay =>
  rw[hk]at hC g;simp only[Ad,UL]at g;show o.wp P a w _ Q\/_;left;refine hC ?_;have H:∀(b:Nat) (e:Bl),bl[b]? = some e->e.al≠some i/\e.st≠some i:=λb e m=>by simpa using Va.1 g.1 e (VJ m)
  have l:∀(b:Nat) (e:Bl),bl[b]? = some e->e.live (L.setIfInBounds i true)=e.live L/\e.put (L.setIfInBounds i true)=e.put L:=λb e m =>
   ⟨by rw[iC E,show(e.al == some i)=false by simpa using(H b e m).1,WV],by rw[kB E,show(e.st == some i)=false by simpa using(H b e m).2,WV]⟩
  refine⟨I,G,μ,hμ,?_,hW.same l,λb e m=>by rw[(l b e m).1,(l b e m).2];exact hO b e m⟩;rw[C];refine hA.put hd E R (λ_ _ _ _=>rfl) W (λ_ _ b M=>?_) _ (λ_ _=>rfl);have A:=g.2;rw[M]at A;obtain⟨e,S,hl⟩:=Z b A;exact⟨e,S,oC E hl⟩
 | call =>
  rw[hk]at hC g;simp only[Ad,UL]at g;show o.wp P a w _ Q\/_;left;refine hC λw' F=>?_
  have H:∀(b:Nat) (e:Bl),bl[b]? = some e->e.al≠some i/\e.st≠some i:=λb e m=>by simpa using Va.1 g.1 e (VJ m)
  have l:∀(b:Nat) (e:Bl),bl[b]? = some e->e.live (L.setIfInBounds i true)=e.live L/\e.put (L.setIfInBounds i true)=e.put L:=λb e m =>
   ⟨by rw[iC E,show(e.al == some i)=false by simpa using(H b e m).1,WV],by rw[kB E,show(e.st == some i)=false by simpa using(H b e m).2,WV]⟩
  refine⟨I,G,μ,hμ,?_,(hW.call F).same l,λb e m=>by rw[(l b e m).1,(l b e m).2];exact hO b e m⟩;rw[C];refine hA.put hd E R (λ_ _ _ _=>rfl) W (λ_ _ b M=>?_) _ (λ_ _=>rfl);have A:=g.2;rw[M]at A;obtain⟨e,S,hl⟩:=Z b A;exact⟨e,S,oC E hl⟩
 | make b =>
  rw[hk]at hC g;simp only[Ad,UL]at g;obtain⟨⟨n,hz⟩,M⟩:=g;obtain⟨e,l⟩:=Vr.1 M;have ha:e.al=some i:=(two (jR hz b e l)).2.2 rfl;have F:∀(c:Nat) (f:Bl),bl[c]? = some f->f.st≠some i:=λc f B=>(two (jR hz c f B)).1
  have O:∀(c:Nat) (f:Bl),bl[c]? = some f->c≠b->f.al≠some i:=λc f B T h=>T ((two (jR hz c f B)).2.1 h)
  have N:e.live L=false:=by unfold Bl.live;rw[ha];exact h7
  have hpt:e.put L=false:=by
   cases hp:e.put L with
   | false=>rfl
   | true=>have:=hO b e l hp;rw[N]at this;cases this
  have hq:it.out.blk=some b:=by
   cases H:it.out.blk with
   | none=>rw[H]at n;cases n
   | some c =>
    rw[H]at n;rw[show c=b by simpa using n]
  show o.wp P a w _ Q\/_;left;refine hC e l λk w' hm=>?_
  have hμb:∀(c:Nat) (f:Bl),bl[c]? = some f->f.live L=true->upd μ b k c=μ c:=λc f B hl=>by
   unfold upd;rw[yCm];rintro rfl;rw[l]at B;obtain rfl:e=f:=UO.inj B;rw[N]at hl;cases hl
  refine⟨I,G,upd μ b k,λc f B q=>?_,?_,hW.make E l ha O F hpt hm,λc f B=>?_⟩
  ·rw[hμb c f B (by unfold Bl.live;rw[q];rfl)];exact hμ c f B q
  ·rw[C];refine hA.put hd E R hμb W (λ_ _ c h0=>?_) _ (λ_ _=>rfl);rw[hq]at h0;have h1:b=c:=UO.inj h0;subst h1;exact⟨e,l,by rw[iC E,ha];simp⟩
  ·rw[kB E,show(f.st == some i)=false by simpa using F c f B,WV];exact λhp=>oC E (hO c f B hp)
 | put b =>
  rw[hk]at hC g;simp only[Ad,UL]at g;obtain⟨⟨n,hz⟩,M⟩:=g;cases l:bl[b]? with
  | none=>rw[l]at M;cases M
  | some e =>
   rw[l]at M;dsimp only at M;have hs:e.st=some i:=(two (jR hz b e l)).2.2 rfl;have O:∀(c:Nat) (f:Bl),bl[c]? = some f->f.al≠some i:=λc f B=>(two (jR hz c f B)).1
   have F:∀(c:Nat) (f:Bl),bl[c]? = some f->c≠b->f.st≠some i:=λc f B T h=>T ((two (jR hz c f B)).2.1 h)
   have N:e.live L=true:=by
    unfold Bl.live;cases q:e.al with
    | none=>rfl
    | some j =>
     have A:=M;rw[q]at A;exact r j A
   show o.wp P a w _ Q\/_;left;have k1:e.put L=false:=by unfold Bl.put;rw[hs];exact h7
   have A:e.now L=e.before:=by unfold Bl.now;rw[k1];rfl
   refine hC e l (hW.has b e l N).2.1 (A ▸ (hW.has b e l N).1) λw' hy=>?_
   refine⟨I,G,μ,hμ,?_,hW.put E l hs N hy F O,λc f B hp=>?_⟩
   ·rw[C];refine hA.put hd E R (λ_ _ _ _=>rfl) W (λd hw c h0=>?_) _ (λd hw=>rfl);cases H:it.out with
    | v x=>rw[H]at h0;cases h0
    | p x y=>rw[H]at n;cases n
    | s x y z=>rw[H]at n;cases n
    | t x y z u=>rw[H]at n;cases n
   ·rw[iC E,show(f.al == some i)=false by simpa using O c f B,WV];rw[kB E]at hp;by_cases T:c=b
    ·subst T;rw[l]at B;obtain rfl:e=f:=UO.inj B;exact N
    ·rw[show(f.st == some i)=false by simpa using F c f B T,WV]at hp;exact hO c f B hp
end RG
namespace RG
open Go Go.RowKit
variable {P:VD}{ops:Array Vk}{Q:Yq->Act->Ur->Prop}{w0 w:Ur}{k0:Nat}{X:List Nat}{its:List It}{bl:List Bl}{olds:List (WF × SV)}{a0:Act}{L:Array Bool}{μ μ0:Nat->Nat}
def puts(μ:Nat->Nat):List It->Act->Act
 | [],a=>a
 | it :: r,a=>puts μ r (a.put it.dst (it.out.at μ))
theorem nE(μ:Nat->Nat):∀(k:List It) (a:Act),(puts μ k a).defers=a.defers
 | [],_=>rfl
 | it :: r,a=>by
  rw[puts,nE μ r];cases it.dst<;>rfl
theorem qS(a:Act)(d:Option WF)(v:Ut):(a.put d v).tmps.size=a.tmps.size:=by
 cases d with
 | none=>rfl
 | some d=>exact VF ..
theorem zN(μ:Nat->Nat):∀(k:List It) (a:Act),(puts μ k a).tmps.size=a.tmps.size
 | [],_=>rfl
 | it :: r,a=>by rw[puts,zN μ r,qS]
theorem nW(a:Act){d:Option WF}(v:Ut)(h:d≠some t):(a.put d v).tmps[t]? = a.tmps[t]?:=by
 cases d with
 | none=>rfl
 | some d =>
  show(a.tmps.setIfInBounds d v)[t]? = _;rw[WE,yCm (λe=>h (by rw[e]))]
theorem lW(μ:Nat->Nat):∀(k:List It) (a:Act) (t:WF),(∀it∈k,it.dst≠some t)->(puts μ k a).tmps[t]? = a.tmps[t]?
 | [],_,_,_=>rfl
 | it :: r,a,t,h=>by
  rw[puts,lW μ r _ t (λx hx=>h x (Vb _ hx)),nW a _ (h it Vu)]
theorem rW(μ:Nat->Nat):∀(k:List It) (a:Act) (i:Nat) (it:It) (d:WF),yY k=true->k[i]? = some it->it.dst=some d->d<a.tmps.size->(puts μ k a).tmps[d]? = some (it.out.at μ)
 | [],_,i,_,_,_,h,_,_=>by simp at h
 | x :: r,a,0,it,d,hB,h,hd,hs=>by
  obtain rfl:x=it:=by simpa using h
  simp only[yY,UL,hd]at hB;rw[puts,lW μ r _ d (λy b=>by simpa using Va.1 hB.1 y b),hd];show(a.tmps.setIfInBounds d _)[d]? = _;rw[WE,yCl rfl,yCl hs]
 | x :: r,a,i+1,it,d,hB,h,hd,hs=>by
  simp only[yY,UL]at hB;rw[puts];exact rW μ r _ i it d hB.2 (by simpa using h) hd (by rw[qS];exact hs)
theorem Act.ext'{a b:Act}(k:a.tmps=b.tmps)(c:a.defers=b.defers):a=b:=by
 cases a;cases b;subst k;subst c;rfl
theorem Ac.done{a:Act}(h:Ac its bl a0 L μ a)(f:yY its=true)(c:∀it∈its,∀d,it.dst=some d->d<a0.tmps.size)(b:∀i,i<its.length->on L i=true):a=puts μ its a0:=by
 refine Act.ext' ?_ (by rw[nE];exact h.defers);apply Array.ext_getElem?;intro t;by_cases e:∃(i:Nat) (it:It),its[i]? = some it/\it.dst=some t
 ·obtain⟨i,it,k,hd⟩:=e;rw[(h.got i it t k (b i (UF.1 k).1) hd).1,rW μ its a0 i it t f k hd (c it (VJ k) t hd)]
 ·rw[h.rest t (λi it k _ hd=>e ⟨i,it,k,hd⟩),lW μ its a0 t (λit g hd=>?_)];obtain⟨i,k⟩:=WM g;exact e ⟨i,it,k,hd⟩
def unl(L:Array Bool):Nat:=L.toList.countP (λb=>!b)
theorem count_set:∀(l:List Bool) (i:Nat),l[i]? = some false->(l.set i true).countP (λb=>!b)+1=l.countP (λb=>!b)
 | [],i,h=>by simp at h
 | x :: r,0,h=>by
  obtain rfl:x=false:=by simpa using h
  simp
 | x :: r,i+1,h=>by
  have:=count_set r i (by simpa using h);rw[List.set_cons_succ,yA5,yA5];omega
theorem lN{i:Nat}(h:L.getD i true=false):unl (L.setIfInBounds i true)+1=unl L:=by
 unfold unl;rw[Array.toList_setIfInBounds];refine count_set _ _ ?_;rw[Vq];rw[UI]at h;cases hh:L[i]? with
 | none=>rw[hh]at h;cases h
 | some b=>rw[hh]at h;rw[show b=false from h]
theorem kN(h:unl L=0)(i:Nat)(k:i<L.size):on L i=true:=by
 have b:=List.countP_eq_zero.1 h;have c:=b L[i] (by simp);unfold on;rw[UI,U0 k];simpa using c
structure Reg(P:VD)(ops:Array Vk)(Q:Yq->Act->Ur->Prop)(w0:Ur)(k0:Nat)(X:List Nat)(its:List It)(bl:List Bl)(olds:List (WF × SV))(a0:Act)(μ0:Nat->Nat):Prop where
 chk:allB ops its bl olds a0.tmps.size=true
 old:∀(t:WF) (s:SV),(t,s)∈olds->a0.tmps[t]? = some (s.at μ0)
 cert:∀(i:Nat) (o:Vk) (it:It),ops[i]? = some o->its[i]? = some it->Cert P Q w0 k0 X ops i its bl olds o it
theorem Reg.step{i:Nat}{o:Vk}{a:Act}(R:Reg P ops Q w0 k0 X its bl olds a0 μ0)(ho:ops[i]? = some o)(q:on L i=false)(m:∀e∈o.after,VP .any e=true->on L e.on=true)(h:Inv ops its bl a0 w0 k0 X μ0 L a w):
 wpOp P ops Q i (Inv ops its bl a0 w0 k0 X μ0 (L.setIfInBounds i true)) a w:=by
 have B:=R.chk;simp only[allB,UL,beq_iff_eq]at B;obtain⟨⟨⟨⟨g,hd⟩,n⟩,p⟩,f⟩:=B;have A:i<its.length:=by rw[<-g];exact(UZ.1 ho).1
 obtain⟨it,k⟩:∃it,its[i]? = some it:=⟨its[i],UG A⟩
 have z:=Va.1 f i (V0.2 A);rw[ho,k]at z;refine RG.step (olds:=olds) hd ho k z (λd u=>?_) (λt s y=>?_) (λj D E v l=>?_) g (R.cert i o it ho k) q m h
 ·have:=Va.1 p it (VJ k);rw[u]at this;simpa using this
 ·have C:=Va.1 n (t,s) y;refine⟨R.old t s y,λb r=>?_⟩;have c:=C;dsimp only at c;rw[r]at c;dsimp only at c;cases x:bl[b]? with
  | none=>rw[x]at c;cases c
  | some e=>rw[x]at c;exact⟨e,rfl,by simpa using c⟩
 ·have c:=Va.1 f j (V0.2 (UF.1 l).1);rw[v,l]at c;simp only[okB,UL]at c;simpa using c.1.1.1.1
theorem Reg.back{i:Nat}{o:Vk}(R:Reg P ops Q w0 k0 X its bl olds a0 μ0)(ho:ops[i]? = some o):i<its.length/\∀e∈o.after,VP .any e=true->e.on<i:=by
 have g:=R.chk;simp only[allB,UL,beq_iff_eq]at g;obtain⟨⟨⟨⟨d,hd⟩,f⟩,j⟩,k⟩:=g;have b:i<its.length:=by rw[<-d];exact(UZ.1 ho).1
 have c:=Va.1 k i (V0.2 b);rw[ho,UG b]at c;simp only[okB,UL]at c;refine⟨b,λe l m=>?_⟩;have:=Xa.1 c.1.1.2 e l;simpa[m]using this
theorem Reg.size(R:Reg P ops Q w0 k0 X its bl olds a0 μ0):ops.size=its.length:=by
 have k:=R.chk;simp only[allB,UL,beq_iff_eq]at k;exact k.1.1.1.1
theorem Reg.full{a:Act}(R:Reg P ops Q w0 k0 X its bl olds a0 μ0)(h:Inv ops its bl a0 w0 k0 X μ0 L a w)(d:U7 .any ops L=[]):∀i,i<its.length->on L i=true:=by
 intro i;induction i using yBl with
 | ind i ih =>
  intro c;have ho:ops[i]? = some (ops[i]'(by rw[R.size];exact c)):=U0 _;cases k:on L i with
  | true=>rfl
  | false =>
   have:i∈U7 .any ops L:=mem_ready.2 ⟨?_,_,ho,λe f g=>?_⟩
   ·rw[d]at this;cases this
   ·unfold on at k;rw[UI,U0 (by rw[h.size];exact c)]at k⊢;exact k
   ·have b:=(R.back ho).2 e f g;exact ih e.on b (Nat.lt_trans b c)
def ad(ks:List Nat)(b:Nat):Nat:=ks.getD b 0
structure St(w0:Ur)(k0:Nat)(X:List Nat)(cs:List (List Ut))(ks:List Nat)(w:Ur):Prop where
 bel:BelX k0 X w0 w
 le:k0<=w.heap.size
 len:ks.length=cs.length
 has:∀(b:Nat) (c:List Ut),cs[b]? = some c->w.rangeAt (ad ks b) 0 c/\w.there (ad ks b) 0 c.length/\ad ks b<w.heap.size/\(k0<=ad ks b\/ad ks b∈X)
 inj:∀(b c:Nat),b<cs.length->c<cs.length->b≠c->ad ks b≠ad ks c
theorem St.drew{cs:List (List Ut)}{ks:List Nat}(h:St w0 k0 X cs ks w):St w0 k0 X cs ks w.drew:=⟨h.bel.drew,h.le,h.len,h.has,h.inj⟩
def Bl.fin(e:Bl):List Ut:=if e.st.isSome=true then e.after else e.before
def mT(k:List Bl)(n:Nat):Bool:=k.zipIdx.all (λx=>x.1.al.isNone == decide (x.2<n)) && decide (n<=k.length)
theorem zJ{s:Array Vk}{cs:List (List Ut)}{ks:List Nat}(q:St w0 k0 X cs ks w)(v:mT bl cs.length=true)(r:(bl.map (·.before)).take cs.length=cs):
 Inv s its bl a0 w0 k0 X (ad ks) (UJ its.length false) a0 w:=by
 simp only[mT,UL]at v;have g:∀i,on (UJ its.length false) i=false:=λi=>by
  unfold on;rw[UI,Yi];by_cases h:i<its.length
  ·rw[yCl h];rfl
  ·rw[yCm h];rfl
 have k:∀(b:Nat) (e:Bl),bl[b]? = some e->e.live (UJ its.length false)=true->b<cs.length:=λb e l n=>by
  have p:=jR v.1 b e l;unfold Bl.live at n;cases m:e.al with
  | none=>simpa[m]using p
  | some j=>rw[m]at n;have:on (UJ its.length false) j=true:=n;rw[g]at this;cases this
 have m:∀e:Bl,e.put (UJ its.length false)=false:=λe=>by
  unfold Bl.put;cases e.st with
  | none=>rfl
  | some j=>exact g j
 have p:∀(b:Nat) (e:Bl),bl[b]? = some e->b<cs.length->cs[b]? = some e.before:=λb e l t=>by
  rw[<-r,WC,yCl t,Vz,l];rfl
 refine⟨Array.size_replicate,(λi o _ h=>by rw[g]at h;cases h),ad ks,λ_ _ _ _=>rfl,⟨rfl,rfl,λi it d a ho=>?_,λ_ _=>rfl⟩,⟨q.bel,q.le,λb e l n=>?_,λb c e f l z y hf u=>q.inj b c (k b e l y) (k c f z hf) u⟩,λb e l x=>?_⟩
 ·rw[g]at ho;cases ho
 ·unfold Bl.now;rw[m e];exact q.has b e.before (p b e l (k b e l n))
 ·rw[m e]at x;cases x
theorem Inv.done{a:Act}{cs:List (List Ut)}{ks:List Nat}(R:Reg P ops Q w0 k0 X its bl olds a0 (ad ks))(h:Inv ops its bl a0 w0 k0 X (ad ks) L a w)(o:ks.length=cs.length)(H:mT bl cs.length=true)(k:∀i,i<its.length->on L i=true)
 (p:∀e∈bl,∀j,e.al=some j\/e.st=some j->j<its.length) (s:∀e∈bl,e.fin.length=e.before.length)
 (J:∀(new:List Nat) (w':Ur),new.length=bl.length-cs.length->St w0 k0 X (bl.map Bl.fin) (ks++new) w'->Q .normal (puts (ad (ks++new)) its a0) w'):Q .normal a w:=by
 obtain⟨C,-,μ,hμ,E,A,N⟩:=h;have I:=R.chk;simp only[allB,UL,beq_iff_eq]at I;obtain⟨⟨⟨⟨y,hd⟩,z⟩,u⟩,B⟩:=I;have M:=H;simp only[mT,UL,decide_eq_true_eq]at H;have f:∀(b:Nat) (e:Bl),bl[b]? = some e->e.live L=true:=λb e m=>by
  unfold Bl.live;cases g:e.al with
  | none=>rfl
  | some j=>exact k j (p e (VJ m) j (U4 g))
 have v:∀(b:Nat) (e:Bl),bl[b]? = some e->e.now L=e.fin:=λb e m=>by
  unfold Bl.now Bl.put Bl.fin;cases g:e.st with
  | none=>rfl
  | some j =>
   have:=k j (p e (VJ m) j (UX g));simp[this]
 have g:∀b,b<bl.length->ad (ks++(VG (bl.length-cs.length)).map (λj=>μ (cs.length+j))) b=μ b:=λb m=>by
  unfold ad;rw[VQ];by_cases n:b<cs.length
  ·rw[UT (by rw[o];exact n)];obtain⟨e,l⟩:∃e,bl[b]? = some e:=⟨bl[b],UG m⟩
   have t:=jR H.1 b e l;have q:e.al=none:=by simpa[n]using t
   rw[hμ b e l q];unfold ad;rw[VQ]
  ·rw[U1 (by rw[o];omega),Vz,o,List.getElem?_range oM];show μ (cs.length+(b-cs.length))=μ b
   congr 1
   omega
 have q:=E.done hd (λit D d n=>by
  have:=Va.1 u it D;rw[n]at this;simpa using this) k
 have G:puts μ its a0=puts (ad (ks++(VG (bl.length-cs.length)).map (λj=>μ (cs.length+j)))) its a0:=by
  have key:∀it∈its,∀d,it.dst=some d->it.out.at μ=it.out.at (ad (ks++(VG (bl.length-cs.length)).map (λj=>μ (cs.length+j)))):=λit D d n=>by
   obtain⟨i,F⟩:=WM D;have K:=(E.got i it d F (k i (UF.1 F).1) n).2;refine SV.at_congr λb m=>?_
   obtain⟨e,l,-⟩:=K b m;rw[g b (UF.1 l).1]
  clear E q z B u hd y C R k p J;generalize a0=F;induction its generalizing F with
  | nil=>rfl
  | cons it r ih =>
   rw[puts,puts];have t:F.put it.dst (it.out.at μ)=F.put it.dst (it.out.at (ad (ks++(VG (bl.length-cs.length)).map (λj=>μ (cs.length+j))))):=by
    cases n:it.dst with
    | none=>rfl
    | some d=>rw[key it Vu d n]
   rw[t];exact ih (λx hx=>key x (Vb _ hx)) _
 rw[q,G];refine J _ w (by simp) ⟨A.bel,A.le,?_,λb c p=>?_,λb c m p F=>?_⟩
 ·simp only[UA,UQ,List.length_range];omega
 ·rw[Vz]at p;cases l:bl[b]? with
  | none=>rw[l]at p;cases p
  | some e =>
   rw[l]at p;obtain rfl:e.fin=c:=UO.inj p;have t:=A.has b e l (f b e l);rw[v b e l]at t;rw[g b (UF.1 l).1,s e (VJ l)];exact t
 ·rw[UQ]at m p;rw[g b m,g c p];exact A.inj b c _ _ (UG m) (UG p) (f b _ (UG m)) (f c _ (UG p)) F
theorem region_draws'{cs:List (List Ut)}{ks:List Nat}(x:P.follows .mixedOrders=true)(q:St w0 k0 X cs ks w)(R:Reg P ops Q w0 k0 X its bl olds a0 (ad ks))(r:mT bl cs.length=true)(p:(bl.map (·.before)).take cs.length=cs)(hE:(∀e∈bl,∀j,e.al=some j\/e.st=some j->j<its.length)/\∀e∈bl,e.fin.length=e.before.length)
 (u:∀(new:List Nat) (w':Ur),new.length=bl.length-cs.length->St w0 k0 X (bl.map Bl.fin) (ks++new) w'->Q .normal (puts (ad (ks++new)) its a0) w'):(V6 id ops true).wp P Q a0 w:=by
 obtain⟨l,c⟩:=hE;have key:∀(k:Nat) (L:Array Bool) (a:Act) (w:Ur),unl L=k->Inv ops its bl a0 w0 k0 X (ad ks) L a w->wpAny P .any ops Q k L a w:=by
  intro k;induction k with
  | zero =>
   intro L a w t g;have f:∀i,i<its.length->on L i=true:=λi n=>kN t i (by rw[g.size];exact n)
   refine⟨?_,g.done R q.len r f l c u⟩;apply List.eq_nil_iff_forall_not_mem.2;intro i n;obtain⟨d,o,ho,-⟩:=mem_ready.1 n;have m:=f i (R.back ho).1;unfold on at m;rw[UI]at d m;cases hh:L[i]? with
   | none=>rw[hh]at d;cases d
   | some b=>rw[hh]at d m;rw[show b=false from d]at m;cases m
  | succ k ih =>
   intro L a w t g;refine⟨λv=>g.done R q.len r (R.full g v) l c u,λi n=>?_⟩;obtain⟨d,o,ho,m⟩:=mem_ready.1 n;have f:on L i=false:=by
    unfold on;rw[UI]at d⊢;cases hh:L[i]? with
    | none=>rfl
    | some b=>rw[hh]at d;exact d
   exact wpOp_mono (λy w' s=>ih _ y w' (by have:=lN d;omega) s) (R.step ho f m g)
 refine wp_region_any x (key _ _ a0 _ ?_ ?_)
 ·unfold unl;rw[Array.toList_replicate,List.countP_replicate];simp
 ·rw[R.size];exact zJ q.drew r p
theorem region_text'{cs:List (List Ut)}{ks:List Nat}(p:St w0 k0 X cs ks w)(R:Reg P ops Q w0 k0 X its bl olds a0 (ad ks))(q:mT bl cs.length=true)(f:(bl.map (·.before)).take cs.length=cs)(hE:(∀e∈bl,∀j,e.al=some j\/e.st=some j->j<its.length)/\∀e∈bl,e.fin.length=e.before.length)
 (l:∀(new:List Nat) (w':Ur),new.length=bl.length-cs.length->St w0 k0 X (bl.map Bl.fin) (ks++new) w'->Q .normal (puts (ad (ks++new)) its a0) w'):(V6 id ops false).wp P Q a0 w:=by
 obtain⟨g,k⟩:=hE;have key:∀(m i:Nat) (L:Array Bool) (a:Act) (w:Ur),i+m=its.length->(∀j,j<its.length->on L j=decide (j<i))->Inv ops its bl a0 w0 k0 X (ad ks) L a w->wpOps P ops Q (List.range' i m) a w:=by
  intro m;induction m with
  | zero =>
   intro i L a w t b d;exact d.done R p.len q (λj c=>by rw[b j c];simp;omega) g k l
  | succ m ih =>
   intro i L a w t b d;rw[List.range'_succ,wpOps_cons];have ho:ops[i]? = some (ops[i]'(by rw[R.size];omega)):=U0 _;refine wpOp_mono (λu w' n=>ih (i+1) _ u w' oM (λj c=>?_) n) (R.step ho (by rw[b i oM];simp) (λe r s=>?_) d)
   ·rw[eC (by rw[d.size];omega),b j c];by_cases o:j<i
    ·simp[o];omega
    ·by_cases l:i=j
     ·subst l;simp
     ·have:¬j<i+1:=oM;simp[o,l,this]
   ·have l:=(R.back ho).2 e r s;rw[b e.on oM];simpa using l
 refine wp_region ?_;rw[List.range_eq_range',R.size];refine key its.length 0 (UJ its.length false) a0 w oM (λj c=>?_) (zJ p q f);unfold on;rw[UI,Yi,yCl c];simp
end RG
namespace RG
open Go Go.RowKit
variable {P:VD}{Q:Yq->Act->Ur->Prop}{its:List It}{bl:List Bl}{olds:List (WF × SV)}{ops:Array Vk}{i:Nat}{o:Vk}{it:It}{w0:Ur}{k0:Nat}{X:List Nat}
theorem dY(c:it.kind=.stay)(k:∀(μ:Nat->Nat) (a:Act) (w:Ur),Known ops i its olds it.need μ a->BelX k0 X w0 w->(U5 a.eval o).run P w=.ok (.value (it.out.at μ)) w):Cert P Q w0 k0 X ops i its bl olds o it:=by
 intro μ a w K d _ b;rw[c];intro h;unfold VT;rw[k μ a w d b];exact h
theorem oI(x:it.kind=.stay)(b off:Nat)(e:Bl)(s:bl[b]? = some e)(n:e.al=none)(g:readB ops i e=true)(T:U8)(t:WF)(ho:o.op=.load T (.tmp t))(cs:List Ut)(c:it.out=.v (.agg cs.toArray))
 (hx:∀(μ:Nat->Nat) (a:Act),Known ops i its olds it.need μ a->a.eval (.tmp t)=(SV.p b off).at μ) (k:(e.before.drop off).take cs.length=cs)
 (l:(P.underlying T).map (·.isRow)=some true) (u:(P.info? T).map (·.size)=some cs.length):Cert P Q w0 k0 X ops i its bl olds o it:=by
 intro μ a w K r hR _;rw[x];intro h;rw[c]at h;obtain⟨d,l,hd⟩:=Uy.1 l;refine wp_load_mid T (.tmp t) ho (μ b) off (hx μ a r) cs d (λj v f=>?_) l hd u h;have q:=hR b e s (U4 n) g (off+j) v ?_
 ·rw[UD]at q;exact q
 ·rw[<-k]at f;have m:j<cs.length:=by
   have p:=(UF.1 f).1;rw[k]at p;exact p
  rw[WC,yCl m,Zr]at f;exact f
theorem tC(j:it.kind=.call)(f:Xs)(args:Array Ut)(v:Ut)(c:it.out=.v v)(b:∀(μ:Nat->Nat) (a:Act) (w:Ur),Known ops i its olds it.need μ a->BelX k0 X w0 w->(U5 a.eval o).run P w=.ok (.enter f args) w)
 (l:∀w,BelX k0 X w0 w->UH P f args w (rZ w λe w'=>e=v)):Cert P Q w0 k0 X ops i its bl olds o it:=by
 intro μ a w K d _ k;rw[j];intro h;rw[c]at h;unfold VT;rw[b μ a w d k,Xb];refine(l w k).mono ?_;rintro e w' ⟨m,rfl,g,rfl⟩;exact h w' g
theorem Ah(b:Nat)(g:it.kind=.make b)(e:Bl)(j:bl[b]? = some e)(t:U8)(k:∀(μ:Nat->Nat) (a:Act) (w:Ur),Known ops i its olds it.need μ a->BelX k0 X w0 w->(U5 a.eval o).run P w=.ok (.value (it.out.at (upd μ b w.heap.size))) (w.alloc (.cells e.before.toArray t))):Cert P Q w0 k0 X ops i its bl olds o it:=by
 intro μ a w K f _ c;rw[g];intro e' d h;rw[j]at d;obtain rfl:e=e':=UO.inj d;unfold VT;rw[k μ a w f c];exact h _ _ (Made.alloc w e.before t)
theorem JV(b:Nat)(r:it.kind=.put b)(e:Bl)(p:bl[b]? = some e)(T:U8)(x y:XI)(ho:o.op=.store T x y)(d:o.dst=none)(k:e.after.length=e.before.length)
 (hx:∀(μ:Nat->Nat) (a:Act),Known ops i its olds it.need μ a->a.eval x=(SV.p b 0).at μ) (m:∀(μ:Nat->Nat) (a:Act),Known ops i its olds it.need μ a->a.eval y=.agg e.after.toArray)
 (q:(P.info? T).map (·.size)=some e.after.length) (n:e.after.all (·.oneCell')=true):Cert P Q w0 k0 X ops i its bl olds o it:=by
 intro μ a w K j _ _;rw[r];intro e' c g l h;rw[p]at c;obtain rfl:e=e':=UO.inj c;have f:=PutTo.whole g l k;refine wp_store_mid T x y ho (μ b) 0 e.after.toArray (hx μ a j) (m μ a j) ?_ ?_ ?_ ?_
 ·rw[VC,k];exact g
 ·rw[VC];exact q
 ·exact all_oneCell_toArray (λv hv=>Va.1 n v hv)
 ·have:=h _ f;rw[d]at this⊢;exact this
theorem Known.op{k:List (WF × Nat)}{μ:Nat->Nat}{a:Act}(h:Known ops i its olds k μ a)(t:WF)(j:Nat)(d:(t,j)∈k){b:It}(c:its[j]? = some b):a.eval (.tmp t)=b.out.at μ:=h.1 t j b d c
theorem Known.old{k:List (WF × Nat)}{μ:Nat->Nat}{a:Act}(h:Known ops i its olds k μ a)(t:WF)(s:SV)(b:(t,s)∈olds)(hf:Fp ops its i t=true):a.eval (.tmp t)=s.at μ:=h.2 t s b hf
theorem len1{l:List Nat}(h:l.length=1):∃k,l=[k]:=List.length_eq_one_iff.1 h
theorem len2{l:List Nat}(h:l.length=2):∃k j,l=[k,j]:=by
 match l,h with
 | [k,j],_=>exact⟨k,j,rfl⟩
end RG
namespace RG
open Go Go.RowKit
variable {P:VD}{ops:Array Vk}{Q:Yq->Act->Ur->Prop}{w0 w:Ur}{k0:Nat}{X:List Nat}{its:List It}{bl:List Bl}{olds:List (WF × SV)}{a0:Act}{L:Array Bool}{μ μ0:Nat->Nat}{i:Nat}{o:Vk}{it:It}
def Certs(P:VD)(Q:Yq->Act->Ur->Prop)(c:Ur)(e:Nat)(X:List Nat)(k:Array Vk)(b:List It)(d:List Bl)(olds:List (WF × SV)):Nat->List Vk->List It->Prop
 | _,[],_=>True
 | _,_ :: _,[]=>False
 | i,o :: os,it :: is=>Cert P Q c e X k i b d olds o it/\Certs P Q c e X k b d olds (i+1) os is
theorem Certs.get:∀ {b:List Vk}{k:List It}{n:Nat},Certs P Q w0 k0 X ops its bl olds n b k->∀(i:Nat) (o:Vk) (it:It),b[i]? = some o->k[i]? = some it->Cert P Q w0 k0 X ops (n+i) its bl olds o it
 | [],_,_,_,i,_,_,h,_=>by simp at h
 | _ :: _,[],_,h,_,_,_,_,_=>h.elim
 | o :: b,it :: k,_,h,0,o',it',ho,hi=>by
  obtain rfl:o=o':=by simpa using ho
  obtain rfl:it=it':=by simpa using hi
  exact h.1
 | o :: b,it :: k,n,h,i+1,o',it',ho,hi=>by
  have:=Certs.get h.2 i o' it' (by simpa using ho) (by simpa using hi);rw[show n+(i+1)=n+1+i by omega];exact this
def Olds(a0:Act)(k:Nat->Nat):List (WF × SV)->Prop
 | []=>True
 | x :: r=>a0.tmps[x.1]? = some (x.2.at k)/\Olds a0 k r
theorem Olds.get:∀ {l:List (WF × SV)},Olds a0 μ0 l->∀(t:WF) (s:SV),(t,s)∈l->a0.tmps[t]? = some (s.at μ0)
 | [],_,_,_,h=>by cases h
 | x :: r,h,t,s,hm=>by
  rcases VX.1 hm with e|e
  ·subst e;exact h.1
  ·exact Olds.get h.2 t s e
theorem Reg.mk'(chk:allB ops its bl olds a0.tmps.size=true)(old:Olds a0 μ0 olds)(k:Certs P Q w0 k0 X ops its bl olds 0 ops.toList its):Reg P ops Q w0 k0 X its bl olds a0 μ0:=
 ⟨chk,λt s c=>old.get t s c,λi o it ho b=>by have:=k.get i o it (by rw[Vq];exact ho) b;rwa[UD]at this⟩
theorem yL(c:it.kind=.call)(f:Xs)(t1:WF)(v1 v:Ut)(b:it.out=.v v)(k:∀(a:Act) (w:Ur),(U5 a.eval o).run P w=.ok (.enter f #[a.eval (.tmp t1)]) w)
 (d:∀(μ:Nat->Nat) (a:Act),Known ops i its olds it.need μ a->a.eval (.tmp t1)=v1) (g:∀w,UH P f #[v1] w (rZ w λe w'=>e=v)):Cert P Q w0 k0 X ops i its bl olds o it:=
 tC c f #[v1] v b (λμ a w j _=>by rw[k,d μ a j]) (λw _=>g w)
theorem Nh{b k:Nat}(c:it.out=.p b 0):it.out.at (upd μ b k)=jZ k:=by
 rw[c];show yBv (some ⟨upd μ b k b,0,none⟩)=_;unfold upd;rw[yCl rfl]
theorem qH(b:Nat)(d:it.kind=.make b)(k:it.out=.p b 0)(e:Bl)(f:bl[b]? = some e)(T:U8)(ho:o.op=.alloc T)(c:∀w:Ur,(yBI T true (.tuple #[])).run P w=.ok (jZ w.heap.size) (w.alloc (.cells e.before.toArray T))):Cert P Q w0 k0 X ops i its bl olds o it:=by
 refine Ah b d e f T λμ a w g _=>?_
 unfold U5;rw[ho];rw[Nh k];show((yBI T true (.tuple #[])) >>= λv=>pure (Xr v)).run P w=_;rw[UV,c];rfl
theorem aI{e:Func}{a:Act}{cs:List (List Ut)}{ks:List Nat}(g:St w0 k0 X cs ks w)(t:WF)(T:U8)(l:e.results=#[.cell t T])(b:Nat)(c:List Ut)(m:cs[b]? = some c)(j:a.tmps[t]? = some (.pointer (some ⟨ad ks b,0,none⟩)))
 (k:(P.underlying T).map (·.isRow)=some true) (f:(P.info? T).map (·.size)=some c.length):(results e a.tmps).run P w=.ok (.agg c.toArray) w:=by
 obtain⟨d,k,hd⟩:=Uy.1 k;have i:=Yg (P:=P) w (ad ks b) 0 T c d (g.has b c m).1 k hd f;have n:a.tmps.getD t WR=.pointer (some ⟨ad ks b,0,none⟩):=by rw[UI,j];rfl
 unfold results;rw[l];simp only[XC,YR,Y1,n,asAddr];simp[UV,i]
theorem St.begin(w:Ur):St w w.heap.size [] [] [] w:=⟨BelX.refl _ _ _,Uw _,rfl,λb c h=>by simp at h,λb c h=>by simp at h⟩
end RG
namespace RG
open Go Go.RowKit
variable {P:VD}{ops:Array Vk}{Q:Yq->Act->Ur->Prop}{w0 w:Ur}{k0:Nat}{X:List Nat}{its:List It}{bl:List Bl}{olds:List (WF × SV)}{a0:Act}{i:Nat}{o:Vk}{it:It}
theorem dD(k:it.kind=.pass)(h:it.out=.v WR):Cert P Q w0 k0 X ops i its bl olds o it:=by
 intro μ a w K _ _ _;rw[k];exact h
theorem aQ(j:it.kind=.stay)(op:BinOp)(T c:U8)(t1 t2:WF)(v1 v2 v:Ut)(ho:o.op=.binOp op T (.tmp t1) (.tmp t2) c)(k:it.out=.v v)
 (f:∀(μ:Nat->Nat) (a:Act),Known ops i its olds it.need μ a->a.eval (.tmp t1)=v1) (d:∀(μ:Nat->Nat) (a:Act),Known ops i its olds it.need μ a->a.eval (.tmp t2)=v2)
 (e:∀w,(eqGuard op T (.tmp t1) (.tmp t2) v1 v2).run P w=.ok () w) (g:∀w,(binOp op T v1 v2).run P w=.ok v w):Cert P Q w0 k0 X ops i its bl olds o it:=by
 refine dY j λμ a w b _=>?_
 unfold U5;rw[ho,k];dsimp only;rw[f μ a b,d μ a b,UV,UV,e];dsimp only[ZV];rw[g];rfl
theorem jA{k:Func}{a:Act}(t:WF)(c:k.results=#[.tmp t])(v:Ut)(b:a.tmps[t]? = some v):(results k a.tmps).run P w=.ok v w:=by
 have d:a.tmps.getD t WR=v:=by rw[UI,b];rfl
 unfold results;rw[c];simp only[XC,YR,Y1,d];simp[UV]
theorem cQ{f:Func}{a:Act}{cs:List (List Ut)}{ks:List Nat}(o:St w0 k0 X cs ks w)(t u:WF)(T:U8)(i:f.results=#[.cell t T,.tmp u])(b:Nat)(c:List Ut)(p:cs[b]? = some c)(g:a.tmps[t]? = some (.pointer (some ⟨ad ks b,0,none⟩)))(v:Ut)(e:a.tmps[u]? = some v)
 (k:(P.underlying T).map (·.isRow)=some true) (n:(P.info? T).map (·.size)=some c.length):(results f a.tmps).run P w=.ok (.tuple #[.agg c.toArray,v]) w:=by
 obtain⟨d,k,hd⟩:=Uy.1 k;have l:=Yg (P:=P) w (ad ks b) 0 T c d (o.has b c p).1 k hd n;have j:a.tmps.getD t WR=.pointer (some ⟨ad ks b,0,none⟩):=by rw[UI,g];rfl
 have m:a.tmps.getD u WR=v:=by rw[UI,e];rfl
 unfold results;rw[i];simp only[XC,YR,Y1,j,m,asAddr];simp[UV,l]
end RG
namespace RG
open Go Go.RowKit
variable {P:VD}{ops:Array Vk}{Q:Yq->Act->Ur->Prop}{w0 w:Ur}{k0:Nat}{X:List Nat}{its:List It}{bl:List Bl}{olds:List (WF × SV)}{a0 a:Act}{i:Nat}{o:Vk}{it:It}{μ:Nat->Nat}
structure Sl(a:Act)(n:Nat):Prop where
 size:a.tmps.size=n
 defers:a.defers=[]
theorem Sl.puts{n:Nat}(h:Sl a n):Sl (puts μ its a) n:=⟨by rw[zN];exact h.size,by rw[nE];exact h.defers⟩
theorem A7{v:Ut}(h:a.tmps[t]? = some v):a.eval (.tmp t)=v:=by
 show a.tmps.getD t WR=v;rw[UI,h];rfl
theorem results_none{k:Func}{tmps:Array Ut}(b:k.results=#[]):(results k tmps).run P w=.ok (.tuple #[]) w:=by
 unfold results;rw[b];simp
theorem Hy{c:Code}{n:Nat}(b:a.tmps[0]? = some v0)(k:a.tmps.size=n)(hd:a.defers=[])(h:∀a,Sl a n->a.tmps[0]? = some v0->c.wp P Q a w):c.wp P Q a w:=h a ⟨k,hd⟩ b
theorem Ot{c:Code}{v1:Ut}{n:Nat}(d:a.tmps[0]? = some v0)(k:a.tmps[1]? = some v1)(b:a.tmps.size=n)(hd:a.defers=[])(h:∀a,Sl a n->a.tmps[0]? = some v0->a.tmps[1]? = some v1->c.wp P Q a w):c.wp P Q a w:=h a ⟨b,hd⟩ d k
theorem Tb{c:Code}{v1 v2:Ut}{n:Nat}(d:a.tmps[0]? = some v0)(k:a.tmps[1]? = some v1)(e:a.tmps[2]? = some v2)(b:a.tmps.size=n)(hd:a.defers=[])(h:∀a,Sl a n->a.tmps[0]? = some v0->a.tmps[1]? = some v1->a.tmps[2]? = some v2->c.wp P Q a w):c.wp P Q a w:=h a ⟨b,hd⟩ d k e
theorem mJ(b:Nat)(m:it.kind=.make b)(e:Bl)(j:bl[b]? = some e)(T E:U8)(t1 t2:WF)(n:Nat)(k:it.out=.s b n n)(ho:o.op=.makeSlice T (.tmp t1) (.tmp t2))
 (g:∀(μ:Nat->Nat) (a:Act),Known ops i its olds it.need μ a->a.eval (.tmp t1)=iZ n) (f:∀(μ:Nat->Nat) (a:Act),Known ops i its olds it.need μ a->a.eval (.tmp t2)=iZ n)
 (l:∀w:Ur,(Instr.makeSlice T (iZ n) (iZ n)).run P w=.ok (sZ w.heap.size n n) (w.alloc (.cells e.before.toArray E))):Cert P Q w0 k0 X ops i its bl olds o it:=by
 refine Ah b m e j E λμ a w c _=>?_
 have d:it.out.at (upd μ b w.heap.size)=sZ w.heap.size n n:=by
  rw[k];show Vw (some ⟨upd μ b w.heap.size b,0,none⟩) n n=_;unfold upd;rw[yCl rfl]
 unfold U5;rw[ho];dsimp only;rw[g μ a c,f μ a c,d,UV,l];rfl
theorem fQ(b:it.kind=.stay)(t:WF)(s:SV)(v:Ut)(k:it.out=.v v)(hx:∀(μ:Nat->Nat) (a:Act),Known ops i its olds it.need μ a->a.eval (.tmp t)=s.at μ)
 (hE:∀(a:Act) (w:Ur),(U5 a.eval o).run P w=(U5 (λ_=>a.eval (.tmp t)) o).run P w) (c:∀(μ:Nat->Nat) (w:Ur),(U5 (λ_=>s.at μ) o).run P w=.ok (.value v) w):Cert P Q w0 k0 X ops i its bl olds o it:=by
 refine dY b λμ a w d _=>?_
 rw[hE,hx μ a d,c,k];rfl
theorem D6(u:it.kind=.call)(b:Nat)(e:Bl)(t:bl[b]? = some e)(l:e.al=none)(g:readB ops i e=true)(n:e.before≠[])(f:Xs)(args:(Nat->Nat)->Array Ut)(v:Ut)(d:it.out=.v v)(c:∀(μ:Nat->Nat) (a:Act) (w:Ur),Known ops i its olds it.need μ a->(U5 a.eval o).run P w=.ok (.enter f (args μ)) w)
 (y:∀(μ:Nat->Nat) (w:Ur),μ b<w.heap.size->w.rangeAt (μ b) 0 e.before->UH P f (args μ) w (rZ w λr w'=>r=v)):Cert P Q w0 k0 X ops i its bl olds o it:=by
 intro μ a w K p hR _;rw[u];intro h;rw[d]at h;have m:=hR b e t (U4 l) g;have j:μ b<w.heap.size:=by
  cases k:e.before with
  | nil=>exact absurd k n
  | cons x r =>
   have s:=m 0 x (by rw[k];rfl);exact Wv λz=>by
    have q:w.heap[μ b]? = none:=WP oM;simp[VY,q]at s
 unfold VT;rw[c μ a w p,Xb];refine(y μ w j m).mono ?_;rintro r w' ⟨q,rfl,k,rfl⟩;exact h w' k
theorem rV{k o:Nat}{cs:List Ut}(h:w.rangeAt k 0 C)(c:∀j,j<cs.length->C[o+j]? = cs[j]?):w.rangeAt k o cs:=λj v hv=>by
 have b:=(UF.1 hv).1;have:=h (o+j) v (by rw[c j b];exact hv);rwa[UD]at this
theorem bD(b:it.kind=.stay)(T:U8)(t u:WF)(ho:o.op=.indexAddr T (.tmp t) (.tmp u))(s:SV)(iv:Ut)(hx:∀(μ:Nat->Nat) (a:Act),Known ops i its olds it.need μ a->a.eval (.tmp t)=s.at μ)(c:∀(μ:Nat->Nat) (a:Act),Known ops i its olds it.need μ a->a.eval (.tmp u)=iv)
 (hf:∀(μ:Nat->Nat) (w:Ur),(Vl T (s.at μ) iv).run P w=.ok (it.out.at μ) w):Cert P Q w0 k0 X ops i its bl olds o it:=by
 refine dY b λμ a w k _=>?_
 unfold U5;rw[ho];dsimp only;rw[hx μ a k,c μ a k,UV,hf];rfl
theorem eM(b:it.kind=.stay)(T:U8)(t:WF)(iv:Ut)(ho:o.op=.indexAddr T (.tmp t) (.const iv))(s:SV)(hx:∀(μ:Nat->Nat) (a:Act),Known ops i its olds it.need μ a->a.eval (.tmp t)=s.at μ)
 (hf:∀(μ:Nat->Nat) (w:Ur),(Vl T (s.at μ) iv).run P w=.ok (it.out.at μ) w):Cert P Q w0 k0 X ops i its bl olds o it:=by
 refine dY b λμ a w k _=>?_
 unfold U5;rw[ho];dsimp only;rw[hx μ a k];show((Vl T (s.at μ) iv) >>= λv=>pure (Xr v)).run P w=_;rw[UV,hf];rfl
theorem aP(e:it.kind=.stay)(op:BinOp)(T c:U8)(t1:WF)(v1 v2 v:Ut)(ho:o.op=.binOp op T (.tmp t1) (.const v2) c)(k:it.out=.v v)
 (d:∀(μ:Nat->Nat) (a:Act),Known ops i its olds it.need μ a->a.eval (.tmp t1)=v1)
 (f:∀w,(eqGuard op T (.tmp t1) (.const v2) v1 v2).run P w=.ok () w) (g:∀w,(binOp op T v1 v2).run P w=.ok v w):Cert P Q w0 k0 X ops i its bl olds o it:=by
 refine dY e λμ a w b _=>?_
 unfold U5;rw[ho,k];dsimp only;rw[d μ a b];show(((eqGuard op T (.tmp t1) (.const v2) v1 v2) >>= λ_=>binOp op T v1 v2) >>= λv=>pure (Xr v)).run P w=_;rw[UV,UV,f];dsimp only[ZV];rw[g];rfl
theorem GW(d:it.kind=.stay)(S T:U8)(t:WF)(v b:Ut)(ho:o.op=.convert S T (.tmp t))(k:it.out=.v b)(hx:∀(μ:Nat->Nat) (a:Act),Known ops i its olds it.need μ a->a.eval (.tmp t)=v)(e:∀w,(convert S T v).run P w=.ok b w):Cert P Q w0 k0 X ops i its bl olds o it:=by
 refine dY d λμ a w c _=>?_
 unfold U5;rw[ho,k];dsimp only;rw[hx μ a c,UV,e];rfl
theorem MZ(d:it.kind=.stay)(op:UnOp)(T:U8)(t:WF)(v b:Ut)(ho:o.op=.unOp op T (.tmp t))(k:it.out=.v b)(hx:∀(μ:Nat->Nat) (a:Act),Known ops i its olds it.need μ a->a.eval (.tmp t)=v)(e:∀w,(Op.unary op v).run P w=.ok b w):Cert P Q w0 k0 X ops i its bl olds o it:=by
 refine dY d λμ a w c _=>?_
 unfold U5;rw[ho,k];dsimp only;rw[hx μ a c,UV,e];rfl
theorem eH(q:it.kind=.stay)(k off:Nat)(c:k<k0)(f:k ∉ X)(T:U8)(t:WF)(ho:o.op=.load T (.tmp t))(cs:List Ut)(b:it.out=.v (.agg cs.toArray))
 (hx:∀(μ:Nat->Nat) (a:Act),Known ops i its olds it.need μ a->a.eval (.tmp t)=oZ k off) (g:w0.rangeAt k off cs)
 (e:(P.underlying T).map (·.isRow)=some true) (p:(P.info? T).map (·.size)=some cs.length):Cert P Q w0 k0 X ops i its bl olds o it:=by
 intro μ a w K l _ m;rw[q];intro h;rw[b]at h;obtain⟨d,e,hd⟩:=Uy.1 e;refine wp_load_mid T (.tmp t) ho k off (hx μ a l) cs d (λj v n=>?_) e hd p h;rw[UW (w:=w0) (a:=⟨k,off+j,none⟩) (m.block k c f)];exact g j v n
theorem fD{T:U8}{k off:Nat}{v:Ut}(e:w.cell? ⟨k,off,none⟩=some v)(c:(P.underlying T).map (·.isRow)=some false):(ZD T (oZ k off)).run P w=.ok v w:=by
 obtain⟨d,c,hd⟩:=Uy.1 c;have b:(isAgg T).run P w=.ok false w:=by
  unfold isAgg;rw[UV,run_underlying c w];cases d<;>simp_all
 simp[ZD,X6,loadVar,UV,b,e]
theorem yK(n:it.kind=.stay)(b off:Nat)(e:Bl)(m:bl[b]? = some e)(f:e.al=none)(d:readB ops i e=true)(T:U8)(t:WF)(ho:o.op=.load T (.tmp t))(v:Ut)(k:it.out=.v v)
 (hx:∀(μ:Nat->Nat) (a:Act),Known ops i its olds it.need μ a->a.eval (.tmp t)=(SV.p b off).at μ) (c:e.before[off]? = some v)
 (l:(P.underlying T).map (·.isRow)=some false):Cert P Q w0 k0 X ops i its bl olds o it:=by
 intro μ a w K j hR _;rw[n];intro h;rw[k]at h;have g:=hR b e m (U4 f) d off v c;rw[UD]at g;unfold VT U5;rw[ho];dsimp only;rw[hx μ a j];show o.upon P a K Q (((ZD T (.pointer (some ⟨μ b,off,none⟩))) >>= λv=>pure (Xr v)).run P w);rw[UV,fD g l];exact h
theorem wL{T:U8}{k off:Nat}{v u:Ut}(f:w.cell? ⟨k,off,none⟩=some u)(hf:w.frozen? ⟨k,off,none⟩=false)(e:v.oneCell'=true)(hv:v.cells=#[v])(d:(P.info? T).map (·.size)=some 1):(Yy T (oZ k off) v).run P w=.ok () (w.setCells k off [v]):=by
 have:=run_storeCells_cells (P:=P) k off [v] 0 w (λj b=>by
  obtain rfl:j=0:=by simpa using b
  simp[f]) (λj b=>by
  obtain rfl:j=0:=by simpa using b
  simpa using hf) (λx hx=>by
  obtain rfl:x=v:=by simpa using hx
  exact e)
 cases c:P.info? T with
 | none=>simp[c]at d
 | some inf =>
  have g:inf.size=1:=by simp[c]at d;omega
  simp only[XD]at this;simp[Yy,X6,storeVar,sizeOf,typeInfo,c,hv,g,this]
theorem GV(b off:Nat)(z:it.kind=.put b)(e:Bl)(s:bl[b]? = some e)(T:U8)(x y:XI)(v:Ut)(ho:o.op=.store T x y)(f:o.dst=none)
 (hx:∀(μ:Nat->Nat) (a:Act),Known ops i its olds it.need μ a->a.eval x=(SV.p b off).at μ) (q:∀(μ:Nat->Nat) (a:Act),Known ops i its olds it.need μ a->a.eval y=v) (k:off<e.before.length) (c:e.after=e.before.set off v)
 (t:(P.info? T).map (·.size)=some 1) (r:v.oneCell'=true) (hv:v.cells=#[v]):Cert P Q w0 k0 X ops i its bl olds o it:=by
 intro μ a w K m _ _;rw[z];intro e' d l p h;rw[s]at d;obtain rfl:e=e':=UO.inj d;have g:PutTo (μ b) e.before.length e.after w (w.setCells (μ b) off [v]):=PutTo.store l p (by simp only[Vj,WI];omega) (λj=>by
  rw[c,List.getElem?_set];by_cases n:off=j
  ·subst n;rw[yCl rfl,yCl k,yCl (by simp)];simp
  ·rw[yCm n,yCm (by simp only[Vj,WI];omega)])
 have c:=l off k;rw[UD]at c;obtain⟨u,n⟩:=Vr.1 c.1;unfold VT U5;rw[ho];dsimp only;rw[hx μ a m,q μ a m];show o.upon P a K Q (((Yy T (.pointer (some ⟨μ b,off,none⟩)) v) >>= λ_=>pure Next.skip).run P w);rw[UV,wL n c.2 r hv t];have:=h _ g;rw[f]at this;show K (a.put o.dst WR) _;rw[f];exact this
theorem eZ(b off:Nat)(u:it.kind=.put b)(e:Bl)(r:bl[b]? = some e)(T:U8)(x y:XI)(vs:List Ut)(ho:o.op=.store T x y)(f:o.dst=none)
 (hx:∀(μ:Nat->Nat) (a:Act),Known ops i its olds it.need μ a->a.eval x=(SV.p b off).at μ) (p:∀(μ:Nat->Nat) (a:Act),Known ops i its olds it.need μ a->a.eval y=.agg vs.toArray) (c:off+vs.length<=e.before.length)
 (d:∀j,e.after[j]? = if off<=j/\j<off+vs.length then vs[j-off]? else e.before[j]?)
 (t:(P.info? T).map (·.size)=some vs.length) (q:vs.all (·.oneCell')=true):Cert P Q w0 k0 X ops i its bl olds o it:=by
 intro μ a w K m _ _;rw[u];intro e' k l n h;rw[r]at k;obtain rfl:e=e':=UO.inj k;have g:=PutTo.store l n c d;refine wp_store_mid T x y ho (μ b) off vs.toArray (hx μ a m) (p μ a m) ?_ ?_ ?_ ?_
 ·intro j s;have:=l (off+j) (by rw[VC]at s;omega);rwa[UD]at this
 ·rw[VC];exact t
 ·exact all_oneCell_toArray (λv hv=>Va.1 q v hv)
 ·have:=h _ g;rw[f]at this⊢;exact this
theorem Bh(b:Nat)(p:it.kind=.put b)(e:Bl)(n:bl[b]? = some e)(f:Xs)(args:(Nat->Nat)->Array Ut)(v:Ut)(g:it.out=.v v)(d:∀(μ:Nat->Nat) (a:Act) (w:Ur),Known ops i its olds it.need μ a->BelX k0 X w0 w->(U5 a.eval o).run P w=.ok (.enter f (args μ)) w)
 (q:∀(μ:Nat->Nat) (w:Ur),BelX k0 X w0 w->w.there (μ b) 0 e.before.length->w.rangeAt (μ b) 0 e.before->UH P f (args μ) w (Ret λr w'=>PutTo (μ b) e.before.length e.after w w'/\r=v)):Cert P Q w0 k0 X ops i its bl olds o it:=by
 intro μ a w K m _ k;rw[p];intro e' c j l h;rw[n]at c;obtain rfl:e=e':=UO.inj c;rw[g]at h;unfold VT;rw[d μ a w m k,Xb];refine(q μ w k j l).mono ?_;rintro r w' ⟨t,rfl,s,rfl⟩;exact h w' s
theorem St.lent{k:Nat}(e:k<w.heap.size)(g:w.rangeAt k 0 C)(f:w.there k 0 C.length):St w w.heap.size [k] [C] [k] w:=by
 refine⟨BelX.refl _ _ _,Uw _,rfl,λb c h=>?_,λb c j i d=>?_⟩
 ·cases b with
  | zero =>
   obtain rfl:C=c:=by simpa using h
   exact⟨g,f,e,UX Vu⟩
  | succ b=>simp at h
 ·simp only[Vj,WI]at j i;omega
theorem St.putTo{k:Nat}{C:List Ut}{cs:List (List Ut)}{ks:List Nat}{n:Nat}(h:St w0 w0.heap.size [k] (C :: cs) (k :: ks) w)(c:C.length=n):PutTo k n C w0 w:=by
 obtain⟨e,f,-,-⟩:=h.has 0 C rfl;refine⟨h.bel.os,h.bel.tape,h.bel.output,h.bel.size,λj d b=>h.bel.block j d (by simpa using b),e,?_⟩;rw[<-c];exact f
def rep(C:List Ut)(o:Nat)(vs:List Ut):List Ut:=C.take o++(vs++C.drop (o+vs.length))
theorem cU{o:Nat}(h:o+vs.length<=C.length):(rep C o vs).length=C.length:=by
 unfold rep;rw[UA,UA,WH,ZK];omega
theorem rep_at{o:Nat}(h:o+vs.length<=C.length)(j:Nat):(rep C o vs)[j]? = if o<=j/\j<o+vs.length then vs[j-o]? else C[j]?:=by
 unfold rep;have k:(C.take o).length=o:=by rw[WH];omega
 by_cases b:j<o
 ·rw[UT (by rw[k];exact b),WC,yCl b,yCm oM]
 ·rw[U1 (by rw[k];omega),k];by_cases c:j<o+vs.length
  ·rw[UT oM,yCl ⟨oM,c⟩]
  ·rw[U1 oM,yCm oM,Zr]
   congr 1
   omega
theorem Oz{cs:List Ut}{o:Nat}(h:∀j,j<cs.length->C[o+j]? = cs[j]?)(b:o+cs.length<=C.length):(C.drop o).take cs.length=cs:=by
 apply List.ext_getElem?;intro j;by_cases k:j<cs.length
 ·rw[WC,yCl k,Zr,h j k]
 ·rw[Wz (by rw[WH,ZK];omega),Wz oM]
theorem yZ(b:Nat)(t:it.kind=.put b)(e:Bl)(s:bl[b]? = some e)(f:Xs)(t1 t2 j:WF)(s1:SV)(v2 d v:Ut)(c:it.out=.v v)(k:∀(a:Act) (w:Ur),(U5 a.eval o).run P w=.ok (.enter f #[a.eval (.tmp t1),a.eval (.tmp t2),a.eval (.tmp j)]) w)
 (p:∀(μ:Nat->Nat) (a:Act),Known ops i its olds it.need μ a->a.eval (.tmp t1)=s1.at μ) (n:∀(μ:Nat->Nat) (a:Act),Known ops i its olds it.need μ a->a.eval (.tmp t2)=v2) (q:∀(μ:Nat->Nat) (a:Act),Known ops i its olds it.need μ a->a.eval (.tmp j)=d)
 (u:∀(μ:Nat->Nat) (w:Ur),w.there (μ b) 0 e.before.length->w.rangeAt (μ b) 0 e.before->UH P f #[s1.at μ,v2,d] w (Ret λr w'=>PutTo (μ b) e.before.length e.after w w'/\r=v)):Cert P Q w0 k0 X ops i its bl olds o it:=
 Bh b t e s f (λμ=>#[s1.at μ,v2,d]) v c (λμ a w g _=>by rw[k,p μ a g,n μ a g,q μ a g]) (λμ w _ l m=>u μ w l m)
theorem CG(q:it.kind=.call)(b:Nat)(e:Bl)(p:bl[b]? = some e)(g:e.al=none)(d:readB ops i e=true)(l:e.before≠[])(f:Xs)(t1 t2:WF)(s1:SV)(v2 v:Ut)(c:it.out=.v v)(k:∀(a:Act) (w:Ur),(U5 a.eval o).run P w=.ok (.enter f #[a.eval (.tmp t1),a.eval (.tmp t2)]) w)
 (n:∀(μ:Nat->Nat) (a:Act),Known ops i its olds it.need μ a->a.eval (.tmp t1)=s1.at μ) (m:∀(μ:Nat->Nat) (a:Act),Known ops i its olds it.need μ a->a.eval (.tmp t2)=v2)
 (s:∀(μ:Nat->Nat) (w:Ur),μ b<w.heap.size->w.rangeAt (μ b) 0 e.before->UH P f #[s1.at μ,v2] w (rZ w λr w'=>r=v)):Cert P Q w0 k0 X ops i its bl olds o it:=
 D6 q b e p g d l f (λμ=>#[s1.at μ,v2]) v c (λμ a w j=>by rw[k,n μ a j,m μ a j]) s
end RG
namespace RG
open Go Go.RowKit
variable {P:VD}{ops:Array Vk}{Q:Yq->Act->Ur->Prop}{w0 w:Ur}{k0:Nat}{X:List Nat}{its:List It}{bl:List Bl}{olds:List (WF × SV)}{a:Act}{i:Nat}{o:Vk}{it:It}
theorem uF(e:it.kind=.stay)(T:U8)(t:WF)(b v c:Ut)(ho:o.op=.slice T (.tmp t) (some (.const b)) none none)(k:it.out=.v c)(hx:∀(μ:Nat->Nat) (a:Act),Known ops i its olds it.need μ a->a.eval (.tmp t)=v)
 (hf:∀w:Ur,(Xp T v (some b) none none).run P w=.ok c w):Cert P Q w0 k0 X ops i its bl olds o it:=by
 refine dY e λμ a w d _=>?_
 unfold U5;rw[ho,k];dsimp only;rw[hx μ a d];show((Xp T v (some b) none none) >>= λv=>pure (Xr v)).run P w=_;rw[UV,hf];rfl
theorem CE(d:it.kind=.stay)(T:U8)(t:WF)(v b:Ut)(ho:o.op=.sliceToArrayPointer T (.tmp t))(k:it.out=.v b)(hx:∀(μ:Nat->Nat) (a:Act),Known ops i its olds it.need μ a->a.eval (.tmp t)=v)
 (hf:∀w:Ur,(Instr.arrayAt T v).run P w=.ok b w):Cert P Q w0 k0 X ops i its bl olds o it:=by
 refine dY d λμ a w c _=>?_
 unfold U5;rw[ho,k];dsimp only;rw[hx μ a c,UV,hf];rfl
theorem bM(m:it.kind=.stay)(k off:Nat)(c:k<k0)(d:k ∉ X)(T:U8)(t:WF)(ho:o.op=.load T (.tmp t))(v:Ut)(b:it.out=.v v)
 (hx:∀(μ:Nat->Nat) (a:Act),Known ops i its olds it.need μ a->a.eval (.tmp t)=oZ k off) (e:w0.cell? ⟨k,off,none⟩=some v)
 (g:(P.underlying T).map (·.isRow)=some false):Cert P Q w0 k0 X ops i its bl olds o it:=by
 refine dY m λμ a w f l=>?_
 have j:w.cell? ⟨k,off,none⟩=some v:=by
  rw[UW (w:=w0) (a:=⟨k,off,none⟩) (l.block k c d)];exact e
 unfold U5;rw[ho,b];dsimp only;rw[hx μ a f,UV,fD j g];rfl
theorem kH(j:it.kind=.call)(f:Xs)(t1 t2:WF)(v1 v2 v:Ut)(b:it.out=.v v)(k:∀(a:Act) (w:Ur),(U5 a.eval o).run P w=.ok (.enter f #[a.eval (.tmp t1),a.eval (.tmp t2)]) w)
 (g:∀(μ:Nat->Nat) (a:Act),Known ops i its olds it.need μ a->a.eval (.tmp t1)=v1) (d:∀(μ:Nat->Nat) (a:Act),Known ops i its olds it.need μ a->a.eval (.tmp t2)=v2)
 (l:∀w,BelX k0 X w0 w->UH P f #[v1,v2] w (rZ w λe w'=>e=v)):Cert P Q w0 k0 X ops i its bl olds o it:=
 tC j f #[v1,v2] v b (λμ a w c _=>by rw[k,g μ a c,d μ a c]) l
theorem uG(c:it.kind=.call)(f:Xs)(t1:WF)(v1 v:Ut)(b:it.out=.v v)(k:∀(a:Act) (w:Ur),(U5 a.eval o).run P w=.ok (.enter f #[a.eval (.tmp t1)]) w)
 (d:∀(μ:Nat->Nat) (a:Act),Known ops i its olds it.need μ a->a.eval (.tmp t1)=v1)
 (g:∀w,BelX k0 X w0 w->UH P f #[v1] w (rZ w λe w'=>e=v)):Cert P Q w0 k0 X ops i its bl olds o it:=
 tC c f #[v1] v b (λμ a w j _=>by rw[k,d μ a j]) g
theorem St.init{cs:List (List Ut)}{c:List Ut}{ks:List Nat}{k:Nat}(h:St w0 k0 X (cs++[c]) (ks++[k]) w):St w0 k0 X cs ks w:=by
 have j:ks.length=cs.length:=by have:=h.len;simp only[UA,Vj,WI]at this;omega
 have d:∀b,b<cs.length->ad (ks++[k]) b=ad ks b:=λb f=>by
  unfold ad;rw[VQ,VQ,UT oM]
 refine⟨h.bel,h.le,j,λb g f=>?_,λb g f l i=>?_⟩
 ·have e:=(UF.1 f).1;have:=h.has b g (by rw[UT e];exact f);rwa[d b e]at this
 ·have:=h.inj b g (by rw[UA];omega) (by rw[UA];omega) i;rwa[d b f,d g l]at this
theorem fX{b:Func}{a:Act}(t u:WF)(e:b.results=#[.tmp t,.tmp u])(v k:Ut)(c:a.tmps[t]? = some v)(d:a.tmps[u]? = some k):(results b a.tmps).run P w=.ok (.tuple #[v,k]) w:=by
 have g:a.tmps.getD t WR=v:=by rw[UI,c];rfl
 have f:a.tmps.getD u WR=k:=by rw[UI,d];rfl
 unfold results;rw[e];simp only[XC,YR,Y1,g,f];simp[UV]
end RG
namespace RG
open Go Go.RowKit
variable {P:VD}{ops:Array Vk}{Q:Yq->Act->Ur->Prop}{w0 w:Ur}{k0 n:Nat}{X:List Nat}{its:List It}{bl:List Bl}{os:List (WF × SV)}{a:Act}{i:Nat}{o:Vk}{it:It}{μ:Nat->Nat}{need:List (WF × Nat)}
def src(c:Array Vk)(k:List It)(d:List (WF × SV))(b:List (WF × Nat))(i:Nat)(t:WF):Option SV:=
 match b.find? (λx=>x.1 == t) with
 | some x=>(k[x.2]?).map (·.out)
 | none=>match d.find? (λx=>x.1 == t) with
  | some x=>bif Fp c k i t then some x.2 else none
  | none=>none
theorem mU{s:SV}(h:src ops its os need i t=some s)(K:Known ops i its os need μ a):a.eval (.tmp t)=s.at μ:=by
 unfold src at h;cases k:need.find? (λx=>x.1 == t) with
 | some x =>
  rw[k]at h;dsimp only at h;have b:=WQ k;have c:x.1=t:=by simpa using Yf k
  obtain⟨e,d,rfl⟩:=Uy.1 h;exact K.op t x.2 (by rw[<-c];exact b) d
 | none =>
  rw[k]at h;dsimp only at h;cases ho:os.find? (λx=>x.1 == t) with
  | none=>rw[ho]at h;cases h
  | some x =>
   rw[ho]at h;dsimp only at h;have b:=WQ ho;have c:x.1=t:=by simpa using Yf ho
   cases hf:Fp ops its i t with
   | false=>rw[hf]at h;cases h
   | true =>
    rw[hf]at h;obtain rfl:x.2=s:=UO.inj h;exact K.old t x.2 (by rw[<-c];exact b) hf
theorem sx{f:(Nat->Nat)->Ut}(h:∀μ:Nat->Nat,(src ops its os need i t).map (λs=>s.at μ)=some (f μ):=by intro _;kernel_rfl):∀(μ:Nat->Nat) (a:Act),Known ops i its os need μ a->a.eval (.tmp t)=f μ:=λμ _ K=>by
 obtain⟨s,b,k⟩:=Uy.1 (h μ);rw[mU b K];exact k
def ro(b:Array Vk)(c:List It)(d:List (WF × SV))(k:List (WF × Nat))(i:Nat)(μ:Nat->Nat):XI->Ut
 | .tmp t=>match src b c d k i t with|some s=>s.at μ|none=>WR
 | .const v=>v
 | .global g=>jZ g
 | .func f=>.func (.func f) #[] #[]
def seen(b:Array Vk)(c:List It)(d:List (WF × SV))(k:List (WF × Nat))(i:Nat)(o:Vk):Bool:=
 (match o.op with | .select _ _=>false|_=>true) && o.op.operands.all (λx=>match x with | .tmp t=>(src b c d k i t).isSome|_=>true)
theorem oD(h:seen ops its os need i o=true)(K:Known ops i its os need μ a):U5 a.eval o=U5 (ro ops its os need i μ) o:=by
 simp only[seen,UL]at h;refine execOp_congr o (λcs b d=>?_) (λx hx=>?_)
 ·rw[d]at h;exact absurd h.1 (by simp)
 ·have k:=Xa.1 h.2 x hx;cases x with
  | tmp t =>
   dsimp only at k;obtain⟨s,c⟩:=Vr.1 k;rw[mU c K];show _=(match src ops its os need i t with|some s=>s.at μ|none=>WR);rw[c]
  | const v=>rfl
  | global g=>rfl
  | func f=>rfl
theorem st(h:∀(μ:Nat->Nat) (w:Ur),((seen ops its os it.need i o,it.kind),(U5 (ro ops its os it.need i μ) o).run P w)=((true,Kind.stay),.ok (.value (it.out.at μ)) w):=by intro _ _;kernel_rfl):Cert P Q w0 k0 X ops i its bl os o it:=by
 intro μ a w K d _ c;have k:=h μ w;simp only[V8.injEq]at k;rw[k.1.2];intro b;unfold VT;rw[oD k.1.1 d,k.2];exact b
theorem se{v c:Ut}(e:c=v)(h:∀(μ:Nat->Nat) (w:Ur),((seen ops its os it.need i o,it.kind,it.out),(U5 (ro ops its os it.need i μ) o).run P w)=((true,Kind.stay,SV.v v),.ok (.value c) w):=by intro _ _;kernel_rfl):Cert P Q w0 k0 X ops i its bl os o it:=by
 intro μ a w K f _ d;have b:=h μ w;simp only[V8.injEq]at b;rw[b.1.2.1];intro k;rw[b.1.2.2]at k;unfold VT;rw[oD b.1.1 f,b.2,e];exact k
theorem mk(b:Nat)(T:U8)(h:∀(μ:Nat->Nat) (w:Ur),((seen ops its os it.need i o,it.kind),(U5 (ro ops its os it.need i μ) o).run P w)=((true,Kind.make b),.ok (.value (it.out.at (upd μ b w.heap.size))) (w.alloc (.cells (((bl[b]?).map (·.before)).getD []).toArray T))):=by intro _ _;kernel_rfl):Cert P Q w0 k0 X ops i its bl os o it:=by
 intro μ a w K d _ c;have k:=h μ w;simp only[V8.injEq]at k;rw[k.1.2];intro e g f;unfold VT;rw[oD k.1.1 d,k.2,g];exact f _ _ (Made.alloc w e.before T)
theorem clB{f:Xs}{v:Ut}(h:∀(μ:Nat->Nat) (w:Ur),((seen ops its os it.need i o,it.kind,it.out),(U5 (ro ops its os it.need i μ) o).run P w)=((true,Kind.call,SV.v v),.ok (.enter f args) w))
 (j:∀w,BelX k0 X w0 w->UH P f args w (rZ w λe w'=>e=v)):Cert P Q w0 k0 X ops i its bl os o it:=by
 intro μ a w K d _ b;have k:=h μ w;simp only[V8.injEq]at k;rw[k.1.2.1];intro c;rw[k.1.2.2]at c;unfold VT;rw[oD k.1.1 d,k.2,Xb];refine(j w b).mono ?_;rintro e w' ⟨l,rfl,g,rfl⟩;exact c w' g
theorem cl{f:Xs}{v:Ut}(k:∀w,UH P f args w (rZ w λe w'=>e=v))(h:∀(μ:Nat->Nat) (w:Ur),((seen ops its os it.need i o,it.kind,it.out),(U5 (ro ops its os it.need i μ) o).run P w)=((true,Kind.call,SV.v v),.ok (.enter f args) w):=by intro _ _;kernel_rfl):Cert P Q w0 k0 X ops i its bl os o it:=
 clB h (λw _=>k w)
theorem cm(b:Nat){f:Xs}{c:List Ut}(y:∀w,BelX k0 X w0 w->UH P f args w (Ret λe w'=>∃k,Made w k c w'/\e=it.out.at (λ_=>k)))
 (h:∀(μ:Nat->Nat) (w:Ur),((seen ops its os it.need i o,it.kind,(bl[b]?).map (·.before),it.out.blk),(U5 (ro ops its os it.need i μ) o).run P w)=((true,Kind.make b,some c,some b),.ok (.enter f args) w)):Cert P Q w0 k0 X ops i its bl os o it:=by
 intro μ a w K p _ g;have l:=h μ w;simp only[V8.injEq]at l;obtain⟨⟨u,q,j,s⟩,t⟩:=l;rw[q];intro e v x;rw[v]at j;obtain rfl:e.before=c:=UO.inj j;unfold VT;rw[oD u p,t,Xb];refine(y w g).mono ?_;rintro r w' ⟨B,rfl,k,n,rfl⟩;have m:it.out.at (upd μ b k)=it.out.at (λ_=>k):=SV.at_congr λz d=>by
  rw[s]at d;obtain rfl:=UO.inj d;unfold upd;rw[yCl rfl]
 have:=x k w' n;rw[m]at this;exact this
def Bj(k:Array Vk)(i:Nat)(o:Vk)(c:List Bl)(b:Nat):Bool:=match c[b]? with
 | some e=>(match e.al with|none=>true|some j=>dB o j) && readB k i e
 | none=>false
def Seen(k:List Bl)(c:List Nat)(μ:Nat->Nat)(w:Ur):Prop:=∀b∈c,∀e:Bl,k[b]? = some e->e.before≠[]->w.rangeAt (μ b) 0 e.before/\μ b<w.heap.size
theorem LK{l:List Nat}(ho:ops[i]? = some o)(h:l.all (Bj ops i o bl)=true)(hR:Reads ops i bl μ w):Seen bl l μ w:=λb p e g d=>by
 have k:=Va.1 h b p;unfold Bj at k;rw[g]at k;dsimp only at k;rw[UL]at k;have f:=hR b e g (by
  cases c:e.al with
  | none=>exact U4 rfl
  | some j=>rw[c]at k;exact UX ⟨o,j,ho,rfl,k.1⟩) k.2
 refine⟨f,?_⟩;cases c:e.before with
 | nil=>exact absurd c d
 | cons x r =>
  have n:=f 0 x (by rw[c];rfl);exact Wv λq=>by
   have m:w.heap[μ b]? = none:=WP oM;simp[VY,m]at n
theorem cr(d:List Nat){f:Xs}{args:(Nat->Nat)->Array Ut}{v:Ut}(s:∀(μ:Nat->Nat) (w:Ur),BelX k0 X w0 w->Seen bl d μ w->UH P f (args μ) w (rZ w λe w'=>e=v))
 (h:∀(μ:Nat->Nat) (w:Ur),((seen ops its os it.need i o,it.kind,it.out,d.all (Bj ops i o bl),ops[i]?),(U5 (ro ops its os it.need i μ) o).run P w)=((true,Kind.call,SV.v v,true,some o),.ok (.enter f (args μ)) w)):Cert P Q w0 k0 X ops i its bl os o it:=by
 intro μ a w K g hR k;have b:=h μ w;simp only[V8.injEq]at b;obtain⟨⟨n,j,p,l,r⟩,m⟩:=b;rw[j];intro c;rw[p]at c;unfold VT;rw[oD n g,m,Xb];refine(s μ w k (LK r l hR)).mono ?_;rintro e w' ⟨t,rfl,q,rfl⟩;exact c w' q
def ldv(k:Array Vk)(c:List It)(d:List Bl)(f:List (WF × SV))(i:Nat)(o:Vk)(it:It)(T:U8)(n:Nat):Option SV:=
 match it.kind,o.op with
 | .stay,.load T' (.tmp t)=>match src k c f it.need i t with
  | some (.p b off)=>match d[b]? with
   | some e=>bif T' == T && e.al.isNone && readB k i e && (off+n).ble e.before.length then some (.v (.agg ((e.before.drop off).take n).toArray)) else none
   | none=>none
  | _=>none
 | _,_=>none
theorem ld{T:U8}{n:Nat}(g:(P.underlying T).map (·.isRow)=some true)(f:(P.info? T).map (·.size)=some n)(h:ldv ops its bl os i o it T n=some it.out:=by kernel_rfl):Cert P Q w0 k0 X ops i its bl os o it:=by
 unfold ldv at h;split at h
 ·rename_i T' t hk ho
  split at h
  ·rename_i b off hs
   split at h
   ·rename_i e hb
    cases c:(T' == T && e.al.isNone && readB ops i e && (off+n).ble e.before.length) with
    | false=>rw[c]at h;cases h
    | true =>
     rw[c]at h;have m:=h;simp only[UL,beq_iff_eq,Option.isNone_iff_eq_none,yB7]at c;obtain⟨⟨⟨rfl,d⟩,l⟩,j⟩:=c;have k:((e.before.drop off).take n).length=n:=by rw[WH,ZK];omega
     refine oI hk b off e hb d l T' t ho ((e.before.drop off).take n) (UO.inj m).symm (λ_ _ K=>mU hs K) ?_ g (by rw[k];exact f);rw[k]
   ·cases h
  ·cases h
 ·cases h
def ptv(k:Array Vk)(c:List It)(f:List Bl)(d:List (WF × SV))(i:Nat)(o:Vk)(it:It)(T:U8)(n:Nat):Option (List Ut):=
 match it.kind,o.op,o.dst with
 | .put b,.store T' (.tmp x) (.tmp y),none=>match src k c d it.need i x,src k c d it.need i y with
  | some (.p b' off),some (.v (.agg vs))=>match f[b]? with
   | some e=>bif T' == T && b' == b && vs.size == n && (off+n).ble e.before.length && vs.toList.all (·.oneCell') then some (rep e.before off vs.toList) else none
   | none=>none
  | _,_=>none
 | _,_,_=>none
theorem pt{T:U8}{n:Nat}(m:(P.info? T).map (·.size)=some n)(h:((ptv ops its bl os i o it T n).isSome,ptv ops its bl os i o it T n)=(true,match it.kind with | .put b=>(bl[b]?).map (·.after)|_=>none):=by kernel_rfl):Cert P Q w0 k0 X ops i its bl os o it:=by
 simp only[V8.injEq]at h;obtain⟨k,h⟩:=h;rw[h]at k;unfold ptv at h;split at h
 ·rename_i b T' x y hk ho hdn
  rw[hk]at h k;dsimp only at h k;cases g:bl[b]? with
  | none=>rw[g]at k;cases k
  | some e =>
   rw[g]at h;split at h
   ·rename_i b' off vs hx hy
    dsimp only at h;cases f:(T' == T && b' == b && vs.size == n && (off+n).ble e.before.length && vs.toList.all (·.oneCell')) with
    | false=>rw[f]at h;cases h
    | true =>
     rw[f]at h;have q:some (rep e.before off vs.toList)=some e.after:=h;simp only[UL,beq_iff_eq,yB7]at f;obtain⟨⟨⟨⟨rfl,rfl⟩,l⟩,d⟩,p⟩:=f;have c:vs.toList.length=n:=by rw[Array.length_toList];exact l
     refine eZ b' off hk e g T' (.tmp x) (.tmp y) vs.toList ho hdn (λ_ _ K=>mU hx K) (λ_ _ K=>?_) (by rw[c];exact d) (λj=>?_) (by rw[c];exact m) p
     ·rw[Array.toArray_toList];exact mU hy K
     ·rw[<-UO.inj q,rep_at (by rw[c];exact d)]
   ·cases h
 ·rw[<-h]at k;cases k
def aft(pu:List (Nat × Nat × List Ut))(b:Nat)(c:List Ut):List Ut:=match pu.find? (λx=>x.1 == b) with|some x=>x.2.2|none=>c
def sto(pu:List (Nat × Nat × List Ut))(b:Nat):Option Nat:=(pu.find? (λx=>x.1 == b)).map (·.2.1)
def olB(pu:List (Nat × Nat × List Ut)):Nat->List (List Ut)->List Bl
 | _,[]=>[]
 | b,c :: r=>⟨c,aft pu b c,none,sto pu b⟩ :: olB pu (b+1) r
def mkB(pu:List (Nat × Nat × List Ut)):Nat->List (Nat × List Ut)->List Bl
 | _,[]=>[]
 | b,c :: r=>⟨c.2,aft pu b c.2,some c.1,sto pu b⟩ :: mkB pu (b+1) r
def bls(cs:List (List Ut))(mk:List (Nat × List Ut))(pu:List (Nat × Nat × List Ut)):List Bl:=olB pu 0 cs++mkB pu cs.length mk
theorem qZ(pu:List (Nat × Nat × List Ut)):∀(cs:List (List Ut)) (b:Nat),(olB pu b cs).length=cs.length
 | [],_=>rfl
 | c :: r,b=>by rw[olB,Vj,qZ pu r,Vj]
theorem EX(pu:List (Nat × Nat × List Ut)):∀(cs:List (Nat × List Ut)) (b:Nat),(mkB pu b cs).length=cs.length
 | [],_=>rfl
 | c :: r,b=>by rw[mkB,Vj,EX pu r,Vj]
theorem wZ(pu:List (Nat × Nat × List Ut)):∀(cs:List (List Ut)) (b:Nat),(olB pu b cs).map (·.before)=cs
 | [],_=>rfl
 | c :: r,b=>by rw[olB,XX,wZ pu r]
theorem xG(pu:List (Nat × Nat × List Ut)):∀(cs:List (Nat × List Ut)) (b:Nat),(mkB pu b cs).map (·.before)=cs.map (·.2)
 | [],_=>rfl
 | c :: r,b=>by rw[mkB,XX,xG pu r,XX]
theorem EP(pu:List (Nat × Nat × List Ut)):∀(cs:List (List Ut)) (b j:Nat) (e:Bl),(olB pu b cs)[j]? = some e->e.al=none/\e.after=aft pu (b+j) e.before/\e.st=sto pu (b+j)
 | [],_,_,_,h=>by simp[olB]at h
 | c :: r,b,0,e,h=>by
  rw[olB,Vf]at h;obtain rfl:=UO.inj h;exact⟨rfl,rfl,rfl⟩
 | c :: r,b,j+1,e,h=>by
  rw[olB,U9]at h;have:=EP pu r (b+1) j e h;rwa[show b+1+j=b+(j+1) by omega]at this
theorem EY(pu:List (Nat × Nat × List Ut)):∀(cs:List (Nat × List Ut)) (b j:Nat) (e:Bl),(mkB pu b cs)[j]? = some e->(∃x∈cs,e.al=some x.1)/\e.after=aft pu (b+j) e.before/\e.st=sto pu (b+j)
 | [],_,_,_,h=>by simp[mkB]at h
 | c :: r,b,0,e,h=>by
  rw[mkB,Vf]at h;obtain rfl:=UO.inj h;exact⟨⟨c,Vu,rfl⟩,rfl,rfl⟩
 | c :: r,b,j+1,e,h=>by
  rw[mkB,U9]at h;obtain⟨⟨x,hx,k⟩,d⟩:=EY pu r (b+1) j e h;refine⟨⟨x,Vb _ hx,k⟩,?_⟩;rwa[show b+1+j=b+(j+1) by omega]at d
variable {cs cs':List (List Ut)}{mk:List (Nat × List Ut)}{pu:List (Nat × Nat × List Ut)}{ks:List Nat}
theorem Bn:(bls cs mk pu).length=cs.length+mk.length:=by rw[bls,UA,qZ,EX]
theorem yO:(bls cs mk pu).map (·.before)=cs++mk.map (·.2):=by rw[bls,Wq,wZ,xG]
theorem vN{b:Nat}{e:Bl}(h:(bls cs mk pu)[b]? = some e):e.after=aft pu b e.before/\e.st=sto pu b/\((b<cs.length/\e.al=none)\/(cs.length<=b/\∃x∈mk,e.al=some x.1)):=by
 unfold bls at h;by_cases k:b<cs.length
 ·rw[UT (by rw[qZ];exact k)]at h;have:=EP pu cs 0 b e h;rw[UD]at this;exact⟨this.2.1,this.2.2,U4 ⟨k,this.1⟩⟩
 ·rw[U1 (by rw[qZ];omega),qZ]at h;have:=EY pu mk cs.length (b-cs.length) e h;rw[show cs.length+(b-cs.length)=b by omega]at this;exact⟨this.2.1,this.2.2,UX ⟨oM,this.1⟩⟩
theorem Ai:mT (bls cs mk pu) cs.length=true:=by
 simp only[mT,UL,decide_eq_true_eq];refine⟨Va.2 λx hx=>?_,by rw[Bn];omega⟩;rw[YC]at hx;rcases(vN hx).2.2 with⟨b,k⟩|⟨b,y,-,k⟩
 ·rw[k];simp[b]
 ·rw[k];simp;omega
def inB(m:Nat)(mk:List (Nat × List Ut))(pu:List (Nat × Nat × List Ut)):Bool:=mk.all (λx=>x.1.blt m) && pu.all (λx=>x.2.1.blt m)
theorem FN(h:inB its.length mk pu=true)(l:pu.map (λx=>x.2.2.length)=pu.map (λx=>(((cs++mk.map (·.2))[x.1]?).getD []).length)):
 (∀e∈bls cs mk pu,∀j,e.al=some j\/e.st=some j->j<its.length)/\∀e∈bls cs mk pu,e.fin.length=e.before.length:=by
 simp only[inB,UL]at h;refine⟨λe d j k=>?_,λe d=>?_⟩
 ·obtain⟨b,c⟩:=WM d;obtain⟨i,f,m⟩:=vN c;rcases k with k|k
  ·rcases m with⟨-,g⟩|⟨-,x,hx,g⟩
   ·rw[g]at k;cases k
   ·rw[g]at k;obtain rfl:=UO.inj k;have:=Va.1 h.1 x hx;exact Xl (VR this)
  ·rw[f]at k;unfold sto at k;obtain⟨x,hx,rfl⟩:=Uy.1 k;have:=Va.1 h.2 x (WQ hx);exact Xl (VR this)
 ·obtain⟨b,c⟩:=WM d;obtain⟨i,f,-⟩:=vN c;unfold Bl.fin;rw[f,i];unfold sto aft;cases g:pu.find? (λx=>x.1 == b) with
  | none=>rfl
  | some x =>
   show x.2.2.length=_;have m:=WQ g;have hx:x.1=b:=by simpa using Yf g
   have n:=Zz.1 l x m;rw[n,<-yO (pu:=pu),hx,Vz,c];rfl
def lk(k:List It)(b:List (WF × SV))(t:WF):Option SV:=
 match k.find? (λit=>it.dst == some t) with
 | some it=>some it.out
 | none=>(b.find? (λx=>x.1 == t)).map (·.2)
structure M(w0:Ur)(k0:Nat)(X:List Nat)(n:Nat)(cs:List (List Ut))(ks:List Nat)(os:List (WF × SV))(a:Act)(w:Ur):Prop where
 st:St w0 k0 X cs ks w
 sl:Sl a n
 os:Olds a (ad ks) os
def All:Nat->(List Nat->Prop)->Prop
 | 0,f=>f []
 | n+1,f=>∀k:Nat,All n λl=>f (k :: l)
theorem All.get:∀ {n:Nat}{f:List Nat->Prop},All n f->∀l:List Nat,l.length=n->f l
 | 0,f,h,l,hl=>by rw[List.length_eq_zero_iff.1 hl];exact h
 | n+1,f,h,[],hl=>by simp at hl
 | n+1,f,h,k :: l,hl=>All.get (h k) l (by simpa using hl)
theorem Ng{s:SV}{new:List Nat}(h:∀b,s.blk=some b->b<ks.length):s.at (ad (ks++new))=s.at (ad ks):=SV.at_congr λb k=>by
 unfold ad;rw[VQ,VQ,UT (h b k)]
theorem Olds.mk'{μ:Nat->Nat}:∀ {l:List (WF × SV)},(∀x∈l,a.tmps[x.1]? = some (x.2.at μ))->Olds a μ l
 | [],_=>trivial
 | x :: r,h=>⟨h x Vu,Olds.mk' λy k=>h y (Vb _ k)⟩
theorem M.next{d:List (WF × SV)}{new:List Nat}{w':Ur}(h:M w0 k0 X n cs ks os a w)(k:allB ops its (bls cs mk pu) os n=true)(p:(d.map λx=>lk its os x.1)=d.map λx=>some x.2)
 (E:St w0 k0 X cs' (ks++new) w'):M w0 k0 X n cs' (ks++new) d (puts (ad (ks++new)) its a) w':=by
 refine⟨E,h.sl.puts,Olds.mk' λx hx=>?_⟩;have i:=Zz.1 p x hx;simp only[allB,UL,beq_iff_eq]at k;obtain⟨⟨⟨⟨v,hd⟩,l⟩,o⟩,u⟩:=k;unfold lk at i;cases hf:its.find? (λit=>it.dst == some x.1) with
 | some it =>
  rw[hf]at i;have f:=WQ hf;have g:it.dst=some x.1:=by simpa using Yf hf
  obtain⟨j,m⟩:=WM f;have c:=Va.1 o it f;rw[g]at c;have:=rW (ad (ks++new)) its a j it x.1 hd m g (by rw[h.sl.size];simpa using c);rw[this,<-UO.inj i]
 | none =>
  rw[hf]at i;obtain⟨y,t,m⟩:=Uy.1 i;have f:=WQ t;have r:y.1=x.1:=by simpa using Yf t
  have A:=h.os.get y.1 y.2 f;rw[lW _ its a x.1 (λit s q=>by
   have:=List.find?_eq_none.1 hf it s;rw[q]at this;simp at this),<-r,A,<-m]
  congr 1
  refine(Ng λb D=>?_).symm;have c:=Va.1 l y f;rw[D]at c;dsimp only at c;cases g:(bls cs mk pu)[b]? with
  | none=>rw[g]at c;cases c
  | some e =>
   rw[g]at c;rcases(vN g).2.2 with⟨B,-⟩|⟨-,z,-,C⟩
   ·rw[h.st.len];exact B
   ·dsimp only at c;rw[C]at c;simp at c
theorem M.reg(h:M w0 k0 X n cs ks os a w)(k:allB ops its (bls cs mk pu) os n=true)(b:Certs P Q w0 k0 X ops its (bls cs mk pu) os 0 ops.toList its):Reg P ops Q w0 k0 X its (bls cs mk pu) os a (ad ks):=
 Reg.mk' (by rw[h.sl.size];exact k) h.os b
theorem CM:((bls cs mk pu).map (·.before)).take cs.length=cs:=by rw[yO,List.take_left'];rfl
theorem M.tx(h:M w0 k0 X n cs ks os a w)(k:List It)(mk:List (Nat × List Ut))(pu:List (Nat × Nat × List Ut))(c:List (List Ut))(b:List (WF × SV))
 (f:(allB ops k (bls cs mk pu) os n && inB k.length mk pu,(bls cs mk pu).map Bl.fin,b.map λx=>lk k os x.1)=(true,c,b.map λx=>some x.2))
 (l:pu.map (λx=>x.2.2.length)=pu.map (λx=>(((cs++mk.map (·.2))[x.1]?).getD []).length))
 (o:Certs P Q w0 k0 X ops k (bls cs mk pu) os 0 ops.toList k)
 (p:All mk.length λnew=>∀d w',M w0 k0 X n c (ks++new) b d w'->Q .normal d w'):(V6 id ops false).wp P Q a w:=by
 simp only[V8.injEq,UL]at f;obtain⟨⟨e,g⟩,j,i⟩:=f;refine region_text' h.st (h.reg e o) Ai CM (FN g l) λnew w' d m=>?_
 rw[Bn,WN]at d;exact p.get new d _ _ (h.next e i (j ▸ m))
theorem M.dr(h:M w0 k0 X n cs ks os a w)(g:P.follows .mixedOrders=true)(k:List It)(mk:List (Nat × List Ut))(pu:List (Nat × Nat × List Ut))(c:List (List Ut))(b:List (WF × SV))
 (f:(allB ops k (bls cs mk pu) os n && inB k.length mk pu,(bls cs mk pu).map Bl.fin,b.map λx=>lk k os x.1)=(true,c,b.map λx=>some x.2))
 (m:pu.map (λx=>x.2.2.length)=pu.map (λx=>(((cs++mk.map (·.2))[x.1]?).getD []).length))
 (p:Certs P Q w0 k0 X ops k (bls cs mk pu) os 0 ops.toList k)
 (q:All mk.length λnew=>∀d w',M w0 k0 X n c (ks++new) b d w'->Q .normal d w'):(V6 id ops true).wp P Q a w:=by
 simp only[V8.injEq,UL]at f;obtain⟨⟨e,i⟩,l,j⟩:=f;refine region_draws' g h.st (h.reg e p) Ai CM (FN i m) λnew w' d o=>?_
 rw[Bn,WN]at d;exact q.get new d _ _ (h.next e j (l ▸ o))
theorem Nf:(bls cs [] []).map Bl.fin=cs:=by
 have h:∀(cs:List (List Ut)) (b:Nat),(olB [] b cs).map Bl.fin=cs:=λcs=>by
  induction cs with
  | nil=>intro _;rfl
  | cons c r ih=>intro b;rw[olB,XX,ih];rfl
 rw[bls,Wq,h];exact Xw _
theorem M.tx0(h:M w0 k0 X n cs ks os a w)(k:List It)(b:List (WF × SV))(d:(allB ops k (bls cs [] []) os n,b.map λx=>lk k os x.1)=(true,b.map λx=>some x.2))
 (f:Certs P Q w0 k0 X ops k (bls cs [] []) os 0 ops.toList k) (g:∀c w',M w0 k0 X n cs ks b c w'->Q .normal c w'):(V6 id ops false).wp P Q a w:=by
 simp only[V8.injEq]at d;refine h.tx k [] [] cs b (by simp only[d.1,d.2,Nf];rfl) rfl f (λc w' e=>g c w' ?_);rwa[Xw]at e
theorem M.t(h:M w0 k0 X n cs ks os a w)(k:List It)(mk:List (Nat × List Ut))(pu:List (Nat × Nat × List Ut))(c:List (List Ut))(b:List (WF × SV))(g:Certs P Q w0 k0 X ops k (bls cs mk pu) os 0 ops.toList k)(i:All mk.length λnew=>∀d w',M w0 k0 X n c (ks++new) b d w'->Q .normal d w')(f:(allB ops k (bls cs mk pu) os n && inB k.length mk pu,(bls cs mk pu).map Bl.fin,b.map λx=>lk k os x.1)=(true,c,b.map λx=>some x.2):=by kernel_rfl)(e:pu.map (λx=>x.2.2.length)=pu.map (λx=>(((cs++mk.map (·.2))[x.1]?).getD []).length):=by kernel_rfl):(V6 id ops false).wp P Q a w:=h.tx k mk pu c b f e g i
theorem M.d(h:M w0 k0 X n cs ks os a w)(k:List It)(mk:List (Nat × List Ut))(pu:List (Nat × Nat × List Ut))(c:List (List Ut))(b:List (WF × SV))(g:Certs P Q w0 k0 X ops k (bls cs mk pu) os 0 ops.toList k)(j:All mk.length λnew=>∀d w',M w0 k0 X n c (ks++new) b d w'->Q .normal d w')(f:(allB ops k (bls cs mk pu) os n && inB k.length mk pu,(bls cs mk pu).map Bl.fin,b.map λx=>lk k os x.1)=(true,c,b.map λx=>some x.2):=by kernel_rfl)(e:pu.map (λx=>x.2.2.length)=pu.map (λx=>(((cs++mk.map (·.2))[x.1]?).getD []).length):=by kernel_rfl)(i:P.follows .mixedOrders=true:=by kernel_rfl):(V6 id ops true).wp P Q a w:=h.dr i k mk pu c b f e g j
theorem M.u(h:M w0 k0 X n cs ks os a w)(k:List It)(b:List (WF × SV))(e:Certs P Q w0 k0 X ops k (bls cs [] []) os 0 ops.toList k)(f:∀c w',M w0 k0 X n cs ks b c w'->Q .normal c w')(d:(allB ops k (bls cs [] []) os n,b.map λx=>lk k os x.1)=(true,b.map λx=>some x.2):=by kernel_rfl):(V6 id ops false).wp P Q a w:=h.tx0 k b d e f
theorem M.at(h:M w0 k0 X n cs ks os a w){s:SV}(c:(os.find? (λx=>x.1 == t)).map (·.2)=some s:=by kernel_rfl):a.tmps[t]? = some (s.at (ad ks)):=by
 obtain⟨y,b,rfl⟩:=Uy.1 c;have k:y.1=t:=by simpa using Yf b
 rw[<-k];exact h.os.get y.1 y.2 (WQ b)
theorem St.made{w w':Ur}{cs:List (List Ut)}{ks:List Nat}(h:St w w.heap.size [] cs ks w'){b:Nat}{c:List Ut}(f:cs[b]? = some c):Made w (ad ks b) c w':=by
 obtain⟨k,e,d,g⟩:=h.has b c f;exact⟨h.bel.below,g.elim id (λh=>absurd h UY),d,k,e⟩
theorem M.av(h:M w0 k0 X n cs ks os a w){v:Ut}(k:(os.find? (λx=>x.1 == t)).map (·.2)=some (.v v):=by kernel_rfl):a.tmps[t]? = some v:=h.at k
theorem M.ev(h:M w0 k0 X n cs ks os a w){v:Ut}(k:(os.find? (λx=>x.1 == t)).map (·.2)=some (.v v):=by kernel_rfl):a.eval (.tmp t)=v:=A7 (h.at k)
theorem M.enter{c:Code}(k:List (WF × SV))(n:Nat)(h:(k.map λx=>a.tmps[x.1]?,a.tmps.size,a.defers)=(k.map λx=>some (x.2.at (ad [])),n,[]))(b:∀a,M w w.heap.size [] n [] [] k a w->c.wp P Q a w):c.wp P Q a w:=by
 simp only[V8.injEq]at h;exact b a ⟨St.begin w,⟨h.2.1,h.2.2⟩,Olds.mk' λx hx=>Zz.1 h.1 x hx⟩
theorem M.drop{i w:Ur}{n:Nat}{X:List Nat}{cs cs2:List (List Ut)}{ks ks2:List Nat}{g:List (WF × SV)}{a:Act}(h:M i j X n (cs++cs2) (ks++ks2) g a w)(l:ks.length=cs.length)
 (ho:g.all (λx=>match x.2.blk with|none=>true|some b=>b.blt cs.length)=true):M i j X n cs ks g a w:=by
 have k:∀b,b<cs.length->ad (ks++ks2) b=ad ks b:=λb d=>by
  unfold ad;rw[VQ,VQ,UT oM]
 refine⟨⟨h.st.bel,h.st.le,l,λb c d=>?_,λb c d m f=>?_⟩,h.sl,Olds.mk' λx hx=>?_⟩
 ·have e:=(UF.1 d).1;have:=h.st.has b c (by rw[UT e];exact d);rwa[k b e]at this
 ·have:=h.st.inj b c (by rw[UA];omega) (by rw[UA];omega) f;rwa[k b d,k c m]at this
 ·rw[h.os.get x.1 x.2 hx]
  congr 1
  refine SV.at_congr λb d=>?_
  have e:=Va.1 ho x hx;rw[d]at e;exact k b (Xl (VR e))
abbrev z(n:Nat):List Ut:=List.replicate n (uZ 0)
def It.s(d:WF)(k:List (WF × Nat))(b:SV):It:=⟨some d,k,b,.stay⟩
def It.x(d:WF)(k:List (WF × Nat))(v:Ut):It:=⟨some d,k,.v v,.stay⟩
def It.c(d:WF)(k:List (WF × Nat))(v:Ut):It:=⟨some d,k,.v v,.call⟩
def It.u(k:List (WF × Nat))(b:Nat):It:=⟨none,k,.v WR,.put b⟩
end RG
namespace RG
open Go Go.RowKit
variable {P:VD}{ops:Array Vk}{Q:Yq->Act->Ur->Prop}{w0 w:Ur}{k0 n:Nat}{X ks:List Nat}{cs:List (List Ut)}{os:List (WF × SV)}{a:Act}
inductive Hh where
 | x (v:Ut)
 | c (v:Ut)
 | s (v:SV)
 | m (b:Nat)
 | u (b:Nat)
def nd(k:Array Vk)(i:Nat):List (WF × Nat):=
 match k[i]? with
 | none=>[]
 | some o=>o.op.operands.toList.filterMap λx=>match x with
  | .tmp t=>((VG i).find? λj=>match k[j]? with|some p=>p.dst == some t && dB o j|none=>false).map λj=>(t,j)
  | _=>none
def dt(k:Array Vk)(i:Nat):Option WF:=(k[i]?).bind (·.dst)
def Hh.it(k:Array Vk)(i:Nat):Hh->It
 | .x v=>⟨dt k i,nd k i,.v v,.stay⟩
 | .c v=>⟨dt k i,nd k i,.v v,.call⟩
 | .s v=>⟨dt k i,nd k i,v,.stay⟩
 | .m b=>⟨dt k i,nd k i,.p b 0,.make b⟩
 | .u b=>⟨none,nd k i,.v WR,.put b⟩
def mkL(k:Array Vk):Nat->List Hh->List It
 | _,[]=>[]
 | i,h :: r=>h.it k i :: mkL k (i+1) r
def kps(k:List It)(b:List (WF × SV))(l:List WF):List (WF × SV):=l.filterMap λt=>(lk k b t).map λs=>(t,s)
theorem M.U(h:M w0 k0 X n cs ks os a w)(k:List Hh)(b:List WF)(e:Certs P Q w0 k0 X ops (mkL ops 0 k) (bls cs [] []) os 0 ops.toList (mkL ops 0 k))(f:∀c w',M w0 k0 X n cs ks (kps (mkL ops 0 k) os b) c w'->Q .normal c w')(d:(allB ops (mkL ops 0 k) (bls cs [] []) os n,(kps (mkL ops 0 k) os b).map λx=>lk (mkL ops 0 k) os x.1)=(true,(kps (mkL ops 0 k) os b).map λx=>some x.2):=by kernel_rfl):(V6 id ops false).wp P Q a w:=h.u _ _ e f d
theorem M.T(h:M w0 k0 X n cs ks os a w)(k:List Hh)(mk:List (Nat × List Ut))(pu:List (Nat × Nat × List Ut))(b:List (List Ut))(c:List WF)(g:Certs P Q w0 k0 X ops (mkL ops 0 k) (bls cs mk pu) os 0 ops.toList (mkL ops 0 k))(i:All mk.length λnew=>∀d w',M w0 k0 X n b (ks++new) (kps (mkL ops 0 k) os c) d w'->Q .normal d w')(f:(allB ops (mkL ops 0 k) (bls cs mk pu) os n && inB (mkL ops 0 k).length mk pu,(bls cs mk pu).map Bl.fin,(kps (mkL ops 0 k) os c).map λx=>lk (mkL ops 0 k) os x.1)=(true,b,(kps (mkL ops 0 k) os c).map λx=>some x.2):=by kernel_rfl)(e:pu.map (λx=>x.2.2.length)=pu.map (λx=>(((cs++mk.map (·.2))[x.1]?).getD []).length):=by kernel_rfl):(V6 id ops false).wp P Q a w:=h.t _ mk pu b _ g i f e
theorem M.D(h:M w0 k0 X n cs ks os a w)(k:List Hh)(mk:List (Nat × List Ut))(pu:List (Nat × Nat × List Ut))(b:List (List Ut))(c:List WF)(g:Certs P Q w0 k0 X ops (mkL ops 0 k) (bls cs mk pu) os 0 ops.toList (mkL ops 0 k))(j:All mk.length λnew=>∀d w',M w0 k0 X n b (ks++new) (kps (mkL ops 0 k) os c) d w'->Q .normal d w')(f:(allB ops (mkL ops 0 k) (bls cs mk pu) os n && inB (mkL ops 0 k).length mk pu,(bls cs mk pu).map Bl.fin,(kps (mkL ops 0 k) os c).map λx=>lk (mkL ops 0 k) os x.1)=(true,b,(kps (mkL ops 0 k) os c).map λx=>some x.2):=by kernel_rfl)(e:pu.map (λx=>x.2.2.length)=pu.map (λx=>(((cs++mk.map (·.2))[x.1]?).getD []).length):=by kernel_rfl)(i:P.follows .mixedOrders=true:=by kernel_rfl):(V6 id ops true).wp P Q a w:=h.d _ mk pu b _ g j f e i
end RG
namespace NT
def IsP(n:Nat):Prop:=2<=n/\∀m,m ∣ n->m=1\/m=n
theorem IsP.cop{k:Nat}(h:IsP p)(b:0<k)(c:k<p):ZT p k:=by
 unfold ZT;rcases h.2 _ (ZO p k)with e|e
 ·exact e
 ·have:=Ye b (ZF p k);omega
theorem IsP.cop_of{k:Nat}(h:IsP p)(b:¬p ∣ k):ZT p k:=by
 unfold ZT;rcases h.2 _ (ZO p k)with e|e
 ·exact e
 ·exact absurd (e ▸ ZF p k) b
theorem IsP.euclid{a b:Nat}(h:IsP p)(hd:p ∣ a*b):p ∣ a\/p ∣ b:=by
 by_cases k:p ∣ a
 ·exact U4 k
 ·exact UX ((h.cop_of k).dvd_of_dvd_mul_left hd)
/-! the binomials -/
def ch: Nat -> Nat -> Nat
  | _, 0 => 1
  | 0, _ + 1 => 0
  | n + 1, k + 1 => ch n k + ch n (k + 1)
theorem rI(n:Nat):ch n 0=1:=by cases n<;>rfl
theorem rJ:∀(n k:Nat),n<k->ch n k=0
 | 0,k+1,_=>rfl
 | n+1,k+1,h=>by
  rw[ch,rJ n k oM,rJ n (k+1) oM]
theorem FD:∀(n:Nat),ch n n=1
 | 0=>rfl
 | n+1=>by rw[ch,FD n,rJ n (n+1) oM]
theorem vH:∀(n k:Nat),(k+1)*ch (n+1) (k+1)=(n+1)*ch n k
 | 0,0=>rfl
 | 0,k+1=>by simp[ch]
 | n+1,0=>by
  have h:=vH n 0;have e:ch (n+1+1) (0+1)=ch (n+1) 0+ch (n+1) (0+1):=rfl;rw[rI]at h;rw[e,rI];omega
 | n+1,k+1=>by
  have b:=vH n k;have c:=vH n (k+1);have e:ch (n+1+1) (k+1+1)=ch (n+1) (k+1)+ch (n+1) (k+1+1):=rfl;have e3:ch (n+1) (k+1)=ch n k+ch n (k+1):=rfl;rw[e,YB,c];have:(k+1+1)*ch (n+1) (k+1)=(n+1)*ch n k+ch (n+1) (k+1):=by
   rw[<-b,XH (k+1) 1,Xk]
  rw[this,e3,XH (n+1) 1,Xk,YB];omega
def sumTo:Nat->(Nat->Nat)->Nat
 | 0,_=>0
 | n+1,f=>sumTo n f+f n
theorem sumTo_congr(f g:Nat->Nat):∀n,(∀k,k<n->f k=g k)->sumTo n f=sumTo n g
 | 0,_=>rfl
 | n+1,h=>by
  rw[sumTo,sumTo,sumTo_congr f g n (λk b=>h k oM),h n oM]
theorem zF(f g:Nat->Nat):∀n,sumTo n (λk=>f k+g k)=sumTo n f+sumTo n g
 | 0=>rfl
 | n+1=>by simp only[sumTo];rw[zF f g n];omega
theorem zD(a:Nat)(f:Nat->Nat):∀n,sumTo n (λk=>a*f k)=a*sumTo n f
 | 0=>rfl
 | n+1=>by simp only[sumTo];rw[zD a f n,YB]
theorem jU(f:Nat->Nat):∀n,sumTo (n+1) f=f 0+sumTo n (λk=>f (k+1))
 | 0=>by simp[sumTo]
 | n+1=>by rw[sumTo,jU f n];simp only[sumTo];omega
theorem zE(p:Nat)(f:Nat->Nat):∀n,(∀k,k<n->p ∣ f k)->p ∣ sumTo n f
 | 0,_=>Nat.dvd_zero p
 | n+1,h=>Nat.dvd_add (zE p f n (λk b=>h k oM)) (h n oM)
theorem NX(a:Nat):∀n,(a+1)^n=sumTo (n+1) (λk=>ch n k*a^k)
 | 0=>by simp[sumTo,ch]
 | n+1=>by
  rw[V9,NX a n,YB,XU];rw[jU (λk=>ch (n+1) k*a^k) (n+1)];have e:sumTo (n+1) (λk=>ch (n+1) (k+1)*a^(k+1))
   = sumTo (n+1) (λk=>a*(ch n k*a^k))+sumTo (n+1) (λk=>ch n (k+1)*a^(k+1)):=by
   rw[<-zF];refine sumTo_congr _ _ _ ?_;intro k _;show(ch n k+ch n (k+1))*a^(k+1)=_;rw[XH,V9];have:ch n k*(a^k*a)=a*(ch n k*a^k):=by
    rw[Vv a,X5]
   rw[this]
  rw[e,zD];have c:sumTo (n+1) (λk=>ch n k*a^k)
   = ch n 0*a^0+sumTo n (λk=>ch n (k+1)*a^(k+1)):=jU (λk=>ch n k*a^k) n
  have e3:sumTo (n+1) (λk=>ch n (k+1)*a^(k+1))=sumTo n (λk=>ch n (k+1)*a^(k+1)):=by
   rw[sumTo,rJ n (n+1) oM,yBL,XD]
  have b:ch (n+1) 0*a^0=ch n 0*a^0:=by rw[rI,rI]
  rw[e3,b,Vv _ a];omega
theorem IsP.ch_dvd{k:Nat}(h:IsP p)(b:k+1<p):p ∣ ch p (k+1):=by
 obtain⟨n,rfl⟩:∃n,p=n+1:=⟨p-1,by have:=h.1;omega⟩
 have e:=vH n k;have hd:(n+1) ∣ (k+1)*ch (n+1) (k+1):=e ▸ Nat.dvd_mul_right _ _;exact(h.cop oM b).dvd_of_dvd_mul_left hd
theorem IsP.frob(h:IsP p)(a:Nat):(a+1)^p%p=(a^p+1)%p:=by
 obtain⟨n,rfl⟩:∃n,p=n+1:=⟨p-1,by have:=h.1;omega⟩
 rw[NX,sumTo,jU,FD,rI];obtain⟨c,b⟩:(n+1) ∣ sumTo n (λk=>ch (n+1) (k+1)*a^(k+1)):=
  zE _ _ _ (λk d=>Nat.dvd_mul_right_of_dvd (h.ch_dvd oM) _)
 rw[b];have:1*a^0+(n+1)*c+1*a^(n+1)=(a^(n+1)+1)+(n+1)*c:=by
  rw[YP];omega
 rw[this,YS]
theorem IsP.fermat(h:IsP p):∀a,a^p%p=a%p
 | 0=>by
  rw[yBK (by have:=h.1;omega)]
 | a+1=>by
  rw[h.frob,Zp,h.fermat a,<-Zp]
theorem IsP.cancel{a x y:Nat}(h:IsP p)(d:¬p ∣ a)(e:a*x%p=a*y%p):x%p=y%p:=by
 have key:∀x y,y<=x->a*x%p=a*y%p->x%p=y%p:=by
  intro x y k e;have b:=XO (Nat.sub_mod_eq_zero_of_mod_eq e);rw[<-Nat.mul_sub]at b;obtain⟨c,f⟩:=(h.cop_of d).dvd_of_dvd_mul_left b;have:x=y+p*c:=oM;rw[this,YS]
 rcases yBM y x with k|k
 ·exact key x y k e
 ·exact(key y x k e.symm).symm
theorem IsP.fermat1(h:IsP p)(a:Nat)(k:¬p ∣ a):a^(p-1)%p=1:=by
 obtain⟨n,rfl⟩:∃n,p=n+1:=⟨p-1,by have:=h.1;omega⟩
 have e:=h.fermat a;rw[V9,Vv]at e;have:=h.cancel k (x:=a^n) (y:=1) (by rw[e,XU]);rw[Nat.add_sub_cancel,this,US h.1]
/-! powers that are 1 -/
theorem Mf(b r : Nat)(hr : 1<r)(x y : Nat): b^x%r=1 -> b^y%r=1 -> b^(yAZ x y)%r=1:=by
  induction x, y using yAZ.induction with
  | H0 n => intro _ h; rw[Nat.gcd_zero_left]; exact h
  | H1 m n hm ih =>
    intro h1 h2;rw[Nat.gcd_rec];refine ih ?_ h1;have e : b^n=(b^m)^(n/m) * b^(n%m):=by
      rw[<-ZQ, <-Yr, Nat.div_add_mod]
    rw[e, XB, yAy, h1, Nat.one_pow, US hr, Xk, yBY]at h2;exact h2
theorem rH:∀n,2<=n->∃r,IsP r/\r ∣ n/\(IsP n\/r*r<=n):=by
 intro n;induction n using yBl with
 | _ n ih =>
  intro o;by_cases l:IsP n
  ·exact⟨n,l,Nat.dvd_refl n,U4 l⟩
  ·have:∃m,m ∣ n/\m≠1/\m≠n:=by
    refine Wv λd=>l ⟨o,λm c=>?_⟩
    refine Wv λb=>d ⟨m,c,λe=>b (U4 e),λe=>b (UX e)⟩
   obtain⟨m,⟨k,d⟩,u,t⟩:=this;have q:m≠0:=by intro e;rw[e,yBL]at d;omega
   have p:k≠0:=by intro e;rw[e,Nat.mul_zero]at d;omega
   have s:k≠1:=by intro e;rw[e,XU]at d;omega
   have j:m<n:=by
    have:=Ye oM (⟨k,d⟩:m ∣ n);omega
   have i:k<n:=by
    have:=Nat.mul_le_mul_right k (show 2<=m by omega);omega
   rcases yBM m k with f|f
   ·obtain⟨r,g,c,_⟩:=ih m j oM;have b:=Ye oM c;refine⟨r,g,Zo c ⟨k,d⟩,UX ?_⟩;rw[d];exact WS b (UC b f)
   ·obtain⟨r,g,c,_⟩:=ih k i oM;have b:=Ye oM c;refine⟨r,g,Zo c ⟨m,by rw[d,Vv]⟩,UX ?_⟩;rw[d];exact WS (UC b f) b
/-! what of a prime of n - 1 goes into the primes of n -/
theorem part{n a: Nat}(hq : IsP q)(hr : IsP r)(hrn : r ∣ n)(hn : 1<n)
    (h1 : a^(n-1)%n=1) (hd : q ∣ n-1) (h2 : yAZ (a^((n-1)/q)%n + (n-1)) n=1) : q ∣ r-1:=by
  have hr2:=hr.1;have toR : ∀x y, x%n=y%n -> x%r=y%r:=by
    intro x y e;rw[<-Zu x hrn, e, Zu y hrn]
  have hm : a^(n-1)%r=1:=by
    have:=toR (a^(n-1)) 1 (by rw[h1, US hn]);rw[this, US hr2]
  have hra : ¬r ∣ a:=by
    intro hc;have hz : a^(n-1)%r=0:=Ys (Zo hc (by
      have : a^1 ∣ a^(n-1):=yBm a oM;rwa[YT]at this))
    omega
  have hb : (a^((n-1)/q))^q%r=1:=by
    rw[<-ZQ, Nat.div_mul_cancel hd]; exact hm
  have hbr : ¬r ∣ a^((n-1)/q):=by
    intro hc;have : r ∣ (a^((n-1)/q))^q:=Zo hc (by
      have : (a^((n-1)/q))^1 ∣ (a^((n-1)/q))^q:=yBm _ (by have:=hq.1; omega);rwa[YT]at this)
    have:=Ys this;omega
  have hg:=Mf _ r hr2 q (r-1) hb (hr.fermat1 _ hbr);rcases hq.2 _ (ZO q (r-1))with e|e
  · rw[e, YT]at hg
    exfalso;have hx : r ∣ a^((n-1)/q)%n + (n-1):=by
      refine XO ?_;have e1 : (a^((n-1)/q)%n)%r=1:=by rw[Zu _ hrn]; exact hg
      have e2 : (n-1 + 1)%r=0:=by
        rw[Nat.sub_add_cancel oM]; exact Ys hrn
      have : (a^((n-1)/q)%n + (n-1))%r=(1 + (n-1))%r:=by
        rw[Zp, e1, Zp 1 (n-1), US hr2]
      rw[this, Nat.add_comm, e2]
    have:=Nat.dvd_gcd hx hrn;rw[h2]at this;have:=Ye oM this;omega
  · rw[<-e]; exact ZF _ _
theorem Ca{n f:Nat}(e:1<n)(hf:n<(f+1)*(f+1))
 (k:∀r,IsP r->r ∣ n->f ∣ r-1):IsP n:=by
 obtain⟨r,c,b,h|h⟩:=rH n e
 ·exact h
 ·have:=Ye (by have:=c.1;omega) (k r c b);have d:f+1<=r:=by have:=c.1;omega
  have:=WS d d;omega
/-! trial -/
def trial(n : Nat): Nat -> Nat -> Bool
  | 0, _ => true
  | k + 1, d => (n%d != 0) && trial n k (d + 1)
theorem BD(n:Nat):∀k d,trial n k d=true->∀m,d<=m->m<d+k->¬m ∣ n
 | 0,_,_,m,_,_=>oM
 | k+1,d,h,m,h1,h2=>by
  simp only[trial,UL,bne_iff_ne,ne_eq]at h;rcases Nat.lt_or_ge d m with b|c
  ·exact BD n k (d+1) h.2 m b oM
  ·have:m=d:=oM;subst this;intro hd;exact h.1 (Ys hd)
theorem small{n k:Nat}(d:2<=n)(e:trial n k 2=true)(i:n<(k+2)*(k+2)):IsP n:=by
 obtain⟨r,f,b,h|h⟩:=rH n d
 ·exact h
 ·have g:=f.1;have c:r<2+k:=by
   refine Wv λj=>?_
   have:=WS (show k+2<=r by omega) (show k+2<=r by omega);omega
  exact absurd b (BD n k 2 e r g c)
/-! powers, reckoned -/
def pm(n : Nat): Nat -> Nat -> Nat -> Nat -> Nat
  | 0, _, _, acc => acc
  | k + 1, a, e, acc => pm n k (a * a%n) (e/2) (if e%2=1 then acc * a%n else acc)
theorem EL(n:Nat):∀k a e b,e<2^k->b<n->pm n k a e b=b*a^e%n
 | 0,a,e,b,h,ha=>by
  have:e=0:=by simpa using h
  subst this;rw[pm,YP,XU,US ha]
 | k+1,a,e,b,h,ha=>by
  have f:0<n:=oM;have c:(if e%2=1 then b*a%n else b)<n:=by
   split
   ·exact V7 _ f
   ·exact ha
  rw[pm,EL n k _ _ _ (by rw[V9]at h;omega) c];have d:∀y,y*(a*a%n)^(e/2)%n=y*(a*a)^(e/2)%n:=by
   intro y;rw[XB,<-yAy,<-XB]
  rw[d];have g:a^e=a^(e%2)*(a*a)^(e/2):=by
   have:(a*a)=a^2:=by rw[V9,YT]
   rw[this,<-ZQ,<-Yr,Nat.mod_add_div]
  rw[g];split
  ·rename_i h1
   rw[h1,YT,XB,yBY,<-XB,X5]
  ·rename_i h1
   have:e%2=0:=oM;rw[this,YP,Xk]
theorem part'{n a k:Nat}(g:IsP q)(f:IsP r)(c:r ∣ n)(b:1<n)(i:n<2^k)
 (d:pm n k a (n-1) 1=1) (hd:(n-1)%q=0) (e:yAZ (pm n k a ((n-1)/q) 1+(n-1)) n=1):q ∣ r-1:=by
 rw[EL n k a (n-1) 1 oM b,Xk]at d;rw[EL n k a _ 1 (Nat.lt_of_le_of_lt (Nat.div_le_self _ _) oM) b,Xk]at e;exact part g f c b d (XO hd) e
/-! the two primes -/
theorem x21: IsP 1627771:=small (k:=1275) dC dK dC
theorem x30:IsP 545358713:=small (k:=23352) dC dK dC
theorem x26:IsP 44706919:=small (k:=6686) dC dK dC
theorem x17:IsP 120233:=small (k:=346) dC dK dC
theorem x27:IsP 107590001:=small (k:=10372) dC dK dC
theorem x23:IsP 7240687:=small (k:=2690) dC dK dC
theorem x16:IsP 96557:=small (k:=310) dC dK dC
theorem x39:IsP 297159362677:=
 Ca (f:=1627771) dC dK (λr b hd=>part' (k:=39) (a:=2) x21 b hd dC dK dK dK dK)
theorem c95:IsP 29047611873442575647497758179:=
 Ca (f:=(545358713*297159362677)) dC dK (λr b hd=>WX dK (part' (k:=95) (a:=2) x30 b hd dC dK dK dK dK) (part' (k:=95) (a:=2) x39 b hd dC dK dK dK dK))
theorem b68:IsP 174723607534414371449:=
 Ca (f:=(44706919*120233)) dC dK (λr b hd=>WX dK (part' (k:=68) (a:=2) x26 b hd dC dK dK dK dK) (part' (k:=68) (a:=2) x17 b hd dC dK dK dK dK))
theorem c109:IsP 341948486974166000522343609283189:=
 Ca (f:=29047611873442575647497758179) dC dK (λr b hd=>part' (k:=109) (a:=2) c95 b hd dC dK dK dK dK)
theorem pN:IsP 115792089237316195423570985008687907852837564279074904382605163141518161494337:=
 Ca (f:=(174723607534414371449*341948486974166000522343609283189)) dC dK (λr b hd=>WX dK (part' (k:=256) (a:=2) b68 b hd dC dK dK dK dK) (part' (k:=256) (a:=2) c109 b hd dC dK dK dK dK))
theorem e128:IsP 255515944373312847190720520512484175977:=
 Ca (f:=(107590001*7240687*96557)) dC dK (λr b hd=>WX dK (WX dK (part' (k:=128) (a:=2) x27 b hd dC dK dK dK dK) (part' (k:=128) (a:=2) x23 b hd dC dK dK dK dK)) (part' (k:=128) (a:=2) x16 b hd dC dK dK dK dK))
theorem TD:IsP 205115282021455665897114700593932402728804164701536103180137503955397371:=
 Ca (f:=255515944373312847190720520512484175977) dC dK (λr b hd=>part' (k:=237) (a:=2) e128 b hd dC dK dK dK dK)
theorem pP:IsP 115792089237316195423570985008687907853269984665640564039457584007908834671663:=
 Ca (f:=205115282021455665897114700593932402728804164701536103180137503955397371) dC dK (λr b hd=>part' (k:=256) (a:=2) TD b hd dC dK dK dK dK)
end NT
namespace EC
structure Line{P:Nat}[NeZero P](x1 y1 x2 y2 l:Fin P):Prop where
 go:y2=y1+l*(x2-x1)
 on:l*(y1+y2)=x1^2+x1*x2+x2^2
variable {P:Nat}[NeZero P]
theorem Cf(k b c f l d g:Fin P)(m:b^2=k^3+7)(n:f^2=c^3+7)(i:Line k b c f l)(hx:d=l^2-k-c)(j:g=l*(k-d)-b):g^2=d^3+7:=by
 obtain⟨e,h⟩:=i;subst j hx e
 grobner
theorem Nl(k f b e g i j n c l d m:Fin P)(s:Line k f b j g)(t:Line b j e n i)
 (u:c=g^2-k-b) (p:l=g*(k-c)-f) (r:d=i^2-b-e) (o:m=i*(b-d)-j) :
 ((l-n)^2-(c+e)*(c-e)^2)*(d-k)^2=((m-f)^2-(k+d)*(d-k)^2)*(c-e)^2:=by
 obtain⟨q,v⟩:=s;obtain⟨e3,w⟩:=t;subst p o u r e3 q
 grobner
theorem Nj(c d e k j m n g b i f l:Fin P)(s:Line c d e n j)(t:Line e n k g m)
 (u:b=j^2-c-e) (p:i=j*(c-b)-d) (r:f=m^2-e-k) (o:l=m*(e-f)-n) :
 ((i-g)^2-(k+b)*(b-k)^2)*((l-d)*(b-k)-(i-g)*(f-c))+(b-k)^2*(((i-g)*k-g*(b-k))*(f-c)-((l-d)*c-d*(f-c))*(b-k))=0:=by
 obtain⟨q,v⟩:=s;obtain⟨e3,w⟩:=t;subst p o u r e3 q
 grobner (ringSteps:=100000000)
theorem Ka(k f c b g i j e d l:Fin P)(q:Line k f c j g)(r:Line c j b e i)
 (s:b=g^2-k-c) (n:e=g*(k-b)-f) (p:d=i^2-c-b) (m:l=i*(c-d)-j) :
 (9*b^4-8*b*e^2)*(d-k)^2=((l-f)^2-(k+d)*(d-k)^2)*(4*e^2):=by
 obtain⟨o,t⟩:=q;obtain⟨e3,u⟩:=r;subst m p n s o
 grobner (ringSteps:=100000000)
theorem J9(c e d b g i j k f l:Fin P)(q:Line c e d j g)(r:Line d j b k i)
 (s:b=g^2-c-d) (n:k=g*(c-b)-e) (p:f=i^2-d-b) (m:l=i*(d-f)-j) :
 (3*b^2*(b*(4*k^2)-(9*b^4-8*b*k^2))-2*k^2*(4*k^2))*(f-c)=((l-e)*(c*(4*k^2)-(9*b^4-8*b*k^2))-e*(f-c)*(4*k^2))*(2*k):=by
 obtain⟨o,t⟩:=q;obtain⟨e3,u⟩:=r;subst m p n s o
 grobner (ringSteps:=100000000)
end EC
namespace EC
variable {P:Nat}[NeZero P]
theorem val_zero:(0:Fin P).val=0:=by simp
theorem val_one(h:NT.IsP P):(1:Fin P).val=1:=by
 have k:=h.1;show 1%P=1;exact US oM
theorem nzd(h:NT.IsP P){a b:Fin P}(e:a*b=0):a=0\/b=0:=by
 have c:a.val*b.val%P=0:=by
  have:=congrArg yBa e;rw[XL,val_zero]at this;exact this
 rcases h.euclid (XO c)with k|k
 ·exact U4 (Ya (by rw[val_zero];exact YX k a.isLt))
 ·exact UX (Ya (by rw[val_zero];exact YX k b.isLt))
theorem cI(h:NT.IsP P){a b:Fin P}(k:a≠0)(c:b≠0):a*b≠0:=λe=>(nzd h e).elim k c
theorem cancel(h:NT.IsP P){a b c:Fin P}(d:a≠0)(e:b*a=c*a):b=c:=by
 have f:(b-c)*a=0:=by grobner
 rcases nzd h f with k|k
 ·grobner
 ·exact absurd k d
def inv(a:Fin P):Fin P:=Fin.ofNat P (a.val^(P-2))
theorem inv_mul(h:NT.IsP P){a:Fin P}(b:a≠0):inv a*a=1:=by
 apply Ya;have c:=h.1;have k:¬P ∣ a.val:=λhd=>b (Ya (by rw[val_zero];exact YX hd a.isLt))
 rw[XL,val_one h];show a.val^(P-2)%P*a.val%P=1;rw[yBo,<-V9,show(P-2).succ=P-1 by omega];exact h.fermat1 _ k
abbrev Pt(P:Nat):=Option (Fin P × Fin P)
def On:Pt P->Prop
 | none=>True
 | some (x,y)=>y^2=x^3+7
def neg:Pt P->Pt P
 | none=>none
 | some (x,y)=>some (x,-y)
def mW(k b c d:Fin P):Fin P:=if k=c then 3*k^2*inv (2*b) else(d-b)*inv (c-k)
def third(k c b l:Fin P):Pt P:=some (l^2-k-b,l*(k-(l^2-k-b))-c)
def add:Pt P->Pt P->Pt P
 | none,b=>b
 | a,none=>a
 | some (x1,y1),some (x2,y2)=>if x1=x2/\y2 = -y1 then none else third x1 y1 x2 (mW x1 y1 x2 y2)
theorem pU(h:NT.IsP P){x b k:Fin P}(c:b^2=x^3+7)(d:k^2=x^3+7)(ho:¬k = -b):k=b:=by
 have e:(k-b)*(k+b)=0:=by grobner
 rcases nzd h e with e|e
 ·grobner
 ·exact absurd (by grobner) ho
theorem v8{x k:Fin P}(h:NT.IsP P)(b:(2:Fin P)≠0)(ho:¬(x=x/\k = -k)):2*k≠0:=λe=>by
 rcases nzd h e with e|e
 ·exact b e
 ·exact ho ⟨rfl,by rw[e];grobner⟩
theorem bR(h:NT.IsP P)(i:(2:Fin P)≠0){k d b c:Fin P}(g:d^2=k^3+7)(j:c^2=b^3+7)(ho:¬(k=b/\c = -d)):Line k d b c (mW k d b c):=by
 unfold mW;by_cases hx:k=b
 ·subst hx;rw[yCl rfl];have l:=pU h g j (λe=>ho ⟨rfl,e⟩);subst l;have f:=inv_mul h (v8 h i ho);exact⟨by grobner,by grobner⟩
 ·rw[yCm hx];have hd:b-k≠0:=λe=>hx (by grobner)
  have f:=inv_mul h hd;refine⟨by grobner,cancel h hd (by grobner)⟩
theorem Cm(h:NT.IsP P)(g:(2:Fin P)≠0){k c b d l:Fin P}(j:c^2=k^3+7)(i:d^2=b^3+7)(ho:¬(k=b/\d = -c))(L:Line k c b d l)(M:Line k c b d m):l=m:=by
 obtain⟨n,b1⟩:=L;obtain⟨a2,o⟩:=M;by_cases hx:k=b
 ·subst hx;have f:=pU h j i (λe=>ho ⟨rfl,e⟩);subst f;exact cancel h (v8 h g ho) (by grobner)
 ·have hd:b-k≠0:=λe=>hx (by grobner)
  exact cancel h hd (by grobner)
theorem cD(h:NT.IsP P)(f:(2:Fin P)≠0){k b c d l:Fin P}(e:b^2=k^3+7)(g:d^2=c^3+7)(ho:¬(k=c/\d = -b))(L:Line k b c d l):add (some (k,b)) (some (c,d))=third k b c l:=by
 show(if k=c/\d = -b then none else third k b c (mW k b c d))=_;rw[yCm ho,Cm h f e g ho (bR h f e g ho) L]
theorem iW{k b c d:Fin P}(ho:k=c/\d = -b):add (some (k,b)) (some (c,d))=none:=by
 show(if k=c/\d = -b then none else third k b c (mW k b c d))=_;rw[yCl ho]
theorem bK(a:Pt P):add a none=a:=by cases a<;>rfl
theorem Line.swap{k d e c l:Fin P}(L:Line k d e c l):Line e c k d l:=by
 obtain⟨a,b⟩:=L;exact⟨by grobner,by grobner⟩
theorem C9{k e c d l:Fin P}(L:Line k e c d l):third k e c l=third c d k l:=by
 obtain⟨a,b⟩:=L;unfold third;have f:l^2-k-c=l^2-c-k:=by grobner
 have g:l*(k-(l^2-k-c))-e=l*(c-(l^2-c-k))-d:=by grobner
 rw[g,f]
theorem add_comm(h:NT.IsP P)(c:(2:Fin P)≠0)(a b:Pt P)(k:On a)(d:On b):add a b=add b a:=by
 rcases a with _|⟨g,j⟩
 ·rw[bK];rfl
 ·rcases b with _|⟨l,i⟩
  ·rfl
  ·by_cases ho:g=l/\i = -j
   ·rw[iW ho,iW ⟨ho.1.symm,by rw[ho.2];grobner⟩]
   ·have f:¬(l=g/\j = -i):=λe=>ho ⟨e.1.symm,by rw[e.2];grobner⟩
    have L:=bR h c k d ho;rw[cD h c k d ho L,cD h c d k f L.swap,C9 L]
theorem Ek(h:NT.IsP P)(i:(2:Fin P)≠0)(a b:Pt P)(k:On a)(c:On b):On (add a b):=by
 rcases a with _|⟨d,f⟩
 ·exact c
 ·rcases b with _|⟨g,e⟩
  ·exact k
  ·by_cases ho:d=g/\e = -f
   ·rw[iW ho];trivial
   ·have L:=bR h i k c ho;rw[cD h i k c ho L];exact Cf d f g e _ _ _ k c L rfl rfl
theorem cE{a:Pt P}(h:On a):On (neg a):=by
 rcases a with _|⟨x,y⟩
 ·trivial
 ·have k:y^2=x^3+7:=h;show(-y)^2=x^3+7
  grobner
theorem neg_neg'(a:Pt P):neg (neg a)=a:=by
 rcases a with _|⟨x,y⟩
 ·rfl
 ·show some (x,- -y)=some (x,y);have:- -y=y:=by grobner
  rw[this]
theorem add_neg(a:Pt P):add a (neg a)=none:=by
 rcases a with _|⟨x,y⟩
 ·rfl
 ·exact iW ⟨rfl,rfl⟩
theorem Line.neg{k d e c l:Fin P}(L:Line k d e c l):Line k (-d) e (-c) (-l):=by
 obtain⟨a,b⟩:=L;exact⟨by grobner,by grobner⟩
theorem neg_add(h:NT.IsP P)(i:(2:Fin P)≠0){a b:Pt P}(g:On a)(j:On b):neg (add a b)=add (neg a) (neg b):=by
 rcases a with _|⟨k,d⟩
 ·rfl
 ·rcases b with _|⟨c,f⟩
  ·rfl
  ·by_cases ho:k=c/\f = -d
   ·rw[iW ho];exact(iW ⟨ho.1,by rw[ho.2]⟩).symm
   ·have L:=bR h i g j ho;have m:¬(k=c/\-f = - -d):=λe=>ho ⟨e.1,by have:=e.2;grobner⟩
    rw[cD h i g j ho L];refine Eq.trans ?_ (cD h i (cE (a:=some (k,d)) g) (cE (a:=some (c,f)) j) m L.neg).symm;generalize mW k d c f=l;unfold third;show some (l^2-k-c,-(l*(k-(l^2-k-c))-d))=some ((-l)^2-k-c,-l*(k-((-l)^2-k-c)) - -d);have n:(-l)^2=l^2:=by grobner
    rw[n];have o:-(l*(k-(l^2-k-c))-d) = -l*(k-(l^2-k-c)) - -d:=by grobner
    rw[o]
theorem Line.back{k c f g l d e:Fin P}(L:Line k c f g l)(i:d=l^2-k-f)(j:e=l*(k-d)-c):Line k (-c) d e (-l):=by
 obtain⟨a,b⟩:=L;subst j i a;exact⟨by grobner,by grobner (ringSteps:=10000000)⟩
theorem Qd{k b c l:Fin P}(d:c=l^2-k-b):(-l)^2-k-c=b:=by
 subst d
 grobner
theorem Qc{c d k b l:Fin P}(a:b=k+l*(d-c)):-l*(c-d) - -k=b:=by
 subst a
 grobner
theorem O5{x y:Fin P}(z:y=0)(k:y^2=x^3+7):x^3+7=0:=by
 grobner
theorem Cg(h:NT.IsP P)(i:(2:Fin P)≠0)(y:∀x:Fin P,x^3+7≠0){b c:Pt P}(g:On b)(m:On c):add (neg b) (add b c)=c:=by
 rcases b with _|⟨d,f⟩
 ·rfl
 ·rcases c with _|⟨n,s⟩
  ·rw[bK];exact iW ⟨rfl,by grobner⟩
  ·have o:=g;have w:=m;by_cases ho:d=n/\s = -f
   ·rw[iW ho,bK,ho.1,ho.2];rfl
   ·have L:=bR h i g m ho;have k:=Cf d f n s _ _ _ g m L rfl rfl;rw[cD h i g m ho L];generalize mW d f n s=l at L k;obtain⟨j,q⟩:∃j,j=l^2-d-n:=⟨_,rfl⟩
    unfold third;rw[<-q]at k⊢;obtain⟨p,t⟩:∃p,p=l*(d-j)-f:=⟨_,rfl⟩
    rw[<-t]at k⊢;have M:=L.back q t;have a:=L.go;have r:¬(d=j/\p = - -f):=λe=>by
     obtain⟨u,v⟩:=e;have z:2*f=0:=by
      grobner
     rcases nzd h z with z|z
     ·exact i z
     ·exact y d (O5 z o)
    refine(cD h i (cE (a:=some (d,f)) g) k r M).trans ?_;unfold third;rw[Qd q,Qc a]
theorem RZ(h:NT.IsP P){k d b c g e p n i f:Fin P}(j:b-d≠0)(o:c-k≠0)(l:p-e=i*(b-d))(m:n-g=f*(c-k))
 (hx:((p-e)^2-(b+d)*(b-d)^2)*(c-k)^2=((n-g)^2-(k+c)*(c-k)^2)*(b-d)^2):i^2-b-d=f^2-k-c:=by
 rw[l,m]at hx;clear l m;refine cancel h (cI h (cI h j j) (cI h o o)) ?_
 grobner
theorem RY(h:NT.IsP P){d k c j g l p i o X:Fin P}(n:c-k≠0)(s:m-d≠0)(v:l-g=i*(c-k))(w:p-j=o*(m-d))(q:i^2-c-k=X)
 (f:((l-g)^2-(k+c)*(c-k)^2)*((p-j)*(c-k)-(l-g)*(m-d))+(c-k)^2*(((l-g)*k-g*(c-k))*(m-d)-((p-j)*d-j*(m-d))*(c-k))=0):i*(c-X)-l=o*(d-X)-j:=by
 rw[v,w]at f;have u:l=g+i*(c-k):=by clear f q;grobner
 have t:c+k=i^2-X:=by clear f;grobner
 rw[u];obtain⟨a,y⟩:∃a,c-k=a:=⟨_,rfl⟩
 rw[y]at n f⊢;generalize m-d=b at s f;have r:(o*(d-X)-j-(i*(k-X)-g))*(a*a*a*b)=0:=by
  have x:k+c=i^2-X:=by rw[<-t];clear f;grobner
  rw[x]at f
  grobner
 rcases nzd h r with e|e
 ·have x:c=k+a:=by clear f r e t u q v w;grobner
  rw[x]
  grobner
 ·exact absurd e (cI h (cI h (cI h n n) n) s)
theorem Sx(h:NT.IsP P){k d c i b f g:Fin P}(l:2*b≠0)(n:c-k≠0)(j:f*(2*b)=3*d^2)(o:m-i=g*(c-k))
 (hx:(9*d^4-8*d*b^2)*(c-k)^2=((m-i)^2-(k+c)*(c-k)^2)*(4*b^2)):f^2-d-d=g^2-k-c:=by
 rw[o]at hx;refine cancel h (cI h (cI h l l) (cI h n n)) ?_;have e:9*d^4=(f*(2*b))*(f*(2*b)):=by rw[j];clear hx j;grobner
 rw[e]at hx
 grobner
theorem Sw(h:NT.IsP P){c b i f k n d X:Fin P}(j:2*k≠0)(q:i-c≠0)(g:d*(2*k)=3*b^2)(p:n-f=m*(i-c))(o:d^2-b-b=X)
 (l:(3*b^2*(b*(4*k^2)-(9*b^4-8*b*k^2))-2*k^2*(4*k^2))*(i-c)=((n-f)*(c*(4*k^2)-(9*b^4-8*b*k^2))-f*(i-c)*(4*k^2))*(2*k)):d*(b-X)-k=m*(c-X)-f:=by
 rw[p]at l;have e:9*b^4-8*b*k^2=X*(4*k^2):=by
  have r:9*b^4=(d*(2*k))*(d*(2*k)):=by rw[g];clear l g;grobner
  rw[r,<-o]
  grobner
 rw[e,<-g]at l;clear e g o;refine cancel h (cI h (cI h (cI h j j) j) q) ?_
 grobner
theorem pJ{a b:Fin P}(h:¬a=b):a-b≠0:=λe=>h (by grobner)
theorem Line.run{k c d b l:Fin P}(L:Line k c d b l):b-c=l*(d-k)/\c-b=l*(k-d):=by
 obtain⟨a,-⟩:=L;exact⟨by grobner,by grobner⟩
theorem Line.at{x y l:Fin P}(L:Line x y x y l):l*(2*y)=3*x^2:=by
 obtain⟨-,b⟩:=L
 grobner
theorem OC{l d:Fin P}(s:m^2=l^2):(m*d)^2=(l*d)^2:=by grobner
theorem MM{k b:Fin P}(s:(k - -b)^2=(k-b)^2):4*(k*b)=0:=by grobner
theorem TP{l k b c:Fin P}(r:m^2-b-k=c)(e:c=l^2-k-b):m^2=l^2:=by grobner
theorem QJ{x l a b:Fin P}(e:x=l^2-a-b):x=l^2-b-a:=by grobner
theorem QI{c k g b e d l:Fin P}(L:Line c k g b l)(f:d=l*(c-e)-k):d=l*(g-e)-b:=by
 obtain⟨a,-⟩:=L
 grobner
theorem four_ne(h:NT.IsP P)(k:(2:Fin P)≠0):(4:Fin P)≠0:=λe=>by
 have:(2:Fin P)*2=0:=by grobner
 rcases nzd h this with e|e<;>exact k e
theorem Cd{y:Fin P}(e:y = -z):z = -y:=by grobner
theorem An(h:NT.IsP P)(q:(2:Fin P)≠0){k d f n j i l b o c g:Fin P}(D:i^2=j^3+7)(I:d^2=k^3+7)
 (y:Line k d f n l) (z:Line f n j i m) (a:b=l^2-k-f) (u:o=l*(k-b)-d) (w:c=m^2-f-j) (s:g=m*(f-c)-n)
 (F:o^2=b^3+7) (J:g^2=c^3+7) (v:¬(b=j/\i = -o)) (H:¬(k=c/\g = -d)) (hx:¬c=k) :
 add (some (b,o)) (some (j,i))=add (some (k,d)) (some (c,g)):=by
 have r:=bR h q F D v;have p:=bR h q I J H;rw[cD h q F D v r,cD h q I J H p];unfold third;by_cases hd:b=j
 ·have K:=pU h F (hd ▸ D) (λe=>v ⟨hd,e⟩);subst hd K;have t:=v8 (x:=b) h q v;have E:=Sx h t (pJ hx) r.at p.run.1 (Ka k d f b l m n i c g y z a u w s);have G:=Sw h t (pJ hx) r.at p.run.1 rfl (J9 k d f b l m n i c g y z a u w s);rw[G,E]
 ·have E:=RZ h (pJ hd) (pJ hx) r.run.2 p.run.1 (Nl k d f j l m n i b o c g y z a u w s);have G:=RY h (pJ hd) (pJ hx) r.run.2 p.run.1 rfl (Nj k d f j l m n i b o c g y z a u w s);rw[G,E]
theorem add_assoc(h:NT.IsP P)(l:(2:Fin P)≠0)(h7:∀x:Fin P,x^3+7≠0)(a b c:Pt P)(g:On a)(k:On b)(n:On c):add (add a b) c=add a (add b c):=by
 have comm:=λ(a b:Pt P) (g:On a) (k:On b)=>add_comm h l a b g k
 have f:=Ek h l a b g k;have i:=Ek h l b c k n;have F:∀ {u v:Pt P},On u->On v->add (neg u) (add u v)=v:=λhu hv=>Cg h l h7 hu hv
 by_cases Y:b=neg a
 ·subst Y;rw[add_neg];have:=F k n;rw[neg_neg']at this;exact this.symm
 by_cases z2:c=neg b
 ·subst z2;rw[add_neg,bK,comm _ _ f n,comm a b g k];exact F k g
 by_cases w:c=neg (add a b)
 ·subst w;rw[add_neg];have e:add b (neg (add a b))=neg a:=by
   rw[comm a b g k,neg_add h l k g];have:=F (cE k) (cE g);rw[neg_neg']at this;exact this
  rw[e,add_neg]
 by_cases t:add b c=neg a
 ·rw[t,add_neg];have e:a=neg (add b c):=by rw[t,neg_neg']
  have j:add a b=neg c:=by
   rw[comm a b g k,e,neg_add h l k n];have:=F (cE k) (cE n);rw[neg_neg']at this;exact this
  rw[j,comm _ _ (cE n) n,add_neg]
 rcases a with _|⟨p,r⟩
 ·rfl
 rcases b with _|⟨j,q⟩
 ·rfl
 rcases c with _|⟨A,I⟩
 ·rw[bK,bK]
 have V:¬(p=j/\q = -r):=λe=>Y (by rw[e.1,e.2];rfl)
 have w2:¬(j=A/\I = -q):=λe=>z2 (by rw[e.1,e.2];rfl)
 have D:=bR h l g k V;have J:=bR h l k n w2;have B:=cD h l g k V D;have C:=cD h l k n w2 J;rw[B]at f w⊢;rw[C]at i t⊢;generalize mW p r j q=Z at D B f w⊢;generalize mW j q A I=l2 at J C i t⊢;unfold third at f i w t B C⊢;obtain⟨G,K⟩:∃G,G=Z^2-p-j:=⟨_,rfl⟩
 obtain⟨H,W⟩:∃H,H=l2^2-j-A:=⟨_,rfl⟩
 rw[<-K]at f w B⊢;rw[<-W]at i t C⊢;obtain⟨L,U⟩:∃L,L=Z*(p-G)-r:=⟨_,rfl⟩
 obtain⟨N,S⟩:∃N,N=l2*(j-H)-q:=⟨_,rfl⟩
 rw[<-U]at f w B⊢;rw[<-S]at i t C⊢;have T:¬(G=A/\I = -L):=λe=>w (by rw[e.2,<-e.1];rfl)
 have R:¬(p=H/\N = -r):=λe=>t (by rw[e.2,<-e.1];rfl)
 by_cases hx:H=p
 ·have hy:N=r:=by
   have s:=i;rw[hx]at s;exact pU h g s (λe=>R ⟨hx.symm,e⟩)
  by_cases hd:G=A
  ·exfalso;have X:I=L:=by
    have s:=f;exact pU h s (hd ▸ n) (λe=>T ⟨hd,e⟩)
   have O:=F k n;rw[C,hx,hy]at O;rw[hd,<-X]at B;have Q:¬p=j:=λe=>by
    subst e;have s:=pU h g k (λe=>V ⟨rfl,e⟩);subst s;rw[comm _ _ (cE k) g,add_neg]at O;cases O
   have u1:¬(j=p/\r = - -q):=λe=>Q e.1.symm
   have M:=bR h l (cE (a:=some (j,q)) k) g u1;have r2:=cD h l (cE (a:=some (j,q)) k) g u1 M;have E:third j (-q) p (mW j (-q) p r)=some (A,I):=r2.symm.trans O;generalize mW j (-q) p r=m at M E;unfold third at E;have r4:m^2-j-p=A:=by injection E with E;injection E
   have k1:=M.run.1;have k2:=D.run.2;rw[hd]at K;have s2:=OC (d:=p-j) (TP r4 K);rw[<-k1,<-k2]at s2;have k3:=MM s2;have s:∀ {x y:Fin P},y^2=x^3+7->y≠0:=λo z=>h7 _ (O5 z o)
   rcases nzd h k3 with e|e
   ·exact four_ne h l e
   ·rcases nzd h e with e|e
    ·exact s g e
    ·exact s k e
  ·-- the same,from the other side
   have s:=An h l g n J.swap D.swap (QJ W) (QI J S) (QJ K) (QI D U) i f (λe=>R ⟨e.1.symm,Cd e.2⟩) (λe=>T ⟨e.1.symm,Cd e.2⟩) hd;rw[comm _ _ f n,comm _ _ g i];exact s.symm
 ·exact An h l n g D J K U W S f i T R hx
structure Cur(P:Nat)[NeZero P]:Prop where
 pr:NT.IsP P
 two:(2:Fin P)≠0
 sev:∀x:Fin P,x^3+7≠0
theorem Cur.y_ne(C:Cur P){a b:Fin P}(h:On (some (a,b))):b≠0:=λe=>C.sev a (O5 e h)
theorem Cur.opp_ne(C:Cur P){a b:Fin P}(h:On (some (a,b))):¬(a=a/\b = -b):=λe=>by
 have k:2*b=0:=by
  have:=e.2
  grobner
 exact cI C.pr C.two (C.y_ne h) k
def Jac(x y z:Fin P):Pt P->Prop
 | none=>z=0
 | some (a,b)=>z≠0/\x=a*z^2/\y=b*z^3
def Pair(x y:Fin P):Pt P->Prop
 | none=>x=0/\y=0
 | some (a,b)=>x=a/\y=b
def dbl(n:Fin P):Fin P:=n+n
def twB(x y:Fin P):Fin P:=dbl (dbl (x*(y*y)))
def twS(x:Fin P):Fin P:=dbl (x*x)+x*x
def twX(x y:Fin P):Fin P:=twS x*twS x-dbl (twB x y)
def twY(x y:Fin P):Fin P:=twS x*(twB x y-twX x y)-dbl (dbl (dbl (y*y*(y*y))))
def twZ(y z:Fin P):Fin P:=dbl (y*z)
theorem Ti{a b l x y:Fin P}(g:l*(2*b)=3*a^2)(k:x=a*z^2)(c:y=b*z^3):twX x y=(l^2-a-a)*twZ y z^2:=by
 subst k c;unfold twX twS twB twZ dbl
 grobner (ringSteps:=100000000)
theorem Tg{a b l x y X:Fin P}(g:l*(2*b)=3*a^2)(k:x=a*z^2)(d:y=b*z^3)(c:twX x y=X*twZ y z^2):twY x y=(l*(a-X)-b)*twZ y z^3:=by
 subst k d;unfold twY;rw[c];unfold twS twB twZ dbl
 grobner (ringSteps:=100000000)
theorem Tf(C:Cur P){b y:Fin P}(f:b≠0)(k:z≠0)(d:y=b*z^3):twZ y z≠0:=λe=>by
 have c:2*b*(z*z*(z*z))=0:=by
  unfold twZ dbl at e;subst d
  grobner
 exact cI C.pr (cI C.pr C.two f) (cI C.pr (cI C.pr k k) (cI C.pr k k)) c
theorem Jac.twice(C:Cur P){x y:Fin P}{p:Pt P}(h:Jac x y z p)(k:On p):Jac (twX x y) (twY x y) (twZ y z) (add p p):=by
 match p,h,k with
 | none,h,_ =>
  have c:=h;show twZ y z=0;subst c;unfold twZ dbl
  grobner
 | some (a,b),h,k =>
  obtain⟨e,d,c⟩:=h;have ho:=C.opp_ne k;have L:=bR C.pr C.two k k ho;rw[cD C.pr C.two k k ho L];have hx:=Ti L.at d c;exact⟨Tf C (C.y_ne k) e c,hx,Tg L.at d c hx⟩
def cN(b k:Fin P):Fin P:=b*(k*k)
def eK(b k:Fin P):Fin P:=b*(k*k)*k
def plX(k b bx c:Fin P):Fin P:=(c-b)*(c-b)-(bx-k)*(bx-k)*(bx-k)-dbl ((bx-k)*(bx-k)*k)
def plY(k b bx c:Fin P):Fin P:=(c-b)*((bx-k)*(bx-k)*k-plX k b bx c)-(bx-k)*(bx-k)*(bx-k)*b
def plZ(c k b bx:Fin P):Fin P:=c*k*(bx-b)
theorem TG{a b c d l t k e bx f Z:Fin P}(g:d-b=l*(c-a))(i:k=a*t^2)(j:e=b*t^3)(e3:bx=c*t^2)(m:f=d*t^3)(n:Z=t*(bx-k)):plX k e bx f=(l^2-a-c)*Z^2:=by
 have o:d=b+l*(c-a):=by grobner
 subst o i j e3 m n;unfold plX dbl
 grobner (ringSteps:=100000000)
theorem TF{a b c d l t k e bx f Z X:Fin P}(g:d-b=l*(c-a))(n:k=a*t^2)(j:e=b*t^3)(e3:bx=c*t^2)(o:f=d*t^3)(p:Z=t*(bx-k))(i:plX k e bx f=X*Z^2):plY k e bx f=(l*(a-X)-b)*Z^3:=by
 unfold plY;rw[i];have m:d=b+l*(c-a):=by grobner
 subst m n j e3 o p
 grobner (ringSteps:=100000000)
theorem AP(C : Cur P){a c t : Fin P}{k : Nat}(ht : t ≠ 0)(e : a * t ^ k = c * t ^ k): a = c := by
  have hk : ∀k : Nat, t ^ k ≠ 0 := λk => by
    induction k with
    | zero => intro h; exact ht (by have h2 : (1 : Fin P) = 0 := by { rw [← h]; grind }; calc t = t * 1 := by grobner
                                    _ = 0 := by rw [h2]; grobner)
    | succ k ih => intro h; exact cI C.pr ih ht (by rw [<-h]; grind)
  exact cancel C.pr (hk k) e
theorem Jac.plus(C:Cur P){i n e j o f:Fin P}{p q:Pt P}(h:Jac i n e p)(m:On p)(D:Jac j o f q)(l:On q)(F:e≠0)(E:f≠0):
 (cN i f=cN j e/\eK n f=eK o e/\add p q=add p p) \/
 (¬(cN i f=cN j e/\eK n f=eK o e)/\Jac (plX (cN i f) (eK n f) (cN j e) (eK o e)) (plY (cN i f) (eK n f) (cN j e) (eK o e)) (plZ e f (cN i f) (cN j e)) (add p q)):=by
 match p,q,h,m,D,l with
 | none,_,h,_,_,_=>exact absurd h F
 | some (a,b),none,_,_,h,_=>exact absurd h E
 | some (a,b),some (c,d),h,m,D,l =>
  obtain⟨-,y,A⟩:=h;obtain⟨-,z,w⟩:=D;have t:=cI C.pr F E;have s:cN i f=a*(e*f)^2:=by subst y;unfold cN;clear m l;grobner
  have u:eK n f=b*(e*f)^3:=by subst A;unfold eK;clear m l;grobner
  have e3:cN j e=c*(e*f)^2:=by subst z;unfold cN;clear m l;grobner
  have v:eK o e=d*(e*f)^3:=by subst w;unfold eK;clear m l;grobner
  by_cases r:cN i f=cN j e/\eK n f=eK o e
  ·refine U4 ⟨r.1,r.2,?_⟩;have B:a=c:=AP C t (by rw[<-s,<-e3];exact r.1);have g:b=d:=AP C t (by rw[<-u,<-v];exact r.2);rw[B,g]
  ·refine UX ⟨r,?_⟩;by_cases g:a=c
   ·have hd:d = -b:=Wv λB=>r ⟨by rw[s,e3,g],by
     have:=pU C.pr (x:=a) m (by rw[g];exact l) B;rw[u,v,this]⟩
    rw[iW ⟨g,hd⟩];show plZ _ _ _ _=0;rw[s,e3,g];unfold plZ
    grobner
   ·have ho:¬(a=c/\d = -b):=λh=>g h.1
    have L:=bR C.pr C.two m l ho;rw[cD C.pr C.two m l ho L];have B:plZ e f (cN i f) (cN j e)=e*f*(cN j e-cN i f):=rfl;have hx:=TG L.run.1 s u e3 v B;refine⟨?_,hx,TF L.run.1 s u e3 v B hx⟩;rw[B];refine cI C.pr t (λh=>g ?_);exact AP C (k:=2) t (by rw[<-s,<-e3];clear m l L hx;grobner)
theorem Jac.zero(C:Cur P){x y:Fin P}{p:Pt P}(h:Jac x y z p)(k:z=0):p=none:=by
 match p,h with
 | none,_=>rfl
 | some (a,b),h=>exact absurd k h.1
theorem Jac.neg{x y:Fin P}{p:Pt P}(h:Jac x y z p):Jac x (0-y) z (neg p):=by
 match p,h with
 | none,h=>exact h
 | some (a,b),h=>exact⟨h.1,h.2.1,by have:=h.2.2;show 0-y = -b*z^3;grobner⟩
theorem inv_zero(C:Cur P):inv (0:Fin P)=0:=by
 apply Ya;have k:=C.pr.1;show(0:Fin P).val^(P-2)%P=_;rw[val_zero];by_cases h:P=2
 ·exact absurd (Ya (by rw[val_zero];show 2%P=0;rw[h])) C.two
 ·rw[yBK oM,Nat.zero_mod]
theorem Jac.pair(C:Cur P){x y:Fin P}{p:Pt P}(h:Jac x y z p):Pair (x*(inv z*inv z)) (y*(inv z*inv z)*inv z) p:=by
 match p,h with
 | none,h =>
  have k:=h;subst k;rw[inv_zero C];exact⟨by grobner,by grobner⟩
 | some (a,b),h =>
  have d:=inv_mul C.pr h.1;obtain⟨-,k,c⟩:=h;subst k c;exact⟨by grobner,by grobner⟩
theorem Pair.jac(C:Cur P){x y:Fin P}{p:Pt P}(h:Pair x y p)(k:¬(x=0/\y=0)):Jac x y 1 p:=by
 match p,h with
 | none,h=>exact absurd h k
 | some (a,b),h =>
  obtain⟨c,d⟩:=h;subst c d;refine⟨λe=>?_,by grobner,by grobner⟩;have:=congrArg yBa e;rw[val_zero,val_one C.pr]at this;omega
theorem Pair.nothing(C:Cur P){x y:Fin P}{p:Pt P}(h:Pair x y p)(k:On p)(c:x=0/\y=0):p=none:=by
 match p,h,k with
 | none,_,_=>rfl
 | some (a,b),h,k =>
  obtain⟨e,d⟩:=h;exact absurd (by rw[<-d];exact c.2) (C.y_ne k)
def mul:Nat->Pt P->Pt P
 | 0,_=>none
 | n+1,a=>add (mul n a) a
theorem iN:On (none:Pt P):=trivial
theorem jJ(a:Pt P):add none a=a:=rfl
theorem Cur.on(C:Cur P){a b:Pt P}(k:On a)(c:On b):On (add a b):=Ek C.pr C.two a b k c
theorem Cur.comm(C:Cur P){a b:Pt P}(k:On a)(c:On b):add a b=add b a:=add_comm C.pr C.two a b k c
theorem Cur.assoc(C:Cur P){a b c:Pt P}(k:On a)(e:On b)(d:On c):add (add a b) c=add a (add b c):=add_assoc C.pr C.two C.sev a b c k e d
theorem Cur.neg_l(C:Cur P){a:Pt P}(k:On a):add (neg a) a=none:=by
 rw[C.comm (cE k) k,add_neg]
theorem Cur.swap(C:Cur P){a b c d:Pt P}(f:On a)(e:On b)(k:On c)(hd:On d):add (add a b) (add c d)=add (add a c) (add b d):=by
 rw[C.assoc f e (C.on k hd),<-C.assoc e k hd,C.comm e k,C.assoc k e hd,<-C.assoc f k (C.on e hd)]
theorem cG(C:Cur P){a:Pt P}(k:On a):∀n,On (mul n a)
 | 0=>iN
 | n+1=>C.on (cG C k n) k
theorem mul_add(C:Cur P){a:Pt P}(k:On a)(m:Nat):∀n,mul (m+n) a=add (mul m a) (mul n a)
 | 0=>(bK _).symm
 | n+1=>by
  show add (mul (m+n) a) a=add (mul m a) (add (mul n a) a);rw[mul_add C k m n,C.assoc (cG C k m) (cG C k n) k]
def eF:Int->Pt P->Pt P
 | .ofNat n,a=>mul n a
 | .negSucc n,a=>neg (mul (n+1) a)
theorem iM(C:Cur P){a:Pt P}(k:On a):∀n,On (eF n a)
 | .ofNat n=>cG C k n
 | .negSucc n=>cE (cG C k (n+1))
theorem nP(C:Cur P){a:Pt P}(k:On a):∀n,eF (n+1) a=add (eF n a) a
 | .ofNat n=>rfl
 | .negSucc 0=>by
  show(none:Pt P)=add (neg (add none a)) a;rw[jJ,C.neg_l k]
 | .negSucc (n+1)=>by
  show neg (mul (n+1) a)=add (neg (add (mul (n+1) a) a)) a;have b:=cG C k (n+1);rw[neg_add C.pr C.two b k,C.assoc (cE b) (cE k) k,C.neg_l k,bK]
theorem rQ(C:Cur P){a:Pt P}(k:On a)(n:Int):eF (n-1) a=add (eF n a) (neg a):=by
 have h:=nP C k (n-1);rw[Int.sub_add_cancel]at h;rw[h,C.assoc (iM C k _) k (cE k),add_neg,bK]
theorem Bz(C:Cur P){a:Pt P}(k:On a)(m:Int):∀n:Nat,eF (m+n) a=add (eF m a) (eF n a)
 | 0=>by rw[WJ,ZU];exact(bK _).symm
 | n+1=>by
  rw[show m+((n+1:Nat):Int)=(m+n)+1 by omega,nP C k,Bz C k m n,show((n+1:Nat):Int)=(n:Int)+1 by omega,nP C k,
   C.assoc (iM C k _) (iM C k _) k]
theorem Bw(C:Cur P){a:Pt P}(k:On a):∀n:Nat,eF (-(n:Int)) a=neg (eF n a)
 | 0=>rfl
 | n+1=>by
  have b:eF (((n+1:Nat):Int)) a=add (eF n a) a:=by rw[show((n+1:Nat):Int)=(n:Int)+1 by omega,nP C k]
  rw[b,neg_add C.pr C.two (iM C k _) k,<-Bw C k n,show -((n+1:Nat):Int) = -(n:Int)-1 by omega,rQ C k]
theorem Bu(C:Cur P){a:Pt P}(k:On a)(m:Int):∀n:Nat,eF (m-n) a=add (eF m a) (eF (-(n:Int)) a)
 | 0=>by rw[WJ,Int.sub_zero];exact(bK _).symm
 | n+1=>by
  rw[show m-((n+1:Nat):Int)=(m-n)-1 by omega,rQ C k,Bu C k m n,show -((n+1:Nat):Int) = -(n:Int)-1 by omega,rQ C k,
   C.assoc (iM C k _) (iM C k _) (cE k)]
theorem vU(C:Cur P){a:Pt P}(b:On a)(m n:Int):eF (m+n) a=add (eF m a) (eF n a):=by
 rcases Int.le_total 0 n with h|h
 ·obtain⟨k,rfl⟩:=yAm h;exact Bz C b m k
 ·obtain⟨k,c⟩:=yAm (show 0<=-n by omega);obtain rfl:n = -(k:Int):=oM;rw[<-Bu C b m k,Int.sub_eq_add_neg]
theorem Bv(a:Pt P):eF 1 a=a:=jJ a
theorem Gh(a:Pt P):eF 0 a=none:=rfl
def tot(a:Nat->Pt P):Nat->(Nat->Int)->Pt P
 | 0,_=>none
 | k+1,f=>add (tot a k f) (eF (f k) (a k))
theorem C6(C:Cur P){a:Nat->Pt P}(f:Nat->Int):∀k,(∀i,i<k->On (a i))->On (tot a k f)
 | 0,_=>iN
 | k+1,h=>C.on (C6 C f k λi b=>h i oM) (iM C (h k oM) _)
theorem eJ{a:Nat->Pt P}{f g:Nat->Int}:∀k,(∀i,i<k->f i=g i)->tot a k f=tot a k g
 | 0,_=>rfl
 | k+1,h=>by
  show add (tot a k f) _=add (tot a k g) _;rw[eJ k (λi b=>h i oM),h k oM]
theorem v9(a:Nat->Pt P){f:Nat->Int}:∀k,(∀i,i<k->f i=0)->tot a k f=none
 | 0,_=>rfl
 | k+1,h=>by
  show add (tot a k f) _=none;rw[v9 a k (λi b=>h i oM),h k oM];rfl
theorem AC(C:Cur P){a:Nat->Pt P}(f g:Nat->Int):∀k,(∀i,i<k->On (a i))->tot a k (λj=>f j+g j)=add (tot a k f) (tot a k g)
 | 0,_=>rfl
 | k+1,h=>by
  have b:∀i,i<k->On (a i):=λi d=>h i oM
  have c:=h k oM;show add (tot a k _) (eF (f k+g k) (a k))=add (add (tot a k f) (eF (f k) (a k))) (add (tot a k g) (eF (g k) (a k)));rw[AC C f g k b,vU C c,C.swap (C6 C f k b) (C6 C g k b) (iM C c _) (iM C c _)]
theorem Eu(C:Cur P){a:Nat->Pt P}(i:Nat)(d:Int):∀k,i<k->(∀i,i<k->On (a i))->tot a k (λj=>if j=i then d else 0)=eF d (a i)
 | k+1,hi,h=>by
  show add (tot a k _) (eF (if k=i then d else 0) (a k))=_;by_cases b:k=i
  ·subst b;rw[yCl rfl,v9 a k (λj c=>yCm oM)];rfl
  ·rw[yCm b,Eu C i d k oM (λj c=>h j oM)];exact bK _
theorem Li(C:Cur P){a:Nat->Pt P}(f:Nat->Int)(i:Nat)(d:Int)(k:Nat)(c:i<k)(h:∀i,i<k->On (a i)):
 tot a k (λj=>if j=i then f j+d else f j)=add (tot a k f) (eF d (a i)):=by
 rw[<-Eu C i d k c h,<-AC C f _ k h];refine eJ k λj _=>?_
 by_cases b:j=i
 ·rw[yCl b,yCl b]
 ·rw[yCm b,yCm b,ZU]
theorem Gm(C:Cur P){a:Nat->Pt P}(f:Nat->Int)(k:Nat)(h:∀i,i<k->On (a i)):tot a k (λj=>2*f j)=add (tot a k f) (tot a k f):=by
 rw[<-AC C f f k h];exact eJ k λj _=>oM
end EC
namespace EC
theorem LJ{P c:Nat}(i:NT.IsP P)(l:P=3*c+1)(m:7<P)(f:(P-7)^c%P≠1)(x:Nat):(x*x*x+7)%P≠0:=λe=>by
 have hx:¬P ∣ x:=λhd=>by
  have k:P ∣ x*x*x:=Nat.dvd_mul_left_of_dvd hd _;have b:P ∣ 7:=(Nat.dvd_add_right k).1 (XO e);have:=Ye dC b;omega
 have k:=i.fermat1 x hx;have b:x*x*x%P=P-7:=by
  have j:x*x*x%P<P:=V7 _ oM;have d:(x*x*x%P+7)%P=0:=by rw[yBp];exact e
  by_cases g:x*x*x%P+7<P
  ·rw[US g]at d;omega
  ·rw[yAN oM,US oM]at d;omega
 apply f;rw[<-b,<-yAy];rw[<-k]
 congr 1
 rw[show P-1=3*c by omega,ZQ]
 congr 1
 rw[V9,V9,YT]
theorem PY{P c:Nat}[NeZero P](b:NT.IsP P)(g:P=3*c+1)(i:7<P)(f:(P-7)^c%P≠1):Cur P:=by
 refine⟨b,λe=>?_,λx e=>?_⟩
 ·have:=congrArg yBa e;rw[val_zero]at this;have k:(2:Fin P).val=2%P:=rfl;rw[k,US oM]at this;omega
 ·have d:x*x*x+7=0:=by rw[<-e];grobner
  have:=congrArg yBa d;rw[val_zero,Fin.val_add,XL,XL]at this;have k:(7:Fin P).val=7%P:=rfl;rw[k,yBo,yBp,Nat.add_mod_mod]at this;exact LJ b g i f x.val this
theorem Mz:NT.pm 115792089237316195423570985008687907853269984665640564039457584007908834671663 256 (115792089237316195423570985008687907853269984665640564039457584007908834671663-7) 38597363079105398474523661669562635951089994888546854679819194669302944890554 1≠1:=dK
theorem Q9{P c k:Nat}(d:c<2^k)(b:1<P)(h:NT.pm P k (P-7) c 1≠1):(P-7)^c%P≠1:=λe=>h (by rw[NT.EL P k _ c 1 d b,Xk];exact e)
theorem cur:∃(P:Nat) (_:NeZero P),P=115792089237316195423570985008687907853269984665640564039457584007908834671663/\Cur P:=by
 have g:=NT.pP;have b:=Mz;have d:115792089237316195423570985008687907853269984665640564039457584007908834671663=3*38597363079105398474523661669562635951089994888546854679819194669302944890554+1:=dK;have e:38597363079105398474523661669562635951089994888546854679819194669302944890554<2^256:=dK;have f:7<115792089237316195423570985008687907853269984665640564039457584007908834671663:=dK;generalize 38597363079105398474523661669562635951089994888546854679819194669302944890554=c at *;generalize 115792089237316195423570985008687907853269984665640564039457584007908834671663=P at *;have k:NeZero P:=⟨oM⟩
 exact⟨P,k,rfl,PY g d f (Q9 e oM b)⟩
end EC
section
open Go.RowKit Go.Sort
structure At4(w:Ur)(k a b c d:Nat):Prop where
 c0:w.cell? ⟨k,0,none⟩=some (uZ a)
 c1:w.cell? ⟨k,1,none⟩=some (uZ b)
 c2:w.cell? ⟨k,2,none⟩=some (uZ c)
 c3:w.cell? ⟨k,3,none⟩=some (uZ d)
 f:∀o,w.frozen? ⟨k,o,none⟩=false
variable {w w1:Ur}{k a b c d:Nat}
theorem At4.lt(h:At4 w k a b c d):k<w.heap.size:=Xq _ _ h.c0
theorem At4.below(h:At4 w k a b c d)(f:Below B w w1)(e:k<B):At4 w1 k a b c d:=
 ⟨by rw[f.cell (p:=⟨k,0,none⟩) e];exact h.c0,by rw[f.cell (p:=⟨k,1,none⟩) e];exact h.c1,by rw[f.cell (p:=⟨k,2,none⟩) e];exact h.c2,by rw[f.cell (p:=⟨k,3,none⟩) e];exact h.c3,
  λo=>by rw[f.frozen (p:=⟨k,o,none⟩) e];exact h.f o⟩
theorem At4.call(h:At4 w k a b c d)(e:kZ w w1):At4 w1 k a b c d:=h.below e h.lt
theorem At4.alloc(h:At4 w k a b c d)(o:Obj):At4 (w.alloc o) k a b c d:=h.call (aC w o)
theorem At4.drewN(h:At4 w k a b c d)(q:Nat):At4 (w.drewN q) k a b c d:=⟨h.c0,h.c1,h.c2,h.c3,h.f⟩
theorem At4.new(w:Ur)(t:U8)(a b c d:Nat):At4 (w.alloc (.cells #[uZ a,uZ b,uZ c,uZ d] t)) w.heap.size a b c d:=
 ⟨by rw[Vd];rfl,by rw[Vd];rfl,by rw[Vd];rfl,by rw[Vd];rfl,λo=>Wx _ _ _ _⟩
theorem At4.made(w:Ur)(t:U8)(a b c d:Nat){k:Nat}(e:w.heap.size=k):At4 (w.alloc (.cells #[uZ a,uZ b,uZ c,uZ d] t)) k a b c d:=
 e ▸ At4.new w t a b c d
theorem bH{i:Nat}{o k:Nat}(h:i≠j\/o≠k):(⟨i,o,none⟩:Addr)≠⟨j,k,none⟩:=by
 intro e;simp only[Addr.mk.injEq,and_true]at e;omega
theorem At4.other{o: Nat}(h : At4 w k a b c d)(hj : j ≠ k)(v : Ut): At4 (w.setCell ⟨j, o, none⟩ v) k a b c d :=
  ⟨by rw [UU _ _ _ _ (bH (U4 hj))]; exact h.c0, by rw [UU _ _ _ _ (bH (U4 hj))]; exact h.c1,
   by rw [UU _ _ _ _ (bH (U4 hj))]; exact h.c2, by rw [UU _ _ _ _ (bH (U4 hj))]; exact h.c3, λo => by rw [VM]; exact h.f o⟩
theorem At4.set0(h : At4 w k a b c d)(x : Nat): At4 (w.setCell (aZ k) (uZ (x : Int))) k x b c d :=
  ⟨VV _ _ _ h.c0, by rw [UU _ _ _ _ (bH (UX dC))]; exact h.c1,
   by rw [UU _ _ _ _ (bH (UX dC))]; exact h.c2, by rw [UU _ _ _ _ (bH (UX dC))]; exact h.c3, λo => by rw [VM]; exact h.f o⟩
theorem At4.set1(h : At4 w k a b c d)(x : Nat): At4 (w.setCell ⟨k, 1, none⟩ (uZ (x : Int))) k a x c d :=
  ⟨by rw [UU _ _ _ _ (bH (UX dC))]; exact h.c0, VV _ _ _ h.c1,
   by rw [UU _ _ _ _ (bH (UX dC))]; exact h.c2, by rw [UU _ _ _ _ (bH (UX dC))]; exact h.c3, λo => by rw [VM]; exact h.f o⟩
theorem At4.set2(h : At4 w k a b c d)(x : Nat): At4 (w.setCell ⟨k, 2, none⟩ (uZ (x : Int))) k a b x d :=
  ⟨by rw [UU _ _ _ _ (bH (UX dC))]; exact h.c0, by rw [UU _ _ _ _ (bH (UX dC))]; exact h.c1,
   VV _ _ _ h.c2, by rw [UU _ _ _ _ (bH (UX dC))]; exact h.c3, λo => by rw [VM]; exact h.f o⟩
theorem At4.set3(h : At4 w k a b c d)(x : Nat): At4 (w.setCell ⟨k, 3, none⟩ (uZ (x : Int))) k a b c x :=
  ⟨by rw [UU _ _ _ _ (bH (UX dC))]; exact h.c0, by rw [UU _ _ _ _ (bH (UX dC))]; exact h.c1,
   by rw [UU _ _ _ _ (bH (UX dC))]; exact h.c2, VV _ _ _ h.c3, λo => by rw [VM]; exact h.f o⟩
theorem At4.drew(h:At4 w k a b c d):At4 w.drew k a b c d:=⟨h.c0,h.c1,h.c2,h.c3,h.f⟩
def set4(w:Ur)(k:Nat)(x y z t:Ut):Ur:=(((w.setCell (aZ k) x).setCell ⟨k,1,none⟩ y).setCell ⟨k,2,none⟩ z).setCell ⟨k,3,none⟩ t
theorem At4.self4(h:At4 w k a b c d)(x y z t:Nat):At4 (set4 w k (uZ x) (uZ y) (uZ z) (uZ t)) k x y z t:=(((h.set0 x).set1 y).set2 z).set3 t
theorem At4.other4(h:At4 w k a b c d)(e:j≠k)(x y z t:Ut):At4 (set4 w j x y z t) k a b c d:=(((h.other e x).other e y).other e z).other e t
theorem aL{b:Ur}(h:Below B b w)(k:B<=j)(x y z t:Ut):Below B b (set4 w j x y z t):=
 (((h.setCell (p:=⟨j,0,none⟩) k x).setCell (p:=⟨j,1,none⟩) k y).setCell (p:=⟨j,2,none⟩) k z).setCell (p:=⟨j,3,none⟩) k t
end
section
open Go.RowKit Go.Sort
variable {P:Nat}[NeZero P]{N:Nat}
structure FoldI(w wr:Ur)(g0 g1 g2 a b c d p q r s:Nat):Prop where
 bl:kZ w wr
 pr:At4 wr w.heap.size g0 g1 g2 0
 lo:At4 wr (w.heap.size+1) a b c d
 hi:At4 wr (w.heap.size+1+1) p q r s
 re:At4 wr (w.heap.size+1+1+1) 0 0 0 0
 ha:a<18446744073709551616
 hb:b<18446744073709551616
 hc:c<18446744073709551616
 hd:d<18446744073709551616
 hp:p<18446744073709551616
 hq:q<18446744073709551616
 hr:r<18446744073709551616
 hs:s<18446744073709551616
theorem Jw{a b c d i f g t k P gk:Nat}(v:P+val i f g 0=top)(n:top<2*P)(j:val a b c d<top)(l:gk=val a b c d+top*val 0 0 0 0)
 (o:t+top*k=val a b c d+val i f g 0) (u:k<=1) (m:t=val p q r s) (e:t<top):(k=0->val a b c d=gk%P)/\(k=1->val p q r s=gk%P):=by
 have e:gk=val a b c d:=by rw[l];rfl
 rw[e];refine⟨λh=>?_,λh=>?_⟩
 ·subst h;rw[US oM]
 ·subst h;rw[<-m,yAN oM,US oM];omega
theorem Lc(h:¬(p=0/\q=0/\r=0/\s=0)):0<val p q r s:=by unfold val;omega
theorem GL{x h g P gk:Nat}(k:0<h)(b:P+g=top)(d:top<2*P)(c:gk=x+top*h):x+g*h<gk/\(x+g*h)%P=gk%P:=by
 have e:gk=x+g*h+P*h:=by rw[c,<-b,XH];omega
 rw[e,YS];have:0<P*h:=Nat.mul_pos oM k;exact⟨oM,rfl⟩
theorem Ct{l t a b c d g h x:Nat}(k:g*h+x=l+18446744073709551616*t)(f:t=val a b c d):val l a b c+top*val d 0 0 0=x+val g 0 0 0*h:=by
 have e:val g 0 0 0=g:=by unfold val;omega
 rw[e];unfold val at *;unfold top;omega
theorem val_mul(b c k h:Nat):val b c k 0*h=b*h+18446744073709551616*(c*h)+340282366920938463463374607431768211456*(k*h):=by
 unfold val;rw[XH,XH,XH,X5,X5];omega
theorem xT{m i l n h x a b c d o k f g e:Nat}(u:m+18446744073709551616*val a b c d=r*h+x)
 (t:i+18446744073709551616*val s j p o=l*h+val a b c d) (v:q+18446744073709551616*val k f g e=n*h+val s j p o) :
 val m i q k+top*val f g e 0=x+val r l n 0*h:=by
 rw[val_mul];unfold val at *;unfold top;omega
theorem xU(g0 g1 g2:Nat)(x y:Ut)(m n P:Nat)(ht:g0<18446744073709551616)(k9:g1<18446744073709551616)(hw:g2<18446744073709551616)
 (hor:(g1=0/\g2=0)\/∃o:Nat,bits .or .u64 (g1:Int) (g2:Int)=(o:Int)/\o≠0) (hP:P+val g0 g1 g2 0=top) (k7:top<2*P) (hx:Four x m) (hy:Four y n) (w:Ur) :
 UH prog 235 #[.agg #[uZ g0,uZ g1,uZ g2,uZ 0],x,y] w (rZ w λe w'=>Four e ((m+top*n)%P)):=by
 obtain⟨a,b,c,d,rfl,ha,hb,hc,hd,em⟩:=hx;obtain⟨p,q,r,s,rfl,hp,hq,hr,hs,en⟩:=hy;go_enter func235,ntmps235;go_wp2;go_loopg [] (val a b c d+top*val p q r s) (λg wr=>∃(a b c d p q r s:Nat),FoldI w wr g0 g1 g2 a b c d p q r s/\g=val a b c d+top*val p q r s/\Hid (g%P=(m+top*n)%P))
 case atStart =>
  have f:=Ee w (.cells #[uZ g0,uZ g1,uZ g2,uZ 0] 120) (.cells #[uZ a,uZ b,uZ c,uZ d] 118) (.cells #[uZ p,uZ q,uZ r,uZ s] 118) (.cells #[uZ 0,uZ 0,uZ 0,uZ 0] 118);refine⟨a,b,c,d,p,q,r,s,⟨f,?_,?_,?_,?_,ha,hb,hc,hd,hp,hq,hr,hs⟩,rfl,?_⟩
  ·exact(((At4.new w 120 g0 g1 g2 0).alloc _).alloc _).alloc _
  ·exact((At4.made (w.alloc _) 118 a b c d (UB _ _)).alloc _).alloc _
  ·exact(At4.made ((w.alloc _).alloc _) 118 p q r s (by simp)).alloc _
  ·exact At4.made (((w.alloc _).alloc _).alloc _) 118 0 0 0 0 (by simp)
  ·rw[em,en];rfl
 case round =>
  obtain⟨a,b,c,d,p,q,r,s,hI,hg,HE⟩:=hrel;clear em en ha hb hc hd hp hq hr hs;obtain⟨bl,pr,lo,hi,re,ha,hb,hc,hd,hp,hq,hr,hs⟩:=hI;have HB:Hid (Below w.heap.size w wr):=bl;clear bl;generalize I:w.heap.size+1+1+1=C at re⊢;generalize J:w.heap.size+1+1=k2 at hi⊢;generalize E:w.heap.size+1=k1 at lo⊢;have H:Hid (w.heap.size+1=k1/\w.heap.size+1+1=k2/\w.heap.size+1+1+1=C):=⟨E,J,I⟩
  generalize K:w.heap.size=B at pr HB⊢;have H0:Hid (w.heap.size=B):=K;have k5:Hid (B<=k1):=by unfold Hid;omega
  have Z:B≠k1:=oM;have ka:B≠k2:=oM;have kv:B≠C:=oM;have n12:k1≠k2:=oM;have S:k1≠C:=oM;have kg:k2≠C:=oM;have z0:=pr.lt;have z1:=lo.lt;have z2:=hi.lt;have z3:=re.lt;clear K E J I;by_cases hz:p=0/\q=0/\r=0/\s=0
  ·obtain⟨rfl,rfl,rfl,rfl⟩:=hz;obtain⟨p0,p1,p2,p3,pf⟩:=id pr;obtain⟨l0,l1,l2,l3,lf⟩:=id lo;obtain⟨K,E,J,I,hf⟩:=id hi;obtain⟨G,r1,r2,r3,L⟩:=id re;go_wp2_with fail
   refine(qV _ _ _ _ (Four.mk ha hb hc hd rfl) (Four.mk ht k9 hw dC rfl) _).mono ?_;rintro e w1 ⟨v,rfl,f,v4,t,k,rfl,⟨Y,O,X,W,rfl,V,T,Q,U,F⟩,hk,N⟩;have z:=Jw hP k7 (mO ha hb hc hd) hg N hk F (F ▸ mO V T Q U);rw[HE.out]at z;have HF:Hid _:=z;clear z;clear p0 p1 p2 p3 pf l0 l1 l2 l3 lf K E J I hf G r1 r2 r3 L N F hg HE;have i:=lo.call f;have j:=re.call f;have z3:=j.lt;have z1:=i.lt;have D:Hid (Below B w w1):=HB.trans (f.mono oM);obtain⟨l0,l1,l2,l3,lf⟩:=id i;obtain⟨G,r1,r2,r3,L⟩:=id j;have A:k=0\/k=1:=oM;rcases A with rfl|rfl
   ·go_wp2;have u:=((((j.set0 a).set1 b).set2 c).set3 d).alloc (.cells #[uZ Y,uZ O,uZ X,uZ W] 118);refine UE (v:=?v0) ?hr0 rfl ?hR0
    case hr0=>simp[results,Tryz.results235,go_sem,u.c0,u.c1,u.c2,u.c3];rfl
    refine⟨_,rfl,?_,Four.mk ha hb hc hd (HF.1 trivial).symm⟩;rw[H0.out];have R:B<=C:=by have:=H.out;have:=H0.out;omega
    have q1:=(((D.setCell (p:=⟨C,0,none⟩) R (uZ a)).setCell (p:=⟨C,1,none⟩) R (uZ b)).setCell (p:=⟨C,2,none⟩) R (uZ c)).setCell (p:=⟨C,3,none⟩) R (uZ d);exact q1.alloc (by simp;omega) _
   ·go_wp2;have u:=((((j.set0 Y).set1 O).set2 X).set3 W).alloc (.cells #[uZ Y,uZ O,uZ X,uZ W] 118);refine UE (v:=?v1) ?hr1 rfl ?hR1
    case hr1=>simp[results,Tryz.results235,go_sem,u.c0,u.c1,u.c2,u.c3];rfl
    refine⟨_,rfl,?_,Four.mk V T Q U (HF.2 trivial).symm⟩;rw[H0.out];have R:B<=C:=by have:=H.out;have:=H0.out;omega
    have q1:=(((D.setCell (p:=⟨C,0,none⟩) R (uZ Y)).setCell (p:=⟨C,1,none⟩) R (uZ O)).setCell (p:=⟨C,2,none⟩) R (uZ X)).setCell (p:=⟨C,3,none⟩) R (uZ W);exact q1.alloc (by simp;omega) _
  ·go_upto_region 1 with fail
   go_cut [12] from 10 to 72 (λc wx=>c=.bool true/\wr=wx)
   case first =>
    obtain⟨K,E,J,I,hf⟩:=id hi;go_wp2_with fail
    all_goals (go_meet;exact⟨rfl,rfl⟩)
   case rest =>
    obtain⟨rfl,rfl⟩:=hcut;have h6:=GL (Lc hz) hP k7 hg;clear hz;obtain⟨p0,p1,p2,p3,pf⟩:=id pr;obtain⟨l0,l1,l2,l3,lf⟩:=id lo;obtain⟨K,E,J,I,hf⟩:=id hi;rcases hor with⟨rfl,rfl⟩|⟨o,ho,ku⟩
    ·have hor:bits .or .u64 0 0=0:=dK;go_wp2_with fail
     refine(jX g0 _ _ _ _ ht (Four.mk hp hq hr hs rfl) (Four.mk ha hb hc hd rfl) _).mono ?_;rintro e w1 ⟨v,rfl,f,l,v4,t,rfl,hl,⟨Y,O,X,W,rfl,V,T,Q,U,F⟩,N⟩;have i:=(lo.alloc _).call f;have z:=(hi.alloc _).call f;have A:=(pr.alloc _).call f;have j:=(re.alloc _).call f;have u:=(At4.new wr 118 0 0 0 0).call f;have D:Hid (Below B w w1):=(HB.alloc oM _).trans (f.mono (by simp;omega));clear f p0 p1 p2 p3 pf l0 l1 l2 l3 lf K E J I hf lo hi pr re;generalize hn:wr.heap.size=k4 at u z0 z1 z2 z3⊢;clear hn;have m0:B≠k4:=oM;have m1:k1≠k4:=oM;have m2:k2≠k4:=oM;have m3:C≠k4:=oM;have M:Hid (B<k4):=z0;clear z0 z1 z2 z3;have z0:=A.lt;have z1:=i.lt;have z2:=z.lt;have z3:=j.lt;have z4:=u.lt;have G:Hid (g0*val p q r s+val a b c d=l+18446744073709551616*t/\t=val Y O X W):=⟨N.symm,F⟩
     have HL:Hid (_/\_):=h6;clear N F h6 hg;obtain⟨p0,p1,p2,p3,pf⟩:=id A;obtain⟨l0,l1,l2,l3,lf⟩:=id i;obtain⟨K,E,J,I,hf⟩:=id z;obtain⟨t0,t1,t2,t3,tf⟩:=id u;go_wp2;go_region
     go_wp2;obtain⟨q1,q2,q3⟩:=H.out;have R:=H0.out;subst q1 q2 q3 R;go_roundg (val l Y O X+top*val W 0 0 0)
     case measure=>rw[Ct G.1 G.2];exact HL.1
     case rel =>
      refine⟨l,Y,O,X,W,0,0,0,⟨?_,?_,?_,?_,?_,hl,V,T,Q,U,dC,dC,dC⟩,rfl,?_⟩
      ·have s1:=(D.setCell (p:=⟨w.heap.size+1,0,none⟩) (Zn _) (uZ l))
       exact(aL (aL (aL s1 (XM M.out) _ _ _ _) (Zn _) _ _ _ _) oM _ _ _ _).drew
      ·exact((((A.other Z.symm _).other4 m0.symm _ _ _ _).other4 Z.symm _ _ _ _).other4 ka.symm _ _ _ _).drew
      ·exact((((i.set0 l).other4 m1.symm _ _ _ _).self4 l Y O X).other4 n12.symm _ _ _ _).drew
      ·exact((((z.other n12 _).other4 m2.symm _ _ _ _).other4 n12 _ _ _ _).self4 W 0 0 0).drew
      ·exact((((j.other S _).other4 m3.symm _ _ _ _).other4 S _ _ _ _).other4 kg _ _ _ _).drew
      ·unfold Hid;rw[Ct G.1 G.2,<-HE.out];exact HL.2
    ·go_wp2_with fail
     refine(jX g0 _ _ _ _ ht (Four.mk hp hq hr hs rfl) (Four.mk ha hb hc hd rfl) _).mono ?_;rintro e w1 ⟨v,rfl,f,l,v4,t,rfl,hl,⟨Y,O,X,W,rfl,V,T,Q,U,F⟩,N⟩;have i:=(lo.alloc _).call f;have z:=(hi.alloc _).call f;have A:=(pr.alloc _).call f;have j:=(re.alloc _).call f;have u:=(At4.new wr 118 0 0 0 0).call f;have D:Hid (Below B w w1):=(HB.alloc oM _).trans (f.mono (by simp;omega));clear f p0 p1 p2 p3 pf l0 l1 l2 l3 lf K E J I hf lo hi pr re;generalize hn:wr.heap.size=k4 at u z0 z1 z2 z3⊢;clear hn;have m0:B≠k4:=oM;have m1:k1≠k4:=oM;have m2:k2≠k4:=oM;have m3:C≠k4:=oM;have M:Hid (B<k4):=z0;clear z0 z1 z2 z3;have kd:Hid (l+18446744073709551616*val Y O X W=g0*val p q r s+val a b c d):=by unfold Hid;rw[<-F];exact N
     have HL:Hid (_/\_):=h6;clear N F h6 hg;have z0:=A.lt;have z1:=i.lt;have z2:=z.lt;have z3:=j.lt;have z4:=u.lt;obtain⟨p0,p1,p2,p3,pf⟩:=id A;obtain⟨l0,l1,l2,l3,lf⟩:=id i;obtain⟨K,E,J,I,hf⟩:=id z;obtain⟨t0,t1,t2,t3,tf⟩:=id u;go_wp2_with fail
     refine(jX g1 _ _ _ _ k9 (Four.mk hp hq hr hs rfl) (Four.mk V T Q U rfl) _).mono ?_;rintro e w2 ⟨v,rfl,L,l',v5,t,rfl,kk,⟨a2,b2,c2,d2,rfl,kn,kj,kr,kl,F⟩,N⟩;have h9:=((i.set0 l).other4 m1.symm _ _ _ _).call L;have h8:=((z.other n12 _).other4 m2.symm _ _ _ _).call L;have h7:=((A.other Z.symm _).other4 m0.symm _ _ _ _).call L;have hm:=((j.other S _).other4 m3.symm _ _ _ _).call L;have h5:=((u.other m1 _).self4 Y O X W).call L;have kf:Hid (Below B w w2):=((aL (D.setCell (p:=⟨k1,0,none⟩) k5.out _) (XM M.out) _ _ _ _).trans (L.mono (by simp;omega)))
     clear L p0 p1 p2 p3 pf l0 l1 l2 l3 lf K E J I hf t0 t1 t2 t3 tf i z A j u D z0 z1 z2 z3 z4;have ki:Hid (l'+18446744073709551616*val a2 b2 c2 d2=g1*val p q r s+val Y O X W):=by unfold Hid;rw[<-F];exact N
     clear N F;have z0:=h7.lt;have z1:=h9.lt;have z2:=h8.lt;have z3:=hm.lt;have z4:=h5.lt;obtain⟨p0,p1,p2,p3,pf⟩:=id h7;obtain⟨l0,l1,l2,l3,lf⟩:=id h9;obtain⟨K,E,J,I,hf⟩:=id h8;obtain⟨t0,t1,t2,t3,tf⟩:=id h5;go_wp2_with fail
     refine(jX g2 _ _ _ _ hw (Four.mk hp hq hr hs rfl) (Four.mk kn kj kr kl rfl) _).mono ?_;rintro e w3 ⟨v,rfl,G,h4,v6,t,rfl,ke,⟨a3,b3,c3,d3,rfl,kp,kh,km,kt,F⟩,N⟩;have hu:=((h9.set1 l').other4 m1.symm _ _ _ _).call G;have hj:=((h8.other n12 _).other4 m2.symm _ _ _ _).call G;have kb:=((h7.other Z.symm _).other4 m0.symm _ _ _ _).call G;have k8:=((hm.other S _).other4 m3.symm _ _ _ _).call G;have kc:=((h5.other m1 _).self4 a2 b2 c2 d2).call G;have ko:Hid (Below B w w3):=((aL (kf.setCell (p:=⟨k1,1,none⟩) k5.out _) (XM M.out) _ _ _ _).trans (G.mono (by simp;omega)))
     clear G p0 p1 p2 p3 pf l0 l1 l2 l3 lf K E J I hf t0 t1 t2 t3 tf h9 h8 h7 hm h5 kf z0 z1 z2 z3 z4;have k6:Hid (h4+18446744073709551616*val a3 b3 c3 d3=g2*val p q r s+val a2 b2 c2 d2):=by unfold Hid;rw[<-F];exact N
     clear N F;have z0:=kb.lt;have z1:=hu.lt;have z2:=hj.lt;have z3:=k8.lt;have z4:=kc.lt;obtain⟨l0,l1,l2,l3,lf⟩:=id hu;obtain⟨K,E,J,I,hf⟩:=id hj;obtain⟨t0,t1,t2,t3,tf⟩:=id kc;go_wp2;go_region
     go_wp2;clear l0 l1 l2 l3 lf K E J I hf t0 t1 t2 t3 tf;obtain⟨q1,q2,q3⟩:=H.out;have R:=H0.out;subst q1 q2 q3 R;go_roundg (val l l' h4 a3+top*val b3 c3 d3 0)
     case measure=>rw[xT kd.out ki.out k6.out];exact HL.1
     case rel =>
      refine⟨l,l',h4,a3,b3,c3,d3,0,⟨?_,?_,?_,?_,?_,hl,kk,ke,kp,kh,km,kt,dC⟩,rfl,?_⟩
      ·have s1:=(ko.setCell (p:=⟨w.heap.size+1,2,none⟩) (Zn _) (uZ h4))
       have s2:=(aL s1 (XM M.out) (uZ a3) (uZ b3) (uZ c3) (uZ d3))
       exact(aL (s2.setCell (p:=⟨w.heap.size+1,3,none⟩) (Zn _) (uZ a3)) oM _ _ _ _).drew
      ·exact((((kb.other Z.symm _).other4 m0.symm _ _ _ _).other Z.symm _).other4 ka.symm _ _ _ _).drew
      ·exact((((hu.set2 h4).other4 m1.symm _ _ _ _).set3 a3).other4 n12.symm _ _ _ _).drew
      ·exact((((hj.other n12 _).other4 m2.symm _ _ _ _).other n12 _).self4 b3 c3 d3 0).drew
      ·exact((((k8.other S _).other4 m3.symm _ _ _ _).other S _).other4 kg _ _ _ _).drew
      ·unfold Hid;rw[xT kd.out ki.out k6.out,<-HE.out];exact HL.2
end
section
open Go.RowKit Go.Sort
structure At8(w:Ur)(k a b c d e f g h:Nat):Prop where
 c0:w.cell? ⟨k,0,none⟩=some (uZ a)
 c1:w.cell? ⟨k,1,none⟩=some (uZ b)
 c2:w.cell? ⟨k,2,none⟩=some (uZ c)
 c3:w.cell? ⟨k,3,none⟩=some (uZ d)
 c4:w.cell? ⟨k,4,none⟩=some (uZ e)
 c5:w.cell? ⟨k,5,none⟩=some (uZ f)
 c6:w.cell? ⟨k,6,none⟩=some (uZ g)
 c7:w.cell? ⟨k,7,none⟩=some (uZ h)
 fz:∀o,w.frozen? ⟨k,o,none⟩=false
variable {w w1:Ur}{k a b c d e f g h:Nat}
theorem At8.made(w:Ur)(t:U8)(a b c d e f g h:Nat){k:Nat}(i:w.heap.size=k):At8 (w.alloc (.cells #[uZ a,uZ b,uZ c,uZ d,uZ e,uZ f,uZ g,uZ h] t)) k a b c d e f g h:=by
 subst i;exact⟨by rw[Vd];rfl,by rw[Vd];rfl,by rw[Vd];rfl,by rw[Vd];rfl,by rw[Vd];rfl,by rw[Vd];rfl,by rw[Vd];rfl,by rw[Vd];rfl,λo=>Wx _ _ _ _⟩
theorem mK{k:Ur}(H:Below B k w)(q:Nat):Below B k (w.drewN q):=⟨H.os,H.tape,H.output,H.size,H.block⟩
end
section
open Go.RowKit Go.Sort
variable {P:Nat}[NeZero P]{N:Nat}
structure Gap(g0 g1 g2 P:Nat):Prop where
 h0:g0<18446744073709551616
 h1:g1<18446744073709551616
 h2:g2<18446744073709551616
 hor:(g1=0/\g2=0)\/∃o:Nat,bits .or .u64 (g1:Int) (g2:Int)=(o:Int)/\o≠0
 hP:P+val g0 g1 g2 0=top
 hP2:top<2*P
 hg:0<val g0 g1 g2 0
theorem yP{k a b c d:Nat}{w W e:Ur}(h:Hid (Below k w W))(pr:At4 W k a b c d)(f:kZ W e):Hid (Below k w e):=h.trans (f.mono (XM pr.lt))
end
section
open Go.RowKit Go.Sort
structure Blk where
 k:Nat
 o:Nat
 a:Nat
 b:Nat
 c:Nat
 d:Nat
structure Blk.at(x:Blk)(w:Ur):Prop where
 c0:w.cell? ⟨x.k,x.o,none⟩=some (uZ (x.a:Int))
 c1:w.cell? ⟨x.k,x.o+1,none⟩=some (uZ (x.b:Int))
 c2:w.cell? ⟨x.k,x.o+2,none⟩=some (uZ (x.c:Int))
 c3:w.cell? ⟨x.k,x.o+3,none⟩=some (uZ (x.d:Int))
 f:∀o,w.frozen? ⟨x.k,o,none⟩=false
structure Kept(w:Ur)(k0:Nat)(l:List Blk)(W:Ur):Prop where
 bl:Below k0 w W
 le:k0<=W.heap.size
 at':∀x∈l,x.at W
variable {w W w1:Ur}{k0:Nat}{l:List Blk}{x:Blk}
theorem Blk.at.lt(h:x.at W):x.k<W.heap.size:=Xq _ _ h.c0
theorem Blk.at.call(h:x.at W)(k:kZ W w1):x.at w1:=
 ⟨by rw[k.cell (p:=⟨x.k,x.o,none⟩) h.lt];exact h.c0,by rw[k.cell (p:=⟨x.k,x.o+1,none⟩) h.lt];exact h.c1,by rw[k.cell (p:=⟨x.k,x.o+2,none⟩) h.lt];exact h.c2,by rw[k.cell (p:=⟨x.k,x.o+3,none⟩) h.lt];exact h.c3,
  λo=>by rw[k.frozen (p:=⟨x.k,o,none⟩) h.lt];exact h.f o⟩
theorem Blk.at.other{i: Nat}(h : x.at W)(hj : j ≠ x.k)(v : Ut): x.at (W.setCell ⟨j, i, none⟩ v) :=
  ⟨by rw [UU _ _ _ _ (bH (U4 hj))]; exact h.c0, by rw [UU _ _ _ _ (bH (U4 hj))]; exact h.c1,
   by rw [UU _ _ _ _ (bH (U4 hj))]; exact h.c2, by rw [UU _ _ _ _ (bH (U4 hj))]; exact h.c3, λo => by rw [VM]; exact h.f o⟩
theorem Kept.call(h:Kept w k0 l W)(k:kZ W w1):Kept w k0 l w1:=
 ⟨h.bl.trans (k.mono h.le),UC h.le k.size,λx hx=>(h.at' x hx).call k⟩
theorem Kept.drew(h:Kept w k0 l W):Kept w k0 l W.drew:=⟨h.bl.drew,h.le,λx hx=>⟨(h.at' x hx).c0,(h.at' x hx).c1,(h.at' x hx).c2,(h.at' x hx).c3,(h.at' x hx).f⟩⟩
theorem Kept.undrew(h:Kept w k0 l W.drew):Kept w k0 l W:=
 ⟨⟨h.bl.os,h.bl.tape,h.bl.output,h.bl.size,h.bl.block⟩,h.le,λx hx=>⟨(h.at' x hx).c0,(h.at' x hx).c1,(h.at' x hx).c2,(h.at' x hx).c3,(h.at' x hx).f⟩⟩
theorem Kept.alloc(h:Kept w k0 l W)(o:Obj):Kept w k0 l (W.alloc o):=h.call (aC W o)
theorem Kept.set{i:Nat}(h:Kept w k0 l W)(b:k0<=j)(k:∀x∈l,j≠x.k)(v:Ut):Kept w k0 l (W.setCell ⟨j,i,none⟩ v):=
 ⟨h.bl.setCell (p:=⟨j,i,none⟩) b v,by simpa using h.le,λx hx=>(h.at' x hx).other (k x hx) v⟩
theorem Kept.set4(h:Kept w k0 l W)(b:k0<=j)(k:∀x∈l,j≠x.k)(p q r s:Ut):Kept w k0 l (Go.Proofs.YtdoammpgchejcaaGreat.set4 W j p q r s):=
 (((h.set b k p).set b k q).set b k r).set b k s
theorem Kept.set4'(h:Kept w k0 l W)(b:k0<=j)(k:∀x∈l,j≠x.k)(p q r s:Ut):
 Kept w k0 l ((((W.setCell (aZ j) p).setCell ⟨j,1,none⟩ q).setCell ⟨j,2,none⟩ r).setCell ⟨j,3,none⟩ s):=h.set4 b k p q r s
theorem Kept.lts(h:Kept w k0 l W):∀x∈l,x.k<W.heap.size:=λx hx=>(h.at' x hx).lt
theorem Kept.head(h:Kept w k0 (x :: l) W):x.at W:=h.at' x (Vu)
theorem Kept.tail(h:Kept w k0 (x :: l) W):Kept w k0 l W:=⟨h.bl,h.le,λy k=>h.at' y (Vb _ k)⟩
theorem At4.blk{k a b c d:Nat}(h:At4 W k a b c d):(Blk.mk k 0 a b c d).at W:=⟨h.c0,h.c1,h.c2,h.c3,h.f⟩
theorem Blk.at.at4{k a b c d:Nat}(h:(Blk.mk k 0 a b c d).at W):At4 W k a b c d:=⟨h.c0,h.c1,h.c2,h.c3,h.f⟩
theorem Kept.mk1(b:Below k0 w W)(k:k0<=W.heap.size):Kept w k0 [] W:=⟨b,k,λ_ h=>by cases h⟩
theorem Kept.cons(h:Kept w k0 l W)(hx:x.at W):Kept w k0 (x :: l) W:=
 ⟨h.bl,h.le,λy b=>by rcases VX.1 b with rfl|k;exact hx;exact h.at' y k⟩
theorem Kept.put{a b c d:Nat}(h:Kept w k0 (⟨j,0,a,b,c,d⟩ :: l) W)(e:k0<=j)(k:∀x∈l,j≠x.k)(x y z t:Nat):
 Kept w k0 (⟨j,0,x,y,z,t⟩ :: l) ((((W.setCell (aZ j) (uZ x)).setCell ⟨j,1,none⟩ (uZ y)).setCell ⟨j,2,none⟩ (uZ z)).setCell ⟨j,3,none⟩ (uZ t)):=
 (h.tail.set4' e k _ _ _ _).cons (h.head.at4.self4 x y z t).blk
end
end Go.Proofs.YtdoammpgchejcaaGreat
