import Derived.KernelRfl
import Derived.Below
import Derived.Deep.MidRow
import Derived.WalkKit
import Derived.Test.YtnakcnljhmlikaaGreatRows
import Derived.Lib.Mul64
import Derived.Laws.Bits64b
import Derived.Laws.Externs
import Derived.Sort.Row
import Derived.Deep.LoopGhost
import Derived.Deep.QuietTactic
import Derived.StillTailTactics
import Derived.BigRegion
import Derived.BigQuiet
import Derived.WalkSpells
import Derived.WalkLawsBesides
import Derived.OrdersHeld
import Derived.Orders
set_option linter.unusedVariables false
set_option linter.constructorNameAsVariable false
set_option linter.unusedSimpArgs false
set_option maxRecDepth 1000000
set_option maxHeartbeats 4000000
namespace Go.Proofs.YtnakcnljhmlikaaGreat
open _root_.Array renaming all_eq_true'->Up,any_eq_true'->Vr,getD_eq_getD_getElem?->Sz,getElem?_eq_getElem->SS,getElem?_eq_none->VD,getElem?_eq_some_iff->SZ,getElem?_replicate->Vp,getElem?_setIfInBounds->Um,getElem?_toList->Tn,mapM_eq_mapM_toList->Ve,replicate->So,size_setIfInBounds->Tg
open _root_.Bool renaming and_eq_true->SC,or_false->Ui,true_or->Vm
open _root_.Classical renaming byContradiction->TQ
open _root_.Fin renaming ext->Vx,val->YJ,val_mul->U6
open _root_.Go renaming Value->YF,World->ZC
open _root_.Go.Code renaming region->TX
open _root_.Go.Instr renaming alloc->Yn,index->Wv,indexAt->To,loadAt->XY,sliceAt->VN,storeAt->V1,sureAddr->VZ
open _root_.Go.IntKind renaming u64->Ta,wrap_u64->Vz
open _root_.Go.Lib renaming half_mul_le->XD
open _root_.Go.Next renaming value->UP
open _root_.Go.Oper renaming upon_enter->UF,wp->TZ
open _root_.Go.Operand renaming tmp->Z5
open _root_.Go.Region renaming binds->TR,ready->Ts,wanted->Vk
open _root_.Go.Result renaming andThen->Xy
open _root_.Go.Sem renaming run_bind->SK
open _root_.Go.Value renaming pointer->Zs,slice->Tk
open _root_.Go.World renaming cell?->V6,cell?_alloc_new->S5,cell?_of_block->SR,cell?_setCell_other->u7,cell?_setCell_same->Tb,frozen?_alloc_new->TU,frozen?_setCell->S3,setCells->XB,size_alloc->Sq
open _root_.Int renaming add_zero->Xx,eq_ofNat_of_zero_le->Yf,natCast_zero->Te
open _root_.List renaming all_eq_true->S4,append_nil->U7,countP_cons->YY,find?_some->Vo,getD_eq_getElem?_getD->TS,getElem?_append_left->Ty,getElem?_append_right->Ut,getElem?_cons_succ->UU,getElem?_cons_zero->Vu,getElem?_drop->WG,getElem?_eq_getElem->SH,getElem?_eq_none->UO,getElem?_eq_some_iff->SI,getElem?_map->Un,getElem?_of_mem->Ub,getElem?_take->T0,length_append->Su,length_cons->Tc,length_drop->Wi,length_map->SO,length_nil->UE,length_take->UZ,mapM_cons->Wu,mapM_nil->WC,map_append->XG,map_cons->UJ,map_inj_left->WQ,map_nil->Yk,map_toArray->Xv,mem_cons_of_mem->S8,mem_cons_self->Ti,mem_of_find?_eq_some->Ue,mem_of_getElem?->TO,mem_range->TM,mem_zipIdx_iff_getElem?->VS,not_mem_nil->SL,range->TD,size_toArray->Tf
open _root_.Nat renaming Coprime->Xt,add_mod->VI,add_mul->Vb,add_mul_mod_self_left->XP,add_sub_cancel_left->VH,add_zero->Ur,ble_eq->Z2,dvd_of_mod_eq_zero->U1,dvd_trans->WF,eq_zero_of_dvd_of_lt->Wc,gcd->YT,gcd_dvd_left->Xr,gcd_dvd_right->WU,le_of_ble_eq_true->TY,le_of_dvd->Vn,le_refl->Se,le_total->ZJ,le_trans->SD,lt_of_lt_of_le->Si,lt_of_succ_le->UX,mod_add_mod->Zl,mod_eq_of_lt->SA,mod_eq_zero_of_dvd->VE,mod_lt->Ug,mod_mod->YS,mod_mod_of_dvd->WL,mod_mul_mod->Zk,mul_add->U4,mul_assoc->Uy,mul_comm->S9,mul_le_mul->T9,mul_left_comm->WT,mul_mod->UA,mul_one->UW,one_mul->UL,pow_add->Uz,pow_dvd_pow->Zi,pow_mod->Yq,pow_mul->WE,pow_one->V3,pow_succ->T8,pow_zero->UV,strongRecOn->Zh,zero_add->Sj,zero_le->Us,zero_mul->ZH,zero_pow->ZG
open _root_.Nat.Coprime renaming mul_dvd_of_dvd_of_dvd->Uj
open _root_.Option renaming isSome_iff_exists->SU,map_eq_some_iff->Sf,some->Td
open _root_.Or renaming inl->SY,inr->SJ
open _root_.Prod renaming mk->Ud
open Go.Proofs.Tryz (prog)
abbrev uZ(n:Int):YF:=.int .u64 n
abbrev iZ(n:Int):YF:=.int .i64 n
abbrev aZ(k:Nat):Go.Addr:=⟨k,0,none⟩
abbrev pZ(k:Nat):YF:=.pointer (some ⟨k,0,none⟩)
section
variable {P:Nat}[NeZero P]{N:Nat}
theorem oM{p:Prop}(h:p:=by omega):p:=h
theorem kR{p:Prop}(h:p:=by kernel_rfl):p:=h
theorem dC{p:Prop}(h:p:=by decide):p:=h
theorem dK{p:Prop}(h:p:=by decide +kernel):p:=h
end
section
open Go Go.RowKit
theorem hE{α:Sort _}(x:α):∃y,Hid (x=y):=⟨x,rfl⟩
theorem mk1{p:Prop}(h:p):Hid p:=h
theorem mk2{p0 p1:Prop}(h0:p0)(h1:p1):Hid (p0/\p1):=⟨h0,h1⟩
theorem mk3{p0 p1 p2:Prop}(h0:p0)(h1:p1)(h2:p2):Hid (p0/\p1/\p2):=⟨h0,h1,h2⟩
theorem mk4{p0 p1 p2 p3:Prop}(h0:p0)(h1:p1)(h2:p2)(h3:p3):Hid (p0/\p1/\p2/\p3):=⟨h0,h1,h2,h3⟩
theorem mk5{p0 p1 p2 p3 p4:Prop}(h0:p0)(h1:p1)(h2:p2)(h3:p3)(h4:p4):Hid (p0/\p1/\p2/\p3/\p4):=⟨h0,h1,h2,h3,h4⟩
theorem mk7{p0 p1 p2 p3 p4 p5 p6:Prop}(h0:p0)(h1:p1)(h2:p2)(h3:p3)(h4:p4)(h5:p5)(h6:p6):Hid (p0/\p1/\p2/\p3/\p4/\p5/\p6):=⟨h0,h1,h2,h3,h4,h5,h6⟩
theorem mk8{p0 p1 p2 p3 p4 p5 p6 p7:Prop}(h0:p0)(h1:p1)(h2:p2)(h3:p3)(h4:p4)(h5:p5)(h6:p6)(h7:p7):Hid (p0/\p1/\p2/\p3/\p4/\p5/\p6/\p7):=⟨h0,h1,h2,h3,h4,h5,h6,h7⟩
section
variable {P:Program}{ops:Array Oper}{rest:List Oper}{op:Oper}{a:Act}{w w':World}{Q:Exit->Act->World->Prop}{T:TypeId}{y:Operand}{g o:Nat}{cs:List Value}{v:Value}{ob:Obj}
theorem stR(t:Tmp)(hW:Hid (w.setCells g o cs=w'))(hv:Hid (.agg cs.toArray=v))(th:w.there g o cs.toArray.size)(hi:(P.info? T).map (·.size)=some cs.toArray.size)(h1:cs.toArray.all (·.oneCell')=true)(h:wpList P ops Q rest (a.put op.dst undef) w')(hgd:op.guard=none:=by rfl)(ho:op.op=.store T (.tmp t) y:=by rfl)(hx:a.eval (.tmp t)=.pointer (some ⟨g,o,none⟩):=by rfl)(hy:a.eval y=v:=by rfl):wpList P ops Q (op :: rest) a w:=
 wpList_store_mid hgd T (.tmp t) y ho g o cs.toArray hx (hy.trans hv.out.symm) th hi h1 (by rw[show cs.toArray.toList=cs from rfl,hW.out];exact h)
theorem ldR(t:Tmp)(hr:w.rangeAt g o cs)(hv:Hid (.agg cs.toArray=v))(hu:(P.underlying T).map (·.isRow)=some true)(hi:(P.info? T).map (·.size)=some cs.length)(h:wpList P ops Q rest (a.put op.dst v) w)(hgd:op.guard=none:=by rfl)(ho:op.op=.load T (.tmp t):=by rfl)(hx:a.eval (.tmp t)=.pointer (some ⟨g,o,none⟩):=by rfl):wpList P ops Q (op :: rest) a w:=by
 obtain⟨d,h1,h2⟩:=Sf.1 hu;exact wpList_load_mid hgd T (.tmp t) ho g o hx cs d hr h1 h2 hi (by rw[hv.out];exact h)
theorem alR(t:Tmp)(hg:Hid (w.heap.size=g))(hW:Hid (w.alloc ob=w'))(h:wpList P ops Q rest (a.put op.dst (pZ g)) w')(hd:op.dst=some t:=by rfl)(hgd:op.guard=none:=by rfl)(hr:(execOp a.eval op).run P w=.ok (.value (.pointer (some ⟨w.heap.size,0,none⟩))) (w.alloc ob):=by kernel_rfl):wpList P ops Q (op :: rest) a w:=
 wpList_plain hgd λK hK=>by
  unfold TZ;rw[hr,hg.out,hW.out];exact hK _ _ h
end
end
section
open Go.RowKit
variable {P:Nat}[NeZero P]{N:Nat}
def val(a b c d:Nat):Nat:=a+18446744073709551616*b+340282366920938463463374607431768211456*c+6277101735386680763835789423207666416102355444464034512896*d
def Four(v:Value)(n:Nat):Prop:=∃a b c d:Nat,v=.agg #[uZ a,uZ b,uZ c,uZ d] /\
 a<18446744073709551616/\b<18446744073709551616/\c<18446744073709551616/\d<18446744073709551616/\n=val a b c d
def top:Nat:=115792089237316195423570985008687907853269984665640564039457584007913129639936
theorem iF{a b c d:Nat}(ha:a<18446744073709551616)(hb:b<18446744073709551616)(hc:c<18446744073709551616)(hd:d<18446744073709551616):val a b c d<top:=by
 unfold val top;omega
theorem Four.lt{v:Value}{n:Nat}(h:Four v n):n<top:=by
 obtain⟨a,b,c,d,-,ha,hb,hc,hd,rfl⟩:=h;exact iF ha hb hc hd
theorem val_inj{a b c d p q r s:Nat}(ha:a<18446744073709551616)(hb:b<18446744073709551616)(hc:c<18446744073709551616)
 (hp:p<18446744073709551616) (hq:q<18446744073709551616) (hr:r<18446744073709551616) (h:val a b c d=val p q r s):a=p/\b=q/\c=r/\d=s:=by
 unfold val at h;omega
theorem Four.inj{v v':Value}{n:Nat}(h:Four v n)(h':Four v' n):v=v':=by
 obtain⟨a,b,c,d,rfl,ha,hb,hc,hd,e⟩:=h;obtain⟨p,q,r,s,rfl,hp,hq,hr,hs,e'⟩:=h';obtain⟨rfl,rfl,rfl,rfl⟩:=val_inj ha hb hc hp hq hr (e.symm.trans e');rfl
theorem Four.num{v:Value}{n m:Nat}(h:Four v n)(h':Four v m):n=m:=by
 obtain⟨a,b,c,d,rfl,ha,hb,hc,hd,rfl⟩:=h;obtain⟨p,q,r,s,e,hp,hq,hr,hs,rfl⟩:=h';simp only[Value.agg.injEq,Array.mk.injEq,List.cons.injEq,Value.int.injEq,true_and,and_true,Int.ofNat_inj]at e;obtain⟨rfl,rfl,rfl,rfl⟩:=e;rfl
theorem Four.mk{a b c d n:Nat}(ha:a<18446744073709551616)(hb:b<18446744073709551616)(hc:c<18446744073709551616)(hd:d<18446744073709551616)(hn:n=val a b c d):
 Four (.agg #[uZ a,uZ b,uZ c,uZ d]) n:=⟨a,b,c,d,rfl,ha,hb,hc,hd,hn⟩
theorem ret_int{k:IntKind}{a b:Int}(h:a=b):Ending.returned (.int k a)=.returned (.int k b):=by rw[h]
end
section
open Go.RowKit Go.Sort
variable {P:Nat}[NeZero P]{N:Nat}
theorem mixed:prog.follows .mixedOrders=true:=kR
theorem mQ(x y c:Nat)(hx:x<18446744073709551616)(hy:y<18446744073709551616)(hc:c<=1):
 ∃s k:Nat,(∀w,(callFunc 133 #[uZ x,uZ y,uZ c]).run prog w=.ok (.value (.tuple #[uZ s,uZ k])) w) /\
  s<18446744073709551616/\k<=1/\s+18446744073709551616*k=x+y+c:=by
 refine⟨(x+y+c)%18446744073709551616,(x+y+c)/18446744073709551616,λw=>?_,oM,oM,oM⟩;rw[run_callFunc_extern Tryz.func133 kR kR kR (e:=add64Entry) kR,run_add64 x y c oM oM oM oM];simp only[Xy]
 congr 5<;>omega
theorem jX(x y c:Nat)(hx:x<18446744073709551616)(hy:y<18446744073709551616)(hc:c<=1):
 ∃s k:Nat,(∀w,(callFunc 126 #[uZ x,uZ y,uZ c]).run prog w=.ok (.value (.tuple #[uZ s,uZ k])) w) /\
  s<18446744073709551616/\k<=1/\s+y+c=x+18446744073709551616*k:=by
 refine⟨(x+18446744073709551616-y-c)%18446744073709551616,if x<y+c then 1 else 0,λw=>?_,oM,by split<;>omega,by split<;>omega⟩;rw[run_callFunc_extern Tryz.func126 kR kR kR (e:=(Extern.MathBitsCarry.rows[1]).2) kR];have:c=0\/c=1:=oM;rcases this with rfl|rfl<;>rfl
theorem rX(x y:Nat)(hx:x<18446744073709551616)(hy:y<18446744073709551616):
 ∃s k:Nat,(∀w,(callFunc 133 #[uZ x,uZ y,uZ 0]).run prog w=.ok (.value (.tuple #[uZ s,uZ k])) w) /\
  s<18446744073709551616/\k<=1/\s+18446744073709551616*k=x+y:=mQ x y 0 hx hy (Us 1)
theorem yZ(x y:Nat)(hx:x<18446744073709551616)(hy:y<18446744073709551616):
 ∃s k:Nat,(∀w,(callFunc 126 #[uZ x,uZ y,uZ 0]).run prog w=.ok (.value (.tuple #[uZ s,uZ k])) w) /\
  s<18446744073709551616/\k<=1/\s+y=x+18446744073709551616*k:=jX x y 0 hx hy (Us 1)
theorem maskN(a:Nat)(ha:a<18446744073709551616):bits .and .u64 (a:Int) 4294967295=((a%4294967296:Nat):Int):=by
 have h:=bits_and_u64_nat a 4294967295 ha oM;rw[show a &&& 4294967295=a%4294967296 from Nat.and_two_pow_sub_one_eq_mod a 32]at h;exact h
theorem divN(a:Nat):(a:Int)/4294967296=((a/4294967296:Nat):Int):=oM
theorem mulN(a b:Nat):(a:Int)*(b:Int)=((a*b:Nat):Int):=(Int.natCast_mul a b).symm
theorem addN(a b:Nat):(a:Int)+(b:Int)=((a+b:Nat):Int):=(Int.natCast_add a b).symm
theorem wrapN(a:Nat)(ha:a<18446744073709551616):Ta.wrap (a:Int)=(a:Int):=by rw[Vz];omega
theorem wrapM(a:Nat):Ta.wrap (a:Int)=((a%18446744073709551616:Nat):Int):=by rw[Vz];omega
theorem N5(x y:Nat)(hx:x<18446744073709551616)(hy:y<18446744073709551616)(w:World):
 Calls prog 132 #[uZ x,uZ y] w λe w'=>e=.returned (.tuple #[uZ ((x*y/18446744073709551616:Nat):Int),uZ ((x*y%18446744073709551616:Nat):Int)])/\w'=w:=by
 obtain⟨bd,bt,bw,hhi⟩:=Lib.mul64_hi x y hx hy;have ba:=XD (a:=x/4294967296) (b:=y/4294967296) oM oM;have bb:=XD (a:=x/4294967296) (b:=y%4294967296) oM oM;have bc:=XD (a:=x%4294967296) (b:=y/4294967296) oM oM;have b1:x/4294967296*(y/4294967296)<18446744073709551616:=oM;have b2:x/4294967296*(y%4294967296)<18446744073709551616:=oM;have b3:x%4294967296*(y/4294967296)<18446744073709551616:=oM;have bh1:x/4294967296*(y/4294967296)+(x/4294967296*(y%4294967296)+x%4294967296*(y%4294967296)/4294967296)/4294967296<18446744073709551616:=oM;have bh:x/4294967296*(y/4294967296)+(x/4294967296*(y%4294967296)+x%4294967296*(y%4294967296)/4294967296)/4294967296+((x/4294967296*(y%4294967296)+x%4294967296*(y%4294967296)/4294967296)%4294967296+x%4294967296*(y/4294967296))/4294967296<18446744073709551616:=oM;go_enter Tryz.func132,Tryz.ntmps132;go_wp2;simp only[maskN x hx,maskN y hy,divN,mulN,addN,wrapN _ bd,wrapN _ b2,wrapN _ bt,maskN _ bt,wrapN _ b3,wrapN _ bw,wrapN _ b1,wrapN _ bh1,wrapN _ bh,wrapM (x*y)];rw[hhi]
 go_ret2
 exact⟨rfl,rfl⟩
theorem Ih(x y:Nat)(hx:x<18446744073709551616)(hy:y<18446744073709551616):
 ∃h l:Nat,(∀w,Calls prog 132 #[uZ x,uZ y] w λe w'=>e=.returned (.tuple #[uZ h,uZ l])/\w'=w) /\
  h<18446744073709551616/\l<18446744073709551616/\l+18446744073709551616*h=x*y:=by
 have hxy:x*y<=18446744073709551615*18446744073709551615:=T9 oM oM;exact⟨_,_,λw=>N5 x y hx hy w,oM,oM,oM⟩
theorem PU(x y:Nat)(hx:x<18446744073709551616)(hy:y<18446744073709551616)(w:World):
 Calls prog 132 #[uZ x,uZ y] w λe w'=>w'=w/\∃h l:Nat,e=.returned (.tuple #[uZ h,uZ l]) /\
  h<18446744073709551616/\l<18446744073709551616/\l+18446744073709551616*h=x*y:=by
 obtain⟨h,l,hc,h1,h2,h3⟩:=Ih x y hx hy;exact(hc w).mono λe w' he=>⟨he.2,h,l,he.1,h1,h2,h3⟩
theorem dD(x y o c:Nat)(hx:x<18446744073709551616)(hy:y<18446744073709551616)(ho:o<18446744073709551616)(hc:c<18446744073709551616):
 ∃h l s1 k1 s2 k2 g cy:Nat,(∀w,Calls prog 132 #[uZ x,uZ y] w λe w'=>e=.returned (.tuple #[uZ h,uZ l])/\w'=w) /\
  (∀w,(callFunc 133 #[uZ l,uZ c,uZ 0]).run prog w=.ok (.value (.tuple #[uZ s1,uZ k1])) w) /\
  (∀w,(callFunc 133 #[uZ o,uZ s1,uZ 0]).run prog w=.ok (.value (.tuple #[uZ s2,uZ k2])) w) /\
  Ta.wrap ((h:Int)+(k1:Int))=(g:Int)/\Ta.wrap ((g:Int)+(k2:Int))=(cy:Int) /\
  s2<18446744073709551616/\cy<18446744073709551616/\s2+18446744073709551616*cy=x*y+o+c:=by
 have hxy:x*y<=18446744073709551615*18446744073709551615:=T9 oM oM;obtain⟨h,l,hm,hh,hl,e1⟩:=Ih x y hx hy;obtain⟨s1,k1,a1,hs1,hk1,e2⟩:=rX l c hl hc;obtain⟨s2,k2,a2,hs2,hk2,e3⟩:=rX o s1 ho hs1;refine⟨h,l,s1,k1,s2,k2,h+k1,h+k1+k2,hm,a1,a2,?_,?_,hs2,oM,oM⟩
 ·rw[addN];exact wrapN _ oM
 ·rw[addN];exact wrapN _ oM
theorem qI(x y o c:Nat)(hx:x<18446744073709551616)(hy:y<18446744073709551616)(ho:o<18446744073709551616)(hc:c<18446744073709551616)(w:World):
 Calls prog 163 #[uZ x,uZ y,uZ o,uZ c] w λe w'=>w'=w/\∃l h:Nat,e=.returned (.tuple #[uZ l,uZ h]) /\
  h<18446744073709551616/\l<18446744073709551616/\l+18446744073709551616*h=x*y+o+c:=by
 have hxy:x*y<=18446744073709551615*18446744073709551615:=T9 oM oM;go_enter Tryz.func163,Tryz.ntmps163;go_wp2_with fail
 refine(PU x y hx hy _).mono ?_;rintro e w1 ⟨rfl,h,l,rfl,hh,hl,e1⟩;obtain⟨s1,k1,a1,hs1,hk1,e2⟩:=rX l o hl ho;obtain⟨s2,k2,a2,hs2,hk2,e3⟩:=rX s1 c hs1 hc;have w1:Ta.wrap ((h:Int)+(k1:Int))=((h+k1:Nat):Int):=by rw[addN];exact wrapN _ oM
 have w2:Ta.wrap (((h+k1:Nat):Int)+(k2:Int))=((h+k1+k2:Nat):Int):=by rw[addN];exact wrapN _ oM
 go_wp2
 go_ret2
 refine⟨rfl,s2,h+k1+k2,?_,oM,oM,oM⟩;rfl
def Ret(Q:Value->World->Prop)(e:Ending)(w:World):Prop:=∃v,e=.returned v/\Q v w
abbrev rZ(w:ZC)(Q:YF->ZC->Prop):Go.Ending->ZC->Prop:=Ret λe w'=>Go.RowKit.Below w.heap.size w w'/\Q e w'
theorem aB(w:World)(o1:Obj):Below w.heap.size w (w.alloc o1):=(Below.refl _ _).alloc (Se _) o1
theorem below2(w:World)(o1 o2:Obj):Below w.heap.size w ((w.alloc o1).alloc o2):=(aB w o1).alloc (by simp) o2
theorem below3(w:World)(o1 o2 o3:Obj):Below w.heap.size w (((w.alloc o1).alloc o2).alloc o3):=(below2 w o1 o2).alloc (by simp;omega) o3
theorem gK(w:World)(o1 o2 o3 o4:Obj):Below w.heap.size w ((((w.alloc o1).alloc o2).alloc o3).alloc o4):=(below3 w o1 o2 o3).alloc (by simp;omega) o4
theorem pJ(x y:Value)(m n:Nat)(hx:Four x m)(hy:Four y n)(w:World):
 Calls prog 103 #[x,y] w (rZ w λe w'=>∃(v:Value) (s k:Nat),e=.tuple #[v,uZ k]/\Four v s/\k<=1/\s+top*k=m+n):=by
 obtain⟨a,b,c,d,rfl,ha,hb,hc,hd,em⟩:=hx;obtain⟨p,q,r,s,rfl,hp,hq,hr,hs,en⟩:=hy;obtain⟨s0,k0,a0,hs0,hk0,e0⟩:=rX a p ha hp;obtain⟨s1,k1,a1,hs1,hk1,e1⟩:=mQ b q k0 hb hq hk0;obtain⟨s2,k2,a2,hs2,hk2,e2⟩:=mQ c r k1 hc hr hk1;obtain⟨s3,k3,a3,hs3,hk3,e3⟩:=mQ d s k2 hd hs hk2;have hv:val s0 s1 s2 s3+top*k3=m+n:=by rw[em,en];unfold val top;omega
 go_enter Tryz.func103,Tryz.ntmps103;go_wp2_with (first|simp only[a0]|simp only[a1]|simp only[a2]|simp only[a3])
 refine bodyPost_ret (v:=?v) ?hr rfl ?hR
 case hr=>simp[results,Tryz.results103,go_sem];rfl
 exact⟨_,rfl,below3 _ _ _ _,_,_,k3,rfl,Four.mk hs0 hs1 hs2 hs3 rfl,hk3,hv⟩
theorem rN(x y:Value)(m n:Nat)(hx:Four x m)(hy:Four y n)(w:World):
 Calls prog 141 #[x,y] w (rZ w λe w'=>∃(v:Value) (s k:Nat),e=.tuple #[v,uZ k]/\Four v s/\k<=1/\s+n=m+top*k):=by
 obtain⟨a,b,c,d,rfl,ha,hb,hc,hd,em⟩:=hx;obtain⟨p,q,r,s,rfl,hp,hq,hr,hs,en⟩:=hy;obtain⟨s0,k0,a0,hs0,hk0,e0⟩:=yZ a p ha hp;obtain⟨s1,k1,a1,hs1,hk1,e1⟩:=jX b q k0 hb hq hk0;obtain⟨s2,k2,a2,hs2,hk2,e2⟩:=jX c r k1 hc hr hk1;obtain⟨s3,k3,a3,hs3,hk3,e3⟩:=jX d s k2 hd hs hk2;have hv:val s0 s1 s2 s3+n=m+top*k3:=by rw[em,en];unfold val top;omega
 go_enter Tryz.func141,Tryz.ntmps141;go_wp2_with (first|simp only[a0]|simp only[a1]|simp only[a2]|simp only[a3])
 refine bodyPost_ret (v:=?v) ?hr rfl ?hR
 case hr=>simp[results,Tryz.results141,go_sem];rfl
 exact⟨_,rfl,below3 _ _ _ _,_,_,k3,rfl,Four.mk hs0 hs1 hs2 hs3 rfl,hk3,hv⟩
theorem iW(x:Value)(m:Nat)(hx:Four x m)(w:World):
 Calls prog 104 #[x] w (rZ w λe w'=>e=x):=by
 obtain⟨a,b,c,d,rfl,ha,hb,hc,hd,em⟩:=hx;go_enter Tryz.func104,Tryz.ntmps104;go_wp2;refine bodyPost_ret (v:=?v) ?hr rfl ?hR
 case hr=>simp[results,Tryz.results104,go_sem];rfl
 exact⟨_,rfl,below2 _ _ _,rfl⟩
theorem iS(x:Value)(m:Nat)(hx:Four x m)(w:World):
 Calls prog 108 #[x] w (rZ w λe w'=>e=x):=by
 obtain⟨a,b,c,d,rfl,ha,hb,hc,hd,em⟩:=hx;go_enter Tryz.func108,Tryz.ntmps108;go_wp2;refine bodyPost_ret (v:=?v) ?hr rfl ?hR
 case hr=>simp[results,Tryz.results108,go_sem];rfl
 exact⟨_,rfl,below2 _ _ _,rfl⟩
theorem zM(x a b c d:Nat):x*val a b c d=val (x*a) (x*b) (x*c) (x*d):=by
 unfold val;rw[U4,U4,U4,WT x _ b,WT x _ c,WT x _ d]
theorem oQ{x a b c d p q r s l0 l1 l2 l3 h0 h1 h2 h3 m n:Nat}(em:m=val a b c d)(en:n=val p q r s)
 (e0:l0+18446744073709551616*h0=x*a+p+0) (e1:l1+18446744073709551616*h1=x*b+q+h0)
 (e2:l2+18446744073709551616*h2=x*c+r+h1) (e3:l3+18446744073709551616*h3=x*d+s+h2) :
 l0+18446744073709551616*val l1 l2 l3 h3=x*m+n:=by
 rw[em,en,zM x a b c d];unfold val;omega
theorem jG(x:Nat)(y z:Value)(m n:Nat)(hx:x<18446744073709551616)(hy:Four y m)(hz:Four z n)(w:World):
 Calls prog 139 #[uZ x,y,z] w (rZ w λe w'=>∃(l:Nat) (v:Value) (s:Nat),e=.tuple #[uZ l,v]/\l<18446744073709551616/\Four v s/\l+18446744073709551616*s=x*m+n):=by
 obtain⟨a,b,c,d,rfl,ha,hb,hc,hd,em⟩:=hy;obtain⟨p,q,r,s,rfl,hp,hq,hr,hs,en⟩:=hz;go_enter Tryz.func139,Tryz.ntmps139;go_wp2_with fail
 refine(qI x a p 0 hx ha hp dC _).mono ?_;rintro e w1 ⟨rfl,l0,h0,rfl,hh0,hl0,e0⟩;go_wp2_with fail
 refine(qI x b q h0 hx hb hq hh0 _).mono ?_;rintro e w1 ⟨rfl,l1,h1,rfl,hh1,hl1,e1⟩;go_wp2_with fail
 refine(qI x c r h1 hx hc hr hh1 _).mono ?_;rintro e w1 ⟨rfl,l2,h2,rfl,hh2,hl2,e2⟩;go_wp2_with fail
 refine(qI x d s h2 hx hd hs hh2 _).mono ?_;rintro e w1 ⟨rfl,l3,h3,rfl,hh3,hl3,e3⟩;go_wp2;refine bodyPost_ret (v:=?v) ?hr rfl ?hR
 case hr=>simp[results,Tryz.results139,go_sem];rfl
 exact⟨_,rfl,below3 _ _ _ _,l0,_,_,rfl,hl0,Four.mk hl1 hl2 hl3 hh3 rfl,oQ em en e0 e1 e2 e3⟩
end
namespace RG
open Go Go.RowKit
inductive SV where
 | v (x:Value)
 | p (b o:Nat)
 | s (b n c:Nat)
 | t (b n c:Nat) (y:Value)
def SV.at(μ:Nat->Nat):SV->Value
 | .v x=>x
 | .p b o=>.pointer (some ⟨μ b,o,none⟩)
 | .s b n c=>.slice (some ⟨μ b,0,none⟩) n c
 | .t b n c y=>.tuple #[.slice (some ⟨μ b,0,none⟩) n c,y]
def SV.blk:SV->Option Nat
 | .v _=>none
 | .p b _=>some b
 | .s b _ _=>some b
 | .t b _ _ _=>some b
theorem SV.at_congr{μ ν:Nat->Nat}{s:SV}(h:∀b,s.blk=some b->μ b=ν b):s.at μ=s.at ν:=by
 cases s with
 | v x=>rfl
 | p b o=>show Zs (some ⟨μ b,o,none⟩)=.pointer (some ⟨ν b,o,none⟩);rw[h b rfl]
 | s b n c=>show Tk (some ⟨μ b,0,none⟩) n c=.slice (some ⟨ν b,0,none⟩) n c;rw[h b rfl]
 | t b n c y=>show Value.tuple #[.slice (some ⟨μ b,0,none⟩) n c,y]=.tuple #[.slice (some ⟨ν b,0,none⟩) n c,y];rw[h b rfl]
inductive Kind where
 | stay
 | pass
 | call
 | make (b:Nat)
 | put (b:Nat)
structure It where
 dst:Option Tmp
 need:List (Tmp × Nat)
 out:SV
 kind:Kind
structure Bl where
 before:List Value
 after:List Value
 al:Option Nat
 st:Option Nat
def on(L:Array Bool)(i:Nat):Bool:=L.getD i false
def Bl.live(e:Bl)(L:Array Bool):Bool:=(e.al.map (on L)).getD true
def Bl.put(e:Bl)(L:Array Bool):Bool:=(e.st.map (on L)).getD false
def Bl.now(e:Bl)(L:Array Bool):List Value:=if e.put L=true then e.after else e.before
theorem eV{L:Array Bool}{i j:Nat}(h:i<L.size):on (L.setIfInBounds i true) j=(on L j || i == j):=by
 unfold on;simp only[Sz,Um];by_cases hij:i=j
 ·subst hij;simp[h]
 ·simp[hij]
theorem iE{e:Bl}{L:Array Bool}{i:Nat}(h:i<L.size):e.live (L.setIfInBounds i true)=(e.live L || e.al == some i):=by
 unfold Bl.live;cases ha:e.al with
 | none=>rfl
 | some j =>
  show on _ j=(on L j || _);rw[eV h];by_cases hij:i=j
  ·subst hij;simp
  ·have h1:(i == j)=false:=by simpa using hij
   have h2:(some j == some i)=false:=by simpa using λh=>hij h.symm
   rw[h1,h2]
theorem jK{e:Bl}{L:Array Bool}{i:Nat}(h:i<L.size):e.put (L.setIfInBounds i true)=(e.put L || e.st == some i):=by
 unfold Bl.put;cases ha:e.st with
 | none=>rfl
 | some j =>
  show on _ j=(on L j || _);rw[eV h];by_cases hij:i=j
  ·subst hij;simp
  ·have h1:(i == j)=false:=by simpa using hij
   have h2:(some j == some i)=false:=by simpa using λh=>hij h.symm
   rw[h1,h2]
theorem range_below{B k o:Nat}{w w':World}{cs:List Value}(h:w.rangeAt k o cs)(hb:Below B w w')(hk:k<B):w'.rangeAt k o cs:=λj v hv=>by
 rw[hb.cell (p:=⟨k,o+j,none⟩) hk];exact h j v hv
theorem eA{B k o n:Nat}{w w':World}(h:w.there k o n)(hb:Below B w w')(hk:k<B):w'.there k o n:=λj hj=>by
 rw[hb.cell (p:=⟨k,o+j,none⟩) hk,hb.frozen (p:=⟨k,o+j,none⟩) hk];exact h j hj
theorem below_setCells{B k:Nat}{w0:World}(hk:B<=k):∀(vs:List Value) (o:Nat) (w:World),Below B w0 w->Below B w0 (w.setCells k o vs)
 | [],_,_,h=>h
 | v :: r,o,w,h=>below_setCells hk r (o+1) _ (h.setCell (p:=⟨k,o,none⟩) hk v)
theorem setCells_size(k:Nat):∀(vs:List Value) (o:Nat) (w:World),(w.setCells k o vs).heap.size=w.heap.size
 | [],_,_=>rfl
 | v :: r,o,w=>by
  rw[XB,setCells_size k r (o+1)];simp[World.setCell]
theorem there_setCells{k b o n:Nat}:∀(vs:List Value) (i:Nat) (w:World),w.there b o n->(w.setCells k i vs).there b o n
 | [],_,_,h=>h
 | v :: r,i,w,h=>there_setCells r (i+1) _ λj hj=>⟨World.isSome_setCells k [v] i w _ (h j hj).1,by rw[S3];exact(h j hj).2⟩
structure BelX(k0:Nat)(X:List Nat)(w w':World):Prop where
 os:w'.os=w.os
 tape:w'.tape=w.tape
 output:w'.output=w.output
 size:w.heap.size<=w'.heap.size
 block:∀j,j<k0->j ∉ X->w'.heap[j]? = w.heap[j]?
theorem BelX.below{k0:Nat}{w w':World}(h:BelX k0 [] w w'):Below k0 w w':=⟨h.os,h.tape,h.output,h.size,λj hj=>h.block j hj SL⟩
theorem BelX.drew{k0:Nat}{X:List Nat}{w w':World}(h:BelX k0 X w w'):BelX k0 X w w'.drew:=⟨h.os,h.tape,h.output,h.size,h.block⟩
theorem BelX.refl(k0:Nat)(X:List Nat)(w:World):BelX k0 X w w:=⟨rfl,rfl,rfl,Se _,λ_ _ _=>rfl⟩
theorem BelX.trans{k0:Nat}{X:List Nat}{a b c:World}(h:BelX k0 X a b)(k:BelX k0 X b c):BelX k0 X a c:=
 ⟨k.os.trans h.os,k.tape.trans h.tape,k.output.trans h.output,SD h.size k.size,λi hi hx=>(k.block i hi hx).trans (h.block i hi hx)⟩
structure Wd(w0:World)(k0:Nat)(X:List Nat)(bl:List Bl)(L:Array Bool)(μ:Nat->Nat)(w:World):Prop where
 bel:BelX k0 X w0 w
 le:k0<=w.heap.size
 has:∀(b:Nat) (e:Bl),bl[b]? = some e->e.live L=true->w.rangeAt (μ b) 0 (e.now L)/\w.there (μ b) 0 e.before.length/\μ b<w.heap.size/\(k0<=μ b\/μ b∈X)
 inj:∀(b c:Nat) (e f:Bl),bl[b]? = some e->bl[c]? = some f->e.live L=true->f.live L=true->b≠c->μ b≠μ c
variable {w0 w w':World}{k0:Nat}{X:List Nat}{bl:List Bl}{L:Array Bool}{μ:Nat->Nat}
theorem Wd.same{L':Array Bool}(h:Wd w0 k0 X bl L μ w)(hl:∀(b:Nat) (e:Bl),bl[b]? = some e->e.live L'=e.live L/\e.put L'=e.put L):Wd w0 k0 X bl L' μ w:=by
 refine⟨h.bel,h.le,λb e hb hv=>?_,λb c e f hb hc he hf=>h.inj b c e f hb hc ((hl b e hb).1 ▸ he) ((hl c f hc).1 ▸ hf)⟩;have:=h.has b e hb ((hl b e hb).1 ▸ hv);unfold Bl.now at this⊢;rw[(hl b e hb).2];exact this
theorem Wd.call(h:Wd w0 k0 X bl L μ w)(hb:Below w.heap.size w w'):Wd w0 k0 X bl L μ w':=by
 refine⟨h.bel.trans ⟨hb.os,hb.tape,hb.output,hb.size,λk hk _=>hb.block k (Si hk h.le)⟩,SD h.le hb.size,λb e hbe hv=>?_,h.inj⟩;obtain⟨h1,h2,h3,h4⟩:=h.has b e hbe hv;exact⟨range_below h1 hb h3,eA h2 hb h3,Si h3 hb.size,h4⟩
def upd(μ:Nat->Nat)(b k:Nat):Nat->Nat:=λc=>if c=b then k else μ c
structure Made(w:World)(k:Nat)(c:List Value)(w':World):Prop where
 bel:Below w.heap.size w w'
 le:w.heap.size<=k
 lt:k<w'.heap.size
 range:w'.rangeAt k 0 c
 there:w'.there k 0 c.length
theorem Made.alloc(w:World)(c:List Value)(t:TypeId):Made w w.heap.size c (w.alloc (.cells c.toArray t)):=by
 refine⟨aB w _,Se _,by rw[Sq];omega,λj v hj=>?_,λj hj=>⟨?_,TU _ _ _ _⟩⟩
 ·rw[Sj,S5];simpa using hj
 ·rw[Sj,S5];simp[hj]
theorem Wd.make{i b k:Nat}{e:Bl}(h:Wd w0 k0 X bl L μ w)(hi:i<L.size)(hb:bl[b]? = some e)(ha:e.al=some i)(hne:∀(c:Nat) (f:Bl),bl[c]? = some f->c≠b->f.al≠some i)
 (hst:∀(c:Nat) (f:Bl),bl[c]? = some f->f.st≠some i) (hp:e.put L=false) (hm:Made w k e.before w') :
 Wd w0 k0 X bl (L.setIfInBounds i true) (upd μ b k) w':=by
 have hput:∀(c:Nat) (f:Bl),bl[c]? = some f->f.put (L.setIfInBounds i true)=f.put L:=λc f hc=>by
  rw[jK hi,show(f.st == some i)=false by simpa using hst c f hc,Ui]
 have hliv:∀(c:Nat) (f:Bl),bl[c]? = some f->c≠b->f.live (L.setIfInBounds i true)=f.live L:=λc f hc hcb=>by
  rw[iE hi,show(f.al == some i)=false by simpa using hne c f hc hcb,Ui]
 have hold:∀(c:Nat) (f:Bl),bl[c]? = some f->c≠b->f.live (L.setIfInBounds i true)=true->μ c<w.heap.size:=λc f hc hcb hv=>(h.has c f hc (hliv c f hc hcb ▸ hv)).2.2.1
 have hal:=hm.bel;have hmk:=hm.le;refine⟨h.bel.trans ⟨hal.os,hal.tape,hal.output,hal.size,λk hk _=>hal.block k (Si hk h.le)⟩,SD h.le hal.size,λc f hc hv=>?_,λc d f g hc hd hf hg hcd=>?_⟩
 ·by_cases hcb:c=b
  ·subst hcb;rw[hb]at hc;obtain rfl:e=f:=Td.inj hc;have hn:e.now (L.setIfInBounds i true)=e.before:=by unfold Bl.now;rw[hput c e hb,hp];rfl
   rw[hn];unfold upd;rw[if_pos rfl];exact⟨hm.range,hm.there,hm.lt,SY (SD h.le hmk)⟩
  ·obtain⟨h1,h2,h3,h4⟩:=h.has c f hc (hliv c f hc hcb ▸ hv);unfold upd;rw[if_neg hcb];have hn:f.now (L.setIfInBounds i true)=f.now L:=by unfold Bl.now;rw[hput c f hc]
   rw[hn];exact⟨range_below h1 hal h3,eA h2 hal h3,Si h3 hal.size,h4⟩
 ·unfold upd;by_cases hcb:c=b
  ·subst hcb;rw[if_pos rfl,if_neg (λh=>hcd h.symm)];exact Nat.ne_of_gt (Si (hold d g hd (λh=>hcd h.symm) hg) hmk)
  ·by_cases hdb:d=b
   ·subst hdb;rw[if_pos rfl,if_neg hcb];exact Nat.ne_of_lt (Si (hold c f hc hcb hf) hmk)
   ·rw[if_neg hcb,if_neg hdb];exact h.inj c d f g hc hd (hliv c f hc hcb ▸ hf) (hliv d g hd hdb ▸ hg) hcd
structure PutTo(k n:Nat)(cs:List Value)(w w':World):Prop where
 os:w'.os=w.os
 tape:w'.tape=w.tape
 output:w'.output=w.output
 size:w.heap.size<=w'.heap.size
 block:∀j,j<w.heap.size->j≠k->w'.heap[j]? = w.heap[j]?
 range:w'.rangeAt k 0 cs
 there:w'.there k 0 n
theorem aS(k:Nat):∀(vs:List Value) (o:Nat) (w:World) (j:Nat),j≠k->(w.setCells k o vs).heap[j]? = w.heap[j]?
 | [],_,_,_,_=>rfl
 | v :: r,o,w,j,h=>by
  rw[XB,aS k r (o+1) _ j h,Below.heap_setCell _ _ _ _ h]
theorem sH(k:Nat):∀(vs:List Value) (o:Nat) (w:World),(w.setCells k o vs).os=w.os/\(w.setCells k o vs).tape=w.tape/\(w.setCells k o vs).output=w.output
 | [],_,_=>⟨rfl,rfl,rfl⟩
 | v :: r,o,w=>by rw[XB];exact sH k r (o+1) _
theorem PutTo.store{k n o:Nat}{before after vs:List Value}(ht:w.there k 0 n)(hr:w.rangeAt k 0 before)(hl:o+vs.length<=n)(ha:∀j,after[j]? = if o<=j/\j<o+vs.length then vs[j-o]? else before[j]?):PutTo k n after w (w.setCells k o vs):=by
 obtain⟨h1,h2,h3⟩:=sH k vs o w;refine⟨h1,h2,h3,by rw[setCells_size];exact Se _,λj _ hj=>aS k vs o w j hj,λj v hv=>?_,there_setCells _ _ _ ht⟩;have hto:w.there k o vs.length:=λj hj=>by have:=ht (o+j) oM;rwa[Sj]at this
 rw[ha j]at hv;rw[Sj];by_cases hj:o<=j/\j<o+vs.length
 ·rw[if_pos hj]at hv;have:=World.rangeAt_setCells_same w k o vs hto (j-o) v hv;rwa[show o+(j-o)=j by omega]at this
 ·rw[if_neg hj]at hv;have h5:w.rangeAt k j [v]:=λi u hu=>by
   cases i with
   | zero =>
    obtain rfl:v=u:=by simpa using hu
    have:=hr j v hv;rwa[Sj]at this
   | succ i=>simp at hu
  have h6:=World.rangeAt_setCells_apart h5 k o vs (SJ (by simp only[Tc,UE];omega));have:=h6 0 v rfl;exact this
theorem PutTo.whole{k:Nat}{before after:List Value}(ht:w.there k 0 before.length)(hr:w.rangeAt k 0 before)(hl:after.length=before.length):PutTo k before.length after w (w.setCells k 0 after):=
 PutTo.store ht hr oM (λj=>by
  by_cases hj:0<=j/\j<0+after.length
  ·rw[if_pos hj];rfl
  ·rw[if_neg hj,UO oM,UO oM])
theorem Wd.put{i b:Nat}{e:Bl}(h:Wd w0 k0 X bl L μ w)(hi:i<L.size)(hb:bl[b]? = some e)(hs:e.st=some i)(hv:e.live L=true)(hp:PutTo (μ b) e.before.length e.after w w')
 (hne:∀(c:Nat) (f:Bl),bl[c]? = some f->c≠b->f.st≠some i) (hal:∀(c:Nat) (f:Bl),bl[c]? = some f->f.al≠some i) :
 Wd w0 k0 X bl (L.setIfInBounds i true) μ w':=by
 have hliv:∀(c:Nat) (f:Bl),bl[c]? = some f->f.live (L.setIfInBounds i true)=f.live L:=λc f hc=>by
  rw[iE hi,show(f.al == some i)=false by simpa using hal c f hc,Ui]
 obtain⟨g1,g2,g3,g4⟩:=h.has b e hb hv;have hle:=h.le;refine⟨h.bel.trans ⟨hp.os,hp.tape,hp.output,hp.size,λj hj hx=>hp.block j oM (λe=>g4.elim (λh=>oM) (λh=>hx (e ▸ h)))⟩,SD h.le hp.size,λc f hc hvc=>?_,λc d f g hc hd hf hg=>h.inj c d f g hc hd (hliv c f hc ▸ hf) (hliv d g hd ▸ hg)⟩;rw[hliv c f hc]at hvc;obtain⟨h1,h2,h3,h4⟩:=h.has c f hc hvc;by_cases hcb:c=b
 ·subst hcb;rw[hb]at hc;obtain rfl:e=f:=Td.inj hc;have hn:e.now (L.setIfInBounds i true)=e.after:=by
   unfold Bl.now;rw[jK hi,hs];simp
  rw[hn];exact⟨hp.range,hp.there,Si h3 hp.size,h4⟩
 ·have hn:f.now (L.setIfInBounds i true)=f.now L:=by
   unfold Bl.now;rw[jK hi,show(f.st == some i)=false by simpa using hne c f hc hcb,Ui]
  rw[hn];have hsame:=hp.block (μ c) h3 (h.inj c b f e hc hb hvc hv hcb);refine⟨λj v hj=>?_,λj hj=>?_,Si h3 hp.size,h4⟩
  ·rw[SR (w:=w) (a:=⟨μ c,0+j,none⟩) hsame];exact h1 j v hj
  ·rw[SR (w:=w) (a:=⟨μ c,0+j,none⟩) hsame,World.frozen?_of_block (w:=w) (a:=⟨μ c,0+j,none⟩) hsame];exact h2 j hj
end RG
namespace RG
open Go Go.RowKit
variable {P:Program}{ops:Array Oper}{Q:Exit->Act->World->Prop}{w0 w:World}{k0:Nat}{X:List Nat}{its:List It}{bl:List Bl}{olds:List (Tmp × SV)}{a0:Act}{L:Array Bool}{μ μ' μ0:Nat->Nat}
structure Ac(its:List It)(bl:List Bl)(a0:Act)(L:Array Bool)(μ:Nat->Nat)(a:Act):Prop where
 defers:a.defers=a0.defers
 size:a.tmps.size=a0.tmps.size
 got:∀(i:Nat) (it:It) (d:Tmp),its[i]? = some it->on L i=true->it.dst=some d->a.tmps[d]? = some (it.out.at μ)/\∀b,it.out.blk=some b->∃e:Bl,bl[b]? = some e/\e.live L=true
 rest:∀t:Tmp,(∀(i:Nat) (it:It),its[i]? = some it->on L i=true->it.dst≠some t)->a.tmps[t]? = a0.tmps[t]?
def bU(o:Oper)(j:Nat):Bool:=o.after.any (λe=>TR .any e && e.on == j)
def Et(ops:Array Oper)(its:List It)(i:Nat)(t:Tmp):Bool:=its.zipIdx.all (λx=>x.1.dst != some t || (match ops[x.2]? with|some o=>bU o i|none=>false))
def Known(ops:Array Oper)(i:Nat)(its:List It)(olds:List (Tmp × SV))(need:List (Tmp × Nat))(μ:Nat->Nat)(a:Act):Prop:=
 (∀(t:Tmp) (j:Nat) (it:It),(t,j)∈need->its[j]? = some it->a.eval (.tmp t)=it.out.at μ)/\(∀(t:Tmp) (s:SV),(t,s)∈olds->Et ops its i t=true->a.eval (.tmp t)=s.at μ)
def readB(ops:Array Oper)(i:Nat)(e:Bl):Bool:=match e.st with|none=>true|some s=>match ops[s]? with|some o=>bU o i|none=>false
def Reads(ops:Array Oper)(i:Nat)(bl:List Bl)(μ:Nat->Nat)(w:World):Prop:=∀(b:Nat) (e:Bl),bl[b]? = some e->(e.al=none\/∃(o:Oper) (j:Nat),ops[i]? = some o/\e.al=some j/\bU o j=true)->readB ops i e=true->w.rangeAt (μ b) 0 e.before
def Does(P:Program)(Q:Exit->Act->World->Prop)(bl:List Bl)(o:Oper)(it:It)(μ:Nat->Nat)(a:Act)(w:World)(K:Act->World->Prop):Kind->Prop
 | .stay=>K (a.put o.dst (it.out.at μ)) w->o.wp P a w K Q
 | .pass=>it.out=.v undef
 | .call=>(∀w',Below w.heap.size w w'->K (a.put o.dst (it.out.at μ)) w')->o.wp P a w K Q
 | .make b=>∀e:Bl,bl[b]? = some e->(∀(k:Nat) (w':World),Made w k e.before w'->K (a.put o.dst (it.out.at (upd μ b k))) w')->o.wp P a w K Q
 | .put b=>∀e:Bl,bl[b]? = some e->w.there (μ b) 0 e.before.length->w.rangeAt (μ b) 0 e.before->(∀w',PutTo (μ b) e.before.length e.after w w'->K (a.put o.dst (it.out.at μ)) w')->o.wp P a w K Q
def Cert(P:Program)(Q:Exit->Act->World->Prop)(w0:World)(k0:Nat)(X:List Nat)(ops:Array Oper)(i:Nat)(its:List It)(bl:List Bl)(olds:List (Tmp × SV))(o:Oper)(it:It):Prop:=
 ∀(μ:Nat->Nat) (a:Act) (w:World) (K:Act->World->Prop),Known ops i its olds it.need μ a->Reads ops i bl μ w->BelX k0 X w0 w->Does P Q bl o it μ a w K it.kind
def Iq(its:List It)(bl:List Bl)(o:Oper)(it:It)(b:Nat):Bool:=
 (match bl[b]? with|some e=>(match e.al with|none=>true|some j=>bU o j)|none=>false) || it.need.any (λx=>bU o x.2 && (match its[x.2]? with|some jt=>jt.dst.isSome && jt.out.blk == some b|none=>false))
def yC(its:List It)(bl:List Bl)(i:Nat)(o:Oper)(it:It):Kind->Bool
 | .stay | .pass | .call=>bl.all (λe=>e.al != some i && e.st != some i) && (match it.out.blk with|none=>true|some b=>Iq its bl o it b)
 | .make b=>(match it.out.blk with|some c=>c == b|none=>false) && bl.zipIdx.all (λx=>x.1.st != some i && (x.1.al == some i) == (x.2 == b)) && (bl[b]?).isSome
 | .put b=>(match it.out with | .v _=>true|_=>false) && bl.zipIdx.all (λx=>x.1.al != some i && (x.1.st == some i) == (x.2 == b)) && (match bl[b]? with|some e=>(match e.al with|none=>true|some j=>bU o j)|none=>false)
def Kind.isPass:Kind->Bool
 | .pass=>true
 | _=>false
def ID(its:List It)(o:Oper)(it:It):Bool:=
 match o.guard with
 | none=>!it.kind.isPass
 | some (j,want)=>bU o j && (match its[j]? with|some jt=>jt.dst.isSome && (match jt.out with | .v (.bool b)=>(b == want) == !it.kind.isPass|_=>false)|none=>false)
def okB(its:List It)(bl:List Bl)(i:Nat)(o:Oper)(it:It):Bool:=
 (o.dst == it.dst) && ID its o it && o.after.all (λe=>!TR .any e || e.on<i) && it.need.all (λtj=>bU o tj.2 && ((its[tj.2]?).bind (·.dst)) == some tj.1) && yC its bl i o it it.kind
def xC:List It->Bool
 | []=>true
 | it :: r=>(match it.dst with|none=>true|some d=>r.all (λjt=>jt.dst != some d)) && xC r
def Rk(bl:List Bl)(olds:List (Tmp × SV)):Bool:=
 olds.all (λx=>(match x.2.blk with|none=>true|some b=>match bl[b]? with|some e=>e.al.isNone|none=>false))
def allB(ops:Array Oper)(its:List It)(bl:List Bl)(olds:List (Tmp × SV))(n:Nat):Bool:=
 ops.size == its.length && xC its && Rk bl olds && its.all (λit=>match it.dst with|none=>true|some d=>d<n) &&
 (TD its.length).all (λi=>match ops[i]?,its[i]? with|some o,some it=>okB its bl i o it|_,_=>false)
theorem IW:∀ {its:List It},xC its=true->∀(i j:Nat) (it jt:It) (d:Tmp),its[i]? = some it->its[j]? = some jt->it.dst=some d->jt.dst=some d->i=j
 | [],_,i,_,_,_,_,h,_,_,_=>by simp at h
 | x :: r,h,i,j,it,jt,d,hi,hj,di,dj=>by
  simp only[xC,SC]at h;match i,j with
  | 0,0=>rfl
  | 0,j+1 =>
   simp only[Vu,Td.injEq]at hi;simp only[UU]at hj;subst hi;rw[di]at h;have:=S4.1 h.1 jt (TO hj);rw[dj]at this;simp at this
  | i+1,0 =>
   simp only[Vu,Td.injEq]at hj;simp only[UU]at hi;subst hj;rw[dj]at h;have:=S4.1 h.1 it (TO hi);rw[di]at this;simp at this
  | i+1,j+1 =>
   simp only[UU]at hi hj;rw[IW h.2 i j it jt d hi hj di dj]
theorem m6{e:Bl}{i:Nat}(hi:i<L.size)(h:e.live L=true):e.live (L.setIfInBounds i true)=true:=by rw[iE hi,h,Vm]
theorem Ac.put{a:Act}{i:Nat}{it:It}(h:Ac its bl a0 L μ a)(hd:xC its=true)(hi:i<L.size)(hit:its[i]? = some it)(hμ:∀(b:Nat) (e:Bl),bl[b]? = some e->e.live L=true->μ' b=μ b)
 (hin:∀d,it.dst=some d->d<a0.tmps.size) (hl:∀d,it.dst=some d->∀b,it.out.blk=some b->∃e:Bl,bl[b]? = some e/\e.live (L.setIfInBounds i true)=true)
 (v:Value) (hv:∀d,it.dst=some d->v=it.out.at μ'):Ac its bl a0 (L.setIfInBounds i true) μ' (a.put it.dst v):=by
 have hsame:∀(j:Nat) (jt:It) (d:Tmp),its[j]? = some jt->on L j=true->jt.dst=some d->a.tmps[d]? = some (jt.out.at μ')/\∀b,jt.out.blk=some b->∃e:Bl,bl[b]? = some e/\e.live (L.setIfInBounds i true)=true:=λj jt d hj ho hjd=>by
  obtain⟨h1,h2⟩:=h.got j jt d hj ho hjd;refine⟨?_,λb hbo=>?_⟩
  ·rw[h1]
   congr 1
   refine SV.at_congr λb hb=>?_
   obtain⟨e,he,hl⟩:=h2 b hb;rw[hμ b e he hl]
  ·obtain⟨e,he,hl⟩:=h2 b hbo;exact⟨e,he,m6 hi hl⟩
 cases hdst:it.dst with
 | none =>
  show Ac its bl a0 _ μ' a;refine⟨h.defers,h.size,λj jt d hj ho hjd=>?_,λt ht=>h.rest t λj jt hj ho=>ht j jt hj (by rw[eV hi,ho,Vm])⟩;rw[eV hi]at ho;by_cases hij:i=j
  ·subst hij;rw[hit]at hj;obtain rfl:it=jt:=Td.inj hj;rw[hdst]at hjd;cases hjd
  ·exact hsame j jt d hj (by simpa[hij]using ho) hjd
 | some d0 =>
  have hd0:=hin d0 hdst;refine⟨h.defers,?_,λj jt d hj ho hjd=>?_,λt ht=>?_⟩
  ·show(a.tmps.setIfInBounds d0 v).size=_;rw[Tg];exact h.size
  ·show(a.tmps.setIfInBounds d0 v)[d]? = _/\_;rw[Um];rw[eV hi]at ho;by_cases hij:i=j
   ·subst hij;rw[hit]at hj;obtain rfl:it=jt:=Td.inj hj;rw[hdst]at hjd;obtain rfl:d0=d:=Td.inj hjd;rw[if_pos rfl,if_pos (by rw[h.size];exact hd0),hv d0 hdst];exact⟨rfl,hl d0 hdst⟩
   ·have hne:d0≠d:=λhdd=>hij (IW hd i j it jt d0 hit hj hdst (hdd ▸ hjd))
    rw[if_neg hne];exact hsame j jt d hj (by simpa[hij]using ho) hjd
  ·show(a.tmps.setIfInBounds d0 v)[t]? = _;have hne:d0≠t:=λhdt=>ht i it hit (by rw[eV hi];simp) (by rw[hdst,hdt])
   rw[Um,if_neg hne];exact h.rest t λj jt hj ho=>ht j jt hj (by rw[eV hi,ho,Vm])
structure Inv(ops:Array Oper)(its:List It)(bl:List Bl)(a0:Act)(w0:World)(k0:Nat)(X:List Nat)(μ0:Nat->Nat)(L:Array Bool)(a:Act)(w:World):Prop where
 size:L.size=its.length
 cl:∀(i:Nat) (o:Oper),ops[i]? = some o->on L i=true->∀e∈o.after,TR .any e=true->on L e.on=true
 all:∃μ,(∀(b:Nat) (e:Bl),bl[b]? = some e->e.al=none->μ b=μ0 b)/\Ac its bl a0 L μ a/\Wd w0 k0 X bl L μ w/\∀(b:Nat) (e:Bl),bl[b]? = some e->e.put L=true->e.live L=true
theorem Av{o:Oper}(h:o.guard=none)(y:Nat->Option Bool):Vk o y=true:=by unfold Vk;rw[h]
theorem jA{p:Bl × Nat->Bool}(h:bl.zipIdx.all p=true)(b:Nat)(e:Bl)(hb:bl[b]? = some e):p (e,b)=true:=
 S4.1 h (e,b) (by rw[VS];exact hb)
theorem two{s t:Option Nat}{i c b:Nat}(h:(s != some i && (t == some i) == (c == b))=true):s≠some i/\(t=some i↔c=b):=by
 rw[SC]at h;refine⟨by simpa using h.1,?_⟩;have h2:(t == some i)=(c == b):=by simpa using h.2
 constructor
 ·intro ht;rw[ht]at h2;simpa using h2.symm
 ·intro hc;rw[hc]at h2;simpa using h2
theorem step{i:Nat}{o:Oper}{it:It}{a:Act}(hd:xC its=true)(ho:ops[i]? = some o)(hit:its[i]? = some it)(hok:okB its bl i o it=true)(hin:∀d,it.dst=some d->d<a0.tmps.size)
 (holds:∀(t:Tmp) (s:SV),(t,s)∈olds->a0.tmps[t]? = some (s.at μ0)/\∀b,s.blk=some b->∃e:Bl,bl[b]? = some e/\e.al=none)
 (hdops:∀(j:Nat) (oj:Oper) (jt:It),ops[j]? = some oj->its[j]? = some jt->oj.dst=jt.dst) (hops:ops.size=its.length) (hc:Cert P Q w0 k0 X ops i its bl olds o it) (hun:on L i=false) (hdep:∀e∈o.after,TR .any e=true->on L e.on=true) (h:Inv ops its bl a0 w0 k0 X μ0 L a w) :
 wpOp P ops Q i (Inv ops its bl a0 w0 k0 X μ0 (L.setIfInBounds i true)) a w:=by
 obtain⟨hsz,hcl,μ,hμ,hA,hW,hO⟩:=h;have hi:i<L.size:=by rw[hsz];exact(SI.1 hit).1
 simp only[okB,SC]at hok;obtain⟨⟨⟨⟨hdst,hg⟩,haft⟩,hneed⟩,hkind⟩:=hok;have hdst':o.dst=it.dst:=by simpa using hdst
 have hdepB:∀j,bU o j=true->on L j=true:=λj hj=>by
  obtain⟨e,he,hb⟩:=Vr.1 hj;simp only[SC,beq_iff_eq]at hb;rw[<-hb.2];exact hdep e he hb.1
 have hwant:Vk o (yielded ops a.tmps) = !it.kind.isPass:=by
  unfold Vk;unfold ID at hg;cases hgd:o.guard with
  | none=>rw[hgd]at hg;dsimp only at hg⊢;rw[hg]
  | some jw =>
   obtain⟨j,want⟩:=jw;rw[hgd]at hg;dsimp only at hg⊢;rw[SC]at hg;cases hj:its[j]? with
   | none=>rw[hj]at hg;cases hg.2
   | some jt =>
    rw[hj]at hg;obtain⟨h1,h2⟩:=hg;dsimp only at h2;rw[SC]at h2;obtain⟨d,hdj⟩:=SU.1 h2.1;have hjl:j<its.length:=(SI.1 hj).1;have hoj:ops[j]? = some (ops[j]'(by rw[hops];exact hjl)):=SS _;have h3:=(hA.got j jt d hj (hdepB j h1) hdj).1;have h4:yielded ops a.tmps j=match jt.out.at μ with | .bool b=>some b|_=>none:=by
     unfold yielded;rw[hoj];show(match (ops[j]'(by rw[hops];exact hjl)).dst.bind (a.tmps[·]?) with|some (.bool b)=>some b|_=>none)=_;rw[hdops j _ jt hoj hj,hdj];show(match a.tmps[d]? with|some (.bool b)=>some b|_=>none)=_;rw[h3];cases jt.out.at μ<;>rfl
    rw[h4];have h5:=h2.2;cases hout:jt.out with
    | p b x=>rw[hout]at h5;cases h5
    | s b x y=>rw[hout]at h5;cases h5
    | t b x y z=>rw[hout]at h5;cases h5
    | v x =>
     rw[hout]at h5;cases x with
     | bool b =>
      show(some b == some want)=_;dsimp only at h5;have:(b == want) = !it.kind.isPass:=by simpa using h5
      rw[<-this];cases b<;>cases want<;>rfl
     | _=>cases h5
 have hK:Known ops i its olds it.need μ a:=by
  refine⟨λt j jt hm hj=>?_,λt s hm hfree=>?_⟩
  ·have h1:=S4.1 hneed (t,j) hm;simp only[SC,hj]at h1;have h2:jt.dst=some t:=by simpa using h1.2
   have h3:=(hA.got j jt t hj (hdepB j h1.1) h2).1;show a.tmps.getD t undef=_;rw[Sz,h3];rfl
  ·obtain⟨h2,h3⟩:=holds t s hm;have h4:=hA.rest t (λj jt hj hon hdj=>by
    have h5:=S4.1 hfree (jt,j) (by rw[VS];exact hj);dsimp only at h5;rw[hdj]at h5;cases hoj:ops[j]? with
    | none=>rw[hoj]at h5;simp at h5
    | some oj =>
     rw[hoj]at h5;have h6:bU oj i=true:=by simpa using h5
     obtain⟨e',he',hb'⟩:=Vr.1 h6;simp only[SC,beq_iff_eq]at hb';have:=hcl j oj hoj hon e' he' hb'.1;rw[hb'.2,hun]at this;cases this)
   show a.tmps.getD t undef=_;rw[Sz,h4,h2];show s.at μ0=s.at μ;refine SV.at_congr λb hb=>?_
   obtain⟨e,he,hal⟩:=h3 b hb;rw[hμ b e he hal]
 have hR:Reads ops i bl μ w:=λb e hb hal hst=>by
  have:=(hW.has b e hb (by
   unfold Bl.live;rcases hal with hal|⟨o',j,ho',hal,hd⟩
   ·rw[hal];rfl
   ·rw[hal];show on L j=true;rw[ho]at ho';obtain rfl:=Td.inj ho';exact hdepB j hd)).1
  unfold Bl.now Bl.put at this;unfold readB at hst;cases hs:e.st with
  | none=>rw[hs]at this;exact this
  | some s =>
   rw[hs]at this hst;dsimp only at hst;cases hos:ops[s]? with
   | none=>rw[hos]at hst;cases hst
   | some os =>
    rw[hos]at hst;have hns:on L s=false:=by
     cases hon:on L s with
     | false=>rfl
     | true =>
      obtain⟨e',he',hb'⟩:=Vr.1 hst;simp only[SC,beq_iff_eq]at hb';have:=hcl s os hos hon e' he' hb'.1;rw[hb'.2,hun]at this;cases this
    rw[show(Option.map (on L) (some s)).getD false=on L s from rfl,hns]at this;exact this
 have hlive:∀b,Iq its bl o it b=true->∃e:Bl,bl[b]? = some e/\e.live L=true:=λb hb=>by
  unfold Iq at hb;rw[Bool.or_eq_true]at hb;rcases hb with h2|h2
  ·cases he:bl[b]? with
   | none=>rw[he]at h2;cases h2
   | some e =>
    rw[he]at h2;dsimp only at h2;refine⟨e,rfl,?_⟩;unfold Bl.live;cases hal:e.al with
    | none=>rfl
    | some j=>rw[hal]at h2;exact hdepB j h2
  ·obtain⟨x,hx,h3⟩:=List.any_eq_true.1 h2;rw[SC]at h3;cases hj:its[x.2]? with
   | none=>rw[hj]at h3;cases h3.2
   | some jt =>
    rw[hj]at h3;dsimp only at h3;rw[SC]at h3;obtain⟨d,hd2⟩:=SU.1 h3.2.1;exact(hA.got x.2 jt d hj (hdepB x.2 h3.1) hd2).2 b (by simpa using h3.2.2)
 have hcl':∀(j:Nat) (oj:Oper),ops[j]? = some oj->on (L.setIfInBounds i true) j=true->∀e∈oj.after,TR .any e=true->on (L.setIfInBounds i true) e.on=true:=λj oj hoj hon e he hb=>by
  rw[eV hi]at hon⊢;by_cases hij:i=j
  ·subst hij;rw[ho]at hoj;obtain rfl:o=oj:=Td.inj hoj;rw[hdep e he hb,Vm]
  ·rw[hcl j oj hoj (by simpa[hij]using hon) e he hb,Vm]
 have hsz':(L.setIfInBounds i true).size=its.length:=by rw[Tg];exact hsz
 have hC:=hc μ a w (Inv ops its bl a0 w0 k0 X μ0 (L.setIfInBounds i true)) hK hR hW.bel;unfold wpOp;rw[ho];dsimp only;rw[hwant];cases hk:it.kind with
 | pass =>
  rw[hk]at hC hkind;simp only[yC,SC]at hkind;have hne:∀(b:Nat) (e:Bl),bl[b]? = some e->e.al≠some i/\e.st≠some i:=λb e hb=>by simpa using S4.1 hkind.1 e (TO hb)
  have hsame:∀(b:Nat) (e:Bl),bl[b]? = some e->e.live (L.setIfInBounds i true)=e.live L/\e.put (L.setIfInBounds i true)=e.put L:=λb e hb =>
   ⟨by rw[iE hi,show(e.al == some i)=false by simpa using(hne b e hb).1,Ui],by rw[jK hi,show(e.st == some i)=false by simpa using(hne b e hb).2,Ui]⟩
  show Inv ops its bl a0 w0 k0 X μ0 (L.setIfInBounds i true) (a.put o.dst undef) w;refine⟨hsz',hcl',μ,hμ,?_,hW.same hsame,λb e hb=>by rw[(hsame b e hb).1,(hsame b e hb).2];exact hO b e hb⟩;rw[hdst'];have hout:it.out=.v undef:=hC;refine hA.put hd hi hit (λ_ _ _ _=>rfl) hin (λ_ _ b hbx=>?_) _ (λ_ _=>by rw[hout];rfl);rw[hout]at hbx;cases hbx
 | stay =>
  rw[hk]at hC hkind;simp only[yC,SC]at hkind;show o.wp P a w _ Q\/_;left;refine hC ?_;have hne:∀(b:Nat) (e:Bl),bl[b]? = some e->e.al≠some i/\e.st≠some i:=λb e hb=>by simpa using S4.1 hkind.1 e (TO hb)
  have hsame:∀(b:Nat) (e:Bl),bl[b]? = some e->e.live (L.setIfInBounds i true)=e.live L/\e.put (L.setIfInBounds i true)=e.put L:=λb e hb =>
   ⟨by rw[iE hi,show(e.al == some i)=false by simpa using(hne b e hb).1,Ui],by rw[jK hi,show(e.st == some i)=false by simpa using(hne b e hb).2,Ui]⟩
  refine⟨hsz',hcl',μ,hμ,?_,hW.same hsame,λb e hb=>by rw[(hsame b e hb).1,(hsame b e hb).2];exact hO b e hb⟩;rw[hdst'];refine hA.put hd hi hit (λ_ _ _ _=>rfl) hin (λ_ _ b hbx=>?_) _ (λ_ _=>rfl);have h2:=hkind.2;rw[hbx]at h2;obtain⟨e,he,hl⟩:=hlive b h2;exact⟨e,he,m6 hi hl⟩
 | call =>
  rw[hk]at hC hkind;simp only[yC,SC]at hkind;show o.wp P a w _ Q\/_;left;refine hC λw' hb'=>?_
  have hne:∀(b:Nat) (e:Bl),bl[b]? = some e->e.al≠some i/\e.st≠some i:=λb e hb=>by simpa using S4.1 hkind.1 e (TO hb)
  have hsame:∀(b:Nat) (e:Bl),bl[b]? = some e->e.live (L.setIfInBounds i true)=e.live L/\e.put (L.setIfInBounds i true)=e.put L:=λb e hb =>
   ⟨by rw[iE hi,show(e.al == some i)=false by simpa using(hne b e hb).1,Ui],by rw[jK hi,show(e.st == some i)=false by simpa using(hne b e hb).2,Ui]⟩
  refine⟨hsz',hcl',μ,hμ,?_,(hW.call hb').same hsame,λb e hb=>by rw[(hsame b e hb).1,(hsame b e hb).2];exact hO b e hb⟩;rw[hdst'];refine hA.put hd hi hit (λ_ _ _ _=>rfl) hin (λ_ _ b hbx=>?_) _ (λ_ _=>rfl);have h2:=hkind.2;rw[hbx]at h2;obtain⟨e,he,hl⟩:=hlive b h2;exact⟨e,he,m6 hi hl⟩
 | make b =>
  rw[hk]at hC hkind;simp only[yC,SC]at hkind;obtain⟨⟨hout,hz⟩,hb0⟩:=hkind;obtain⟨e,hbe⟩:=SU.1 hb0;have ha:e.al=some i:=(two (jA hz b e hbe)).2.2 rfl;have hstn:∀(c:Nat) (f:Bl),bl[c]? = some f->f.st≠some i:=λc f hc=>(two (jA hz c f hc)).1
  have haln:∀(c:Nat) (f:Bl),bl[c]? = some f->c≠b->f.al≠some i:=λc f hc hcb h=>hcb ((two (jA hz c f hc)).2.1 h)
  have hlv:e.live L=false:=by unfold Bl.live;rw[ha];exact hun
  have hpt:e.put L=false:=by
   cases hp:e.put L with
   | false=>rfl
   | true=>have:=hO b e hbe hp;rw[hlv]at this;cases this
  have hout':it.out.blk=some b:=by
   cases hoo:it.out.blk with
   | none=>rw[hoo]at hout;cases hout
   | some c =>
    rw[hoo]at hout;rw[show c=b by simpa using hout]
  show o.wp P a w _ Q\/_;left;refine hC e hbe λk w' hm=>?_
  have hμb:∀(c:Nat) (f:Bl),bl[c]? = some f->f.live L=true->upd μ b k c=μ c:=λc f hc hl=>by
   unfold upd;rw[if_neg];rintro rfl;rw[hbe]at hc;obtain rfl:e=f:=Td.inj hc;rw[hlv]at hl;cases hl
  refine⟨hsz',hcl',upd μ b k,λc f hc hal=>?_,?_,hW.make hi hbe ha haln hstn hpt hm,λc f hc=>?_⟩
  ·rw[hμb c f hc (by unfold Bl.live;rw[hal];rfl)];exact hμ c f hc hal
  ·rw[hdst'];refine hA.put hd hi hit hμb hin (λ_ _ c hcx=>?_) _ (λ_ _=>rfl);rw[hout']at hcx;have h1:b=c:=Td.inj hcx;subst h1;exact⟨e,hbe,by rw[iE hi,ha];simp⟩
  ·rw[jK hi,show(f.st == some i)=false by simpa using hstn c f hc,Ui];exact λhp=>m6 hi (hO c f hc hp)
 | put b =>
  rw[hk]at hC hkind;simp only[yC,SC]at hkind;obtain⟨⟨hdn,hz⟩,hb0⟩:=hkind;cases hbe:bl[b]? with
  | none=>rw[hbe]at hb0;cases hb0
  | some e =>
   rw[hbe]at hb0;dsimp only at hb0;have hs:e.st=some i:=(two (jA hz b e hbe)).2.2 rfl;have haln:∀(c:Nat) (f:Bl),bl[c]? = some f->f.al≠some i:=λc f hc=>(two (jA hz c f hc)).1
   have hstn:∀(c:Nat) (f:Bl),bl[c]? = some f->c≠b->f.st≠some i:=λc f hc hcb h=>hcb ((two (jA hz c f hc)).2.1 h)
   have hlv:e.live L=true:=by
    unfold Bl.live;cases hal:e.al with
    | none=>rfl
    | some j =>
     have h2:=hb0;rw[hal]at h2;exact hdepB j h2
   show o.wp P a w _ Q\/_;left;have hpn:e.put L=false:=by unfold Bl.put;rw[hs];exact hun
   have hnow:e.now L=e.before:=by unfold Bl.now;rw[hpn];rfl
   refine hC e hbe (hW.has b e hbe hlv).2.1 (hnow ▸ (hW.has b e hbe hlv).1) λw' hPT=>?_
   refine⟨hsz',hcl',μ,hμ,?_,hW.put hi hbe hs hlv hPT hstn haln,λc f hc hp=>?_⟩
   ·rw[hdst'];refine hA.put hd hi hit (λ_ _ _ _=>rfl) hin (λd hdd c hcx=>?_) _ (λd hdd=>rfl);cases hoo:it.out with
    | v x=>rw[hoo]at hcx;cases hcx
    | p x y=>rw[hoo]at hdn;cases hdn
    | s x y z=>rw[hoo]at hdn;cases hdn
    | t x y z u=>rw[hoo]at hdn;cases hdn
   ·rw[iE hi,show(f.al == some i)=false by simpa using haln c f hc,Ui];rw[jK hi]at hp;by_cases hcb:c=b
    ·subst hcb;rw[hbe]at hc;obtain rfl:e=f:=Td.inj hc;exact hlv
    ·rw[show(f.st == some i)=false by simpa using hstn c f hc hcb,Ui]at hp;exact hO c f hc hp
end RG
namespace RG
open Go Go.RowKit
variable {P:Program}{ops:Array Oper}{Q:Exit->Act->World->Prop}{w0 w:World}{k0:Nat}{X:List Nat}{its:List It}{bl:List Bl}{olds:List (Tmp × SV)}{a0:Act}{L:Array Bool}{μ μ0:Nat->Nat}
def puts(μ:Nat->Nat):List It->Act->Act
 | [],a=>a
 | it :: r,a=>puts μ r (a.put it.dst (it.out.at μ))
theorem mB(μ:Nat->Nat):∀(its:List It) (a:Act),(puts μ its a).defers=a.defers
 | [],_=>rfl
 | it :: r,a=>by
  rw[puts,mB μ r];cases it.dst<;>rfl
theorem pC(a:Act)(d:Option Tmp)(v:Value):(a.put d v).tmps.size=a.tmps.size:=by
 cases d with
 | none=>rfl
 | some d=>exact Tg ..
theorem xY(μ:Nat->Nat):∀(its:List It) (a:Act),(puts μ its a).tmps.size=a.tmps.size
 | [],_=>rfl
 | it :: r,a=>by rw[puts,xY μ r,pC]
theorem mZ(a:Act){d:Option Tmp}(v:Value){t:Tmp}(h:d≠some t):(a.put d v).tmps[t]? = a.tmps[t]?:=by
 cases d with
 | none=>rfl
 | some d =>
  show(a.tmps.setIfInBounds d v)[t]? = _;rw[Um,if_neg (λe=>h (by rw[e]))]
theorem kY(μ:Nat->Nat):∀(its:List It) (a:Act) (t:Tmp),(∀it∈its,it.dst≠some t)->(puts μ its a).tmps[t]? = a.tmps[t]?
 | [],_,_,_=>rfl
 | it :: r,a,t,h=>by
  rw[puts,kY μ r _ t (λx hx=>h x (S8 _ hx)),mZ a _ (h it Ti)]
theorem rC(μ:Nat->Nat):∀(its:List It) (a:Act) (i:Nat) (it:It) (d:Tmp),xC its=true->its[i]? = some it->it.dst=some d->d<a.tmps.size->(puts μ its a).tmps[d]? = some (it.out.at μ)
 | [],_,i,_,_,_,h,_,_=>by simp at h
 | x :: r,a,0,it,d,hB,h,hd,hs=>by
  obtain rfl:x=it:=by simpa using h
  simp only[xC,SC,hd]at hB;rw[puts,kY μ r _ d (λy hy=>by simpa using S4.1 hB.1 y hy),hd];show(a.tmps.setIfInBounds d _)[d]? = _;rw[Um,if_pos rfl,if_pos hs]
 | x :: r,a,i+1,it,d,hB,h,hd,hs=>by
  simp only[xC,SC]at hB;rw[puts];exact rC μ r _ i it d hB.2 (by simpa using h) hd (by rw[pC];exact hs)
theorem Act.ext'{a b:Act}(h1:a.tmps=b.tmps)(h2:a.defers=b.defers):a=b:=by
 cases a;cases b;subst h1;subst h2;rfl
theorem Ac.done{a:Act}(h:Ac its bl a0 L μ a)(hB:xC its=true)(hin:∀it∈its,∀d,it.dst=some d->d<a0.tmps.size)(hall:∀i,i<its.length->on L i=true):a=puts μ its a0:=by
 refine Act.ext' ?_ (by rw[mB];exact h.defers);apply Array.ext_getElem?;intro t;by_cases ht:∃(i:Nat) (it:It),its[i]? = some it/\it.dst=some t
 ·obtain⟨i,it,hi,hd⟩:=ht;rw[(h.got i it t hi (hall i (SI.1 hi).1) hd).1,rC μ its a0 i it t hB hi hd (hin it (TO hi) t hd)]
 ·rw[h.rest t (λi it hi _ hd=>ht ⟨i,it,hi,hd⟩),kY μ its a0 t (λit hm hd=>?_)];obtain⟨i,hi⟩:=Ub hm;exact ht ⟨i,it,hi,hd⟩
def unl(L:Array Bool):Nat:=L.toList.countP (λb=>!b)
theorem count_set:∀(l:List Bool) (i:Nat),l[i]? = some false->(l.set i true).countP (λb=>!b)+1=l.countP (λb=>!b)
 | [],i,h=>by simp at h
 | x :: r,0,h=>by
  obtain rfl:x=false:=by simpa using h
  simp
 | x :: r,i+1,h=>by
  have:=count_set r i (by simpa using h);rw[List.set_cons_succ,YY,YY];omega
theorem oI{i:Nat}(h:L.getD i true=false):unl (L.setIfInBounds i true)+1=unl L:=by
 unfold unl;rw[Array.toList_setIfInBounds];refine count_set _ _ ?_;rw[Tn];rw[Sz]at h;cases hh:L[i]? with
 | none=>rw[hh]at h;cases h
 | some b=>rw[hh]at h;rw[show b=false from h]
theorem lQ(h:unl L=0)(i:Nat)(hi:i<L.size):on L i=true:=by
 have h1:=List.countP_eq_zero.1 h;have h2:=h1 L[i] (by simp);unfold on;rw[Sz,SS hi];simpa using h2
structure Reg(P:Program)(ops:Array Oper)(Q:Exit->Act->World->Prop)(w0:World)(k0:Nat)(X:List Nat)(its:List It)(bl:List Bl)(olds:List (Tmp × SV))(a0:Act)(μ0:Nat->Nat):Prop where
 chk:allB ops its bl olds a0.tmps.size=true
 old:∀(t:Tmp) (s:SV),(t,s)∈olds->a0.tmps[t]? = some (s.at μ0)
 cert:∀(i:Nat) (o:Oper) (it:It),ops[i]? = some o->its[i]? = some it->Cert P Q w0 k0 X ops i its bl olds o it
theorem Reg.step{i:Nat}{o:Oper}{a:Act}(R:Reg P ops Q w0 k0 X its bl olds a0 μ0)(ho:ops[i]? = some o)(hun:on L i=false)(hdep:∀e∈o.after,TR .any e=true->on L e.on=true)(h:Inv ops its bl a0 w0 k0 X μ0 L a w):
 wpOp P ops Q i (Inv ops its bl a0 w0 k0 X μ0 (L.setIfInBounds i true)) a w:=by
 have hk:=R.chk;simp only[allB,SC,beq_iff_eq]at hk;obtain⟨⟨⟨⟨hsz,hd⟩,hold⟩,hin⟩,hok⟩:=hk;have hi:i<its.length:=by rw[<-hsz];exact(SZ.1 ho).1
 obtain⟨it,hit⟩:∃it,its[i]? = some it:=⟨its[i],SH hi⟩
 have h1:=S4.1 hok i (TM.2 hi);rw[ho,hit]at h1;refine RG.step (olds:=olds) hd ho hit h1 (λd hdd=>?_) (λt s hm=>?_) (λj oj jt hoj hjt=>?_) hsz (R.cert i o it ho hit) hun hdep h
 ·have:=S4.1 hin it (TO hit);rw[hdd]at this;simpa using this
 ·have h2:=S4.1 hold (t,s) hm;refine⟨R.old t s hm,λb hbx=>?_⟩;have h3:=h2;dsimp only at h3;rw[hbx]at h3;dsimp only at h3;cases he:bl[b]? with
  | none=>rw[he]at h3;cases h3
  | some e=>rw[he]at h3;exact⟨e,rfl,by simpa using h3⟩
 ·have h4:=S4.1 hok j (TM.2 (SI.1 hjt).1);rw[hoj,hjt]at h4;simp only[okB,SC]at h4;simpa using h4.1.1.1.1
theorem Reg.back{i:Nat}{o:Oper}(R:Reg P ops Q w0 k0 X its bl olds a0 μ0)(ho:ops[i]? = some o):i<its.length/\∀e∈o.after,TR .any e=true->e.on<i:=by
 have hk:=R.chk;simp only[allB,SC,beq_iff_eq]at hk;obtain⟨⟨⟨⟨hsz,hd⟩,hold⟩,hin⟩,hok⟩:=hk;have hi:i<its.length:=by rw[<-hsz];exact(SZ.1 ho).1
 have h1:=S4.1 hok i (TM.2 hi);rw[ho,SH hi]at h1;simp only[okB,SC]at h1;refine⟨hi,λe he hb=>?_⟩;have:=Up.1 h1.1.1.2 e he;simpa[hb]using this
theorem Reg.size(R:Reg P ops Q w0 k0 X its bl olds a0 μ0):ops.size=its.length:=by
 have hk:=R.chk;simp only[allB,SC,beq_iff_eq]at hk;exact hk.1.1.1.1
theorem Reg.full{a:Act}(R:Reg P ops Q w0 k0 X its bl olds a0 μ0)(h:Inv ops its bl a0 w0 k0 X μ0 L a w)(hr:Ts .any ops L=[]):∀i,i<its.length->on L i=true:=by
 intro i;induction i using Zh with
 | ind i ih =>
  intro hi;have ho:ops[i]? = some (ops[i]'(by rw[R.size];exact hi)):=SS _;cases hon:on L i with
  | true=>rfl
  | false =>
   have:i∈Ts .any ops L:=mem_ready.2 ⟨?_,_,ho,λe he hb=>?_⟩
   ·rw[hr]at this;cases this
   ·unfold on at hon;rw[Sz,SS (by rw[h.size];exact hi)]at hon⊢;exact hon
   ·have hlt:=(R.back ho).2 e he hb;exact ih e.on hlt (Nat.lt_trans hlt hi)
def ad(ks:List Nat)(b:Nat):Nat:=ks.getD b 0
structure St(w0:World)(k0:Nat)(X:List Nat)(cs:List (List Value))(ks:List Nat)(w:World):Prop where
 bel:BelX k0 X w0 w
 le:k0<=w.heap.size
 len:ks.length=cs.length
 has:∀(b:Nat) (c:List Value),cs[b]? = some c->w.rangeAt (ad ks b) 0 c/\w.there (ad ks b) 0 c.length/\ad ks b<w.heap.size/\(k0<=ad ks b\/ad ks b∈X)
 inj:∀(b c:Nat),b<cs.length->c<cs.length->b≠c->ad ks b≠ad ks c
theorem St.drew{cs:List (List Value)}{ks:List Nat}(h:St w0 k0 X cs ks w):St w0 k0 X cs ks w.drew:=⟨h.bel.drew,h.le,h.len,h.has,h.inj⟩
def Bl.fin(e:Bl):List Value:=if e.st.isSome=true then e.after else e.before
def lU(bl:List Bl)(n:Nat):Bool:=bl.zipIdx.all (λx=>x.1.al.isNone == decide (x.2<n)) && decide (n<=bl.length)
theorem xQ{ops:Array Oper}{cs:List (List Value)}{ks:List Nat}(hS:St w0 k0 X cs ks w)(hB:lU bl cs.length=true)(hcs:(bl.map (·.before)).take cs.length=cs):
 Inv ops its bl a0 w0 k0 X (ad ks) (So its.length false) a0 w:=by
 simp only[lU,SC]at hB;have hoff:∀i,on (So its.length false) i=false:=λi=>by
  unfold on;rw[Sz,Vp];by_cases h:i<its.length
  ·rw[if_pos h];rfl
  ·rw[if_neg h];rfl
 have hlive:∀(b:Nat) (e:Bl),bl[b]? = some e->e.live (So its.length false)=true->b<cs.length:=λb e hb hl=>by
  have h1:=jA hB.1 b e hb;unfold Bl.live at hl;cases ha:e.al with
  | none=>simpa[ha]using h1
  | some j=>rw[ha]at hl;have:on (So its.length false) j=true:=hl;rw[hoff]at this;cases this
 have hput:∀e:Bl,e.put (So its.length false)=false:=λe=>by
  unfold Bl.put;cases e.st with
  | none=>rfl
  | some j=>exact hoff j
 have hget:∀(b:Nat) (e:Bl),bl[b]? = some e->b<cs.length->cs[b]? = some e.before:=λb e hb hlt=>by
  rw[<-hcs,T0,if_pos hlt,Un,hb];rfl
 refine⟨Array.size_replicate,(λi o _ h=>by rw[hoff]at h;cases h),ad ks,λ_ _ _ _=>rfl,⟨rfl,rfl,λi it d hi ho=>?_,λ_ _=>rfl⟩,⟨hS.bel,hS.le,λb e hb hl=>?_,λb c e f hb hc he hf hbc=>hS.inj b c (hlive b e hb he) (hlive c f hc hf) hbc⟩,λb e hb hp=>?_⟩
 ·rw[hoff]at ho;cases ho
 ·unfold Bl.now;rw[hput e];exact hS.has b e.before (hget b e hb (hlive b e hb hl))
 ·rw[hput e]at hp;cases hp
theorem Inv.done{a:Act}{cs:List (List Value)}{ks:List Nat}(R:Reg P ops Q w0 k0 X its bl olds a0 (ad ks))(h:Inv ops its bl a0 w0 k0 X (ad ks) L a w)(hlen:ks.length=cs.length)(hB:lU bl cs.length=true)(hall:∀i,i<its.length->on L i=true)
 (hst:∀e∈bl,∀j,e.al=some j\/e.st=some j->j<its.length) (hlenb:∀e∈bl,e.fin.length=e.before.length)
 (hp:∀(new:List Nat) (w':World),new.length=bl.length-cs.length->St w0 k0 X (bl.map Bl.fin) (ks++new) w'->Q .normal (puts (ad (ks++new)) its a0) w'):Q .normal a w:=by
 obtain⟨hsz,-,μ,hμ,hA,hW,hO⟩:=h;have hk:=R.chk;simp only[allB,SC,beq_iff_eq]at hk;obtain⟨⟨⟨⟨hsz2,hd⟩,hold⟩,hin⟩,hok⟩:=hk;have hB':=hB;simp only[lU,SC,decide_eq_true_eq]at hB;have hlive:∀(b:Nat) (e:Bl),bl[b]? = some e->e.live L=true:=λb e hb=>by
  unfold Bl.live;cases ha:e.al with
  | none=>rfl
  | some j=>exact hall j (hst e (TO hb) j (SY ha))
 have hnow:∀(b:Nat) (e:Bl),bl[b]? = some e->e.now L=e.fin:=λb e hb=>by
  unfold Bl.now Bl.put Bl.fin;cases ha:e.st with
  | none=>rfl
  | some j =>
   have:=hall j (hst e (TO hb) j (SJ ha));simp[this]
 have hnew:∀b,b<bl.length->ad (ks++(TD (bl.length-cs.length)).map (λj=>μ (cs.length+j))) b=μ b:=λb hb=>by
  unfold ad;rw[TS];by_cases hlt:b<cs.length
  ·rw[Ty (by rw[hlen];exact hlt)];obtain⟨e,he⟩:∃e,bl[b]? = some e:=⟨bl[b],SH hb⟩
   have h1:=jA hB.1 b e he;have h2:e.al=none:=by simpa[hlt]using h1
   rw[hμ b e he h2];unfold ad;rw[TS]
  ·rw[Ut (by rw[hlen];omega),Un,hlen,List.getElem?_range oM];show μ (cs.length+(b-cs.length))=μ b
   congr 1
   omega
 have hact:=hA.done hd (λit hm d hdd=>by
  have:=S4.1 hin it hm;rw[hdd]at this;simpa using this) hall
 have hpe:puts μ its a0=puts (ad (ks++(TD (bl.length-cs.length)).map (λj=>μ (cs.length+j)))) its a0:=by
  have key:∀it∈its,∀d,it.dst=some d->it.out.at μ=it.out.at (ad (ks++(TD (bl.length-cs.length)).map (λj=>μ (cs.length+j)))):=λit hm d hdd=>by
   obtain⟨i,hi⟩:=Ub hm;have hg:=(hA.got i it d hi (hall i (SI.1 hi).1) hdd).2;refine SV.at_congr λb hb=>?_
   obtain⟨e,he,-⟩:=hg b hb;rw[hnew b (SI.1 he).1]
  clear hA hact hold hok hin hd hsz2 hsz R hall hst hp;generalize a0=a1;induction its generalizing a1 with
  | nil=>rfl
  | cons it r ih =>
   rw[puts,puts];have h1:a1.put it.dst (it.out.at μ)=a1.put it.dst (it.out.at (ad (ks++(TD (bl.length-cs.length)).map (λj=>μ (cs.length+j))))):=by
    cases hdd:it.dst with
    | none=>rfl
    | some d=>rw[key it Ti d hdd]
   rw[h1];exact ih (λx hx=>key x (S8 _ hx)) _
 rw[hact,hpe];refine hp _ w (by simp) ⟨hW.bel,hW.le,?_,λb c hc=>?_,λb c hb hc hbc=>?_⟩
 ·simp only[Su,SO,List.length_range];omega
 ·rw[Un]at hc;cases he:bl[b]? with
  | none=>rw[he]at hc;cases hc
  | some e =>
   rw[he]at hc;obtain rfl:e.fin=c:=Td.inj hc;have h1:=hW.has b e he (hlive b e he);rw[hnow b e he]at h1;rw[hnew b (SI.1 he).1,hlenb e (TO he)];exact h1
 ·rw[SO]at hb hc;rw[hnew b hb,hnew c hc];exact hW.inj b c _ _ (SH hb) (SH hc) (hlive b _ (SH hb)) (hlive c _ (SH hc)) hbc
theorem region_draws'{id:Nat}{cs:List (List Value)}{ks:List Nat}(hm:P.follows .mixedOrders=true)(hS:St w0 k0 X cs ks w)(R:Reg P ops Q w0 k0 X its bl olds a0 (ad ks))(hB:lU bl cs.length=true)(hcs:(bl.map (·.before)).take cs.length=cs)(hE:(∀e∈bl,∀j,e.al=some j\/e.st=some j->j<its.length)/\∀e∈bl,e.fin.length=e.before.length)
 (hp:∀(new:List Nat) (w':World),new.length=bl.length-cs.length->St w0 k0 X (bl.map Bl.fin) (ks++new) w'->Q .normal (puts (ad (ks++new)) its a0) w'):(TX id ops true).wp P Q a0 w:=by
 obtain⟨hst,hlenb⟩:=hE;have key:∀(fuel:Nat) (L:Array Bool) (a:Act) (w:World),unl L=fuel->Inv ops its bl a0 w0 k0 X (ad ks) L a w->wpAny P .any ops Q fuel L a w:=by
  intro fuel;induction fuel with
  | zero =>
   intro L a w hu hI;have hall:∀i,i<its.length->on L i=true:=λi hi=>lQ hu i (by rw[hI.size];exact hi)
   refine⟨?_,hI.done R hS.len hB hall hst hlenb hp⟩;apply List.eq_nil_iff_forall_not_mem.2;intro i hi;obtain⟨h1,o,ho,-⟩:=mem_ready.1 hi;have h2:=hall i (R.back ho).1;unfold on at h2;rw[Sz]at h1 h2;cases hh:L[i]? with
   | none=>rw[hh]at h1;cases h1
   | some b=>rw[hh]at h1 h2;rw[show b=false from h1]at h2;cases h2
  | succ fuel ih =>
   intro L a w hu hI;refine⟨λhr=>hI.done R hS.len hB (R.full hI hr) hst hlenb hp,λi hi=>?_⟩;obtain⟨h1,o,ho,hdep⟩:=mem_ready.1 hi;have hoff:on L i=false:=by
    unfold on;rw[Sz]at h1⊢;cases hh:L[i]? with
    | none=>rfl
    | some b=>rw[hh]at h1;exact h1
   exact wpOp_mono (λa' w' hI'=>ih _ a' w' (by have:=oI h1;omega) hI') (R.step ho hoff hdep hI)
 refine wp_region_any hm (key _ _ a0 _ ?_ ?_)
 ·unfold unl;rw[Array.toList_replicate,List.countP_replicate];simp
 ·rw[R.size];exact xQ hS.drew hB hcs
theorem region_text'{id:Nat}{cs:List (List Value)}{ks:List Nat}(hS:St w0 k0 X cs ks w)(R:Reg P ops Q w0 k0 X its bl olds a0 (ad ks))(hB:lU bl cs.length=true)(hcs:(bl.map (·.before)).take cs.length=cs)(hE:(∀e∈bl,∀j,e.al=some j\/e.st=some j->j<its.length)/\∀e∈bl,e.fin.length=e.before.length)
 (hp:∀(new:List Nat) (w':World),new.length=bl.length-cs.length->St w0 k0 X (bl.map Bl.fin) (ks++new) w'->Q .normal (puts (ad (ks++new)) its a0) w'):(TX id ops false).wp P Q a0 w:=by
 obtain⟨hst,hlenb⟩:=hE;have key:∀(m i:Nat) (L:Array Bool) (a:Act) (w:World),i+m=its.length->(∀j,j<its.length->on L j=decide (j<i))->Inv ops its bl a0 w0 k0 X (ad ks) L a w->wpOps P ops Q (List.range' i m) a w:=by
  intro m;induction m with
  | zero =>
   intro i L a w hi hL hI;exact hI.done R hS.len hB (λj hj=>by rw[hL j hj];simp;omega) hst hlenb hp
  | succ m ih =>
   intro i L a w hi hL hI;rw[List.range'_succ,wpOps_cons];have ho:ops[i]? = some (ops[i]'(by rw[R.size];omega)):=SS _;refine wpOp_mono (λa' w' hI'=>ih (i+1) _ a' w' oM (λj hj=>?_) hI') (R.step ho (by rw[hL i oM];simp) (λe he hb=>?_) hI)
   ·rw[eV (by rw[hI.size];omega),hL j hj];by_cases h1:j<i
    ·simp[h1];omega
    ·by_cases h2:i=j
     ·subst h2;simp
     ·have:¬j<i+1:=oM;simp[h1,h2,this]
   ·have hlt:=(R.back ho).2 e he hb;rw[hL e.on oM];simpa using hlt
 refine wp_region ?_;rw[List.range_eq_range',R.size];refine key its.length 0 (So its.length false) a0 w oM (λj hj=>?_) (xQ hS hB hcs);unfold on;rw[Sz,Vp,if_pos hj];simp
end RG
namespace RG
open Go Go.RowKit
variable {P:Program}{Q:Exit->Act->World->Prop}{its:List It}{bl:List Bl}{olds:List (Tmp × SV)}{ops:Array Oper}{i:Nat}{o:Oper}{it:It}{w0:World}{k0:Nat}{X:List Nat}
theorem bW(hk:it.kind=.stay)(hrun:∀(μ:Nat->Nat) (a:Act) (w:World),Known ops i its olds it.need μ a->BelX k0 X w0 w->(execOp a.eval o).run P w=.ok (.value (it.out.at μ)) w):Cert P Q w0 k0 X ops i its bl olds o it:=by
 intro μ a w K hK _ hbel;rw[hk];intro h;unfold TZ;rw[hrun μ a w hK hbel];exact h
theorem nD(hk:it.kind=.stay)(b off:Nat)(e:Bl)(hb:bl[b]? = some e)(hal:e.al=none)(hst:readB ops i e=true)(T:TypeId)(t:Tmp)(ho:o.op=.load T (.tmp t))(cs:List Value)(hout:it.out=.v (.agg cs.toArray))
 (hx:∀(μ:Nat->Nat) (a:Act),Known ops i its olds it.need μ a->a.eval (.tmp t)=(SV.p b off).at μ) (hsub:(e.before.drop off).take cs.length=cs)
 (hu:(P.underlying T).map (·.isRow)=some true) (hi:(P.info? T).map (·.size)=some cs.length):Cert P Q w0 k0 X ops i its bl olds o it:=by
 intro μ a w K hK hR _;rw[hk];intro h;rw[hout]at h;obtain⟨d,hu,hd⟩:=Sf.1 hu;refine wp_load_mid T (.tmp t) ho (μ b) off (hx μ a hK) cs d (λj v hj=>?_) hu hd hi h;have h1:=hR b e hb (SY hal) hst (off+j) v ?_
 ·rw[Sj]at h1;exact h1
 ·rw[<-hsub]at hj;have hlt:j<cs.length:=by
   have h2:=(SI.1 hj).1;rw[hsub]at h2;exact h2
  rw[T0,if_pos hlt,WG]at hj;exact hj
theorem rU(hk:it.kind=.call)(f:FuncId)(args:Array Value)(v:Value)(hout:it.out=.v v)(hrun:∀(μ:Nat->Nat) (a:Act) (w:World),Known ops i its olds it.need μ a->BelX k0 X w0 w->(execOp a.eval o).run P w=.ok (.enter f args) w)
 (hc:∀w,BelX k0 X w0 w->Calls P f args w (rZ w λe w'=>e=v)):Cert P Q w0 k0 X ops i its bl olds o it:=by
 intro μ a w K hK _ hbel;rw[hk];intro h;rw[hout]at h;unfold TZ;rw[hrun μ a w hK hbel,UF];refine(hc w hbel).mono ?_;rintro e w' ⟨v',rfl,hb,rfl⟩;exact h w' hb
theorem rT(b:Nat)(hk:it.kind=.make b)(e:Bl)(hb:bl[b]? = some e)(t:TypeId)(hrun:∀(μ:Nat->Nat) (a:Act) (w:World),Known ops i its olds it.need μ a->BelX k0 X w0 w->(execOp a.eval o).run P w=.ok (.value (it.out.at (upd μ b w.heap.size))) (w.alloc (.cells e.before.toArray t))):Cert P Q w0 k0 X ops i its bl olds o it:=by
 intro μ a w K hK _ hbel;rw[hk];intro e' hb' h;rw[hb]at hb';obtain rfl:e=e':=Td.inj hb';unfold TZ;rw[hrun μ a w hK hbel];exact h _ _ (Made.alloc w e.before t)
theorem I8(b:Nat)(hk:it.kind=.put b)(e:Bl)(hb:bl[b]? = some e)(T:TypeId)(x y:Operand)(ho:o.op=.store T x y)(hdn:o.dst=none)(hlen:e.after.length=e.before.length)
 (hx:∀(μ:Nat->Nat) (a:Act),Known ops i its olds it.need μ a->a.eval x=(SV.p b 0).at μ) (hy:∀(μ:Nat->Nat) (a:Act),Known ops i its olds it.need μ a->a.eval y=.agg e.after.toArray)
 (hi:(P.info? T).map (·.size)=some e.after.length) (h1:e.after.all (·.oneCell')=true):Cert P Q w0 k0 X ops i its bl olds o it:=by
 intro μ a w K hK _ _;rw[hk];intro e' hb' ht hr h;rw[hb]at hb';obtain rfl:e=e':=Td.inj hb';have hPT:=PutTo.whole ht hr hlen;refine wp_store_mid T x y ho (μ b) 0 e.after.toArray (hx μ a hK) (hy μ a hK) ?_ ?_ ?_ ?_
 ·rw[Tf,hlen];exact ht
 ·rw[Tf];exact hi
 ·exact all_oneCell_toArray (λv hv=>S4.1 h1 v hv)
 ·have:=h _ hPT;rw[hdn]at this⊢;exact this
theorem Known.op{need:List (Tmp × Nat)}{μ:Nat->Nat}{a:Act}(h:Known ops i its olds need μ a)(t:Tmp)(j:Nat)(hm:(t,j)∈need){jt:It}(hj:its[j]? = some jt):a.eval (.tmp t)=jt.out.at μ:=h.1 t j jt hm hj
theorem Known.old{need:List (Tmp × Nat)}{μ:Nat->Nat}{a:Act}(h:Known ops i its olds need μ a)(t:Tmp)(s:SV)(hm:(t,s)∈olds)(hf:Et ops its i t=true):a.eval (.tmp t)=s.at μ:=h.2 t s hm hf
end RG
namespace RG
open Go Go.RowKit
variable {P:Program}{ops:Array Oper}{Q:Exit->Act->World->Prop}{w0 w:World}{k0:Nat}{X:List Nat}{its:List It}{bl:List Bl}{olds:List (Tmp × SV)}{a0:Act}{L:Array Bool}{μ μ0:Nat->Nat}{i:Nat}{o:Oper}{it:It}
def Certs(P:Program)(Q:Exit->Act->World->Prop)(w0:World)(k0:Nat)(X:List Nat)(ops:Array Oper)(its:List It)(bl:List Bl)(olds:List (Tmp × SV)):Nat->List Oper->List It->Prop
 | _,[],_=>True
 | _,_ :: _,[]=>False
 | i,o :: os,it :: is=>Cert P Q w0 k0 X ops i its bl olds o it/\Certs P Q w0 k0 X ops its bl olds (i+1) os is
theorem Certs.get:∀ {os:List Oper}{is:List It}{n:Nat},Certs P Q w0 k0 X ops its bl olds n os is->∀(i:Nat) (o:Oper) (it:It),os[i]? = some o->is[i]? = some it->Cert P Q w0 k0 X ops (n+i) its bl olds o it
 | [],_,_,_,i,_,_,h,_=>by simp at h
 | _ :: _,[],_,h,_,_,_,_,_=>h.elim
 | o :: os,it :: is,_,h,0,o',it',ho,hi=>by
  obtain rfl:o=o':=by simpa using ho
  obtain rfl:it=it':=by simpa using hi
  exact h.1
 | o :: os,it :: is,n,h,i+1,o',it',ho,hi=>by
  have:=Certs.get h.2 i o' it' (by simpa using ho) (by simpa using hi);rw[show n+(i+1)=n+1+i by omega];exact this
def Olds(a0:Act)(μ0:Nat->Nat):List (Tmp × SV)->Prop
 | []=>True
 | x :: r=>a0.tmps[x.1]? = some (x.2.at μ0)/\Olds a0 μ0 r
theorem Olds.get:∀ {l:List (Tmp × SV)},Olds a0 μ0 l->∀(t:Tmp) (s:SV),(t,s)∈l->a0.tmps[t]? = some (s.at μ0)
 | [],_,_,_,h=>by cases h
 | x :: r,h,t,s,hm=>by
  rcases List.mem_cons.1 hm with e|e
  ·subst e;exact h.1
  ·exact Olds.get h.2 t s e
theorem Reg.mk'(chk:allB ops its bl olds a0.tmps.size=true)(old:Olds a0 μ0 olds)(cert:Certs P Q w0 k0 X ops its bl olds 0 ops.toList its):Reg P ops Q w0 k0 X its bl olds a0 μ0:=
 ⟨chk,λt s hm=>old.get t s hm,λi o it ho hi=>by have:=cert.get i o it (by rw[Tn];exact ho) hi;rwa[Sj]at this⟩
theorem wL(hk:it.kind=.call)(f:FuncId)(t1:Tmp)(v1 v:Value)(hout:it.out=.v v)(hrun:∀(a:Act) (w:World),(execOp a.eval o).run P w=.ok (.enter f #[a.eval (.tmp t1)]) w)
 (h1:∀(μ:Nat->Nat) (a:Act),Known ops i its olds it.need μ a->a.eval (.tmp t1)=v1) (hc:∀w,Calls P f #[v1] w (rZ w λe w'=>e=v)):Cert P Q w0 k0 X ops i its bl olds o it:=
 rU hk f #[v1] v hout (λμ a w hK _=>by rw[hrun,h1 μ a hK]) (λw _=>hc w)
theorem LW{b k:Nat}(hout:it.out=.p b 0):it.out.at (upd μ b k)=pZ k:=by
 rw[hout];show Zs (some ⟨upd μ b k b,0,none⟩)=_;unfold upd;rw[if_pos rfl]
theorem nY(b:Nat)(hk:it.kind=.make b)(hout:it.out=.p b 0)(e:Bl)(hb:bl[b]? = some e)(T:TypeId)(ho:o.op=.alloc T)(hz:∀w:World,(Yn T true (.tuple #[])).run P w=.ok (.pointer (some ⟨w.heap.size,0,none⟩)) (w.alloc (.cells e.before.toArray T))):Cert P Q w0 k0 X ops i its bl olds o it:=by
 refine rT b hk e hb T λμ a w hK _=>?_
 unfold execOp;rw[ho];rw[LW hout];show((Yn T true (.tuple #[])) >>= λv=>pure (UP v)).run P w=_;rw[SK,hz];rfl
theorem aE{fn:Func}{a:Act}{cs:List (List Value)}{ks:List Nat}(hS:St w0 k0 X cs ks w)(t:Tmp)(T:TypeId)(hr:fn.results=#[.cell t T])(b:Nat)(c:List Value)(hc:cs[b]? = some c)(ht:a.tmps[t]? = some (.pointer (some ⟨ad ks b,0,none⟩)))
 (hu:(P.underlying T).map (·.isRow)=some true) (hi:(P.info? T).map (·.size)=some c.length):(results fn a.tmps).run P w=.ok (.agg c.toArray) w:=by
 obtain⟨d,hu,hd⟩:=Sf.1 hu;have h1:=run_loadVar_mid (P:=P) w (ad ks b) 0 T c d (hS.has b c hc).1 hu hd hi;have h2:a.tmps.getD t undef=.pointer (some ⟨ad ks b,0,none⟩):=by rw[Sz,ht];rfl
 unfold results;rw[hr];simp only[Ve,Wu,WC,h2,asAddr];simp[SK,h1]
theorem St.begin(w:World):St w w.heap.size [] [] [] w:=⟨BelX.refl _ _ _,Se _,rfl,λb c h=>by simp at h,λb c h=>by simp at h⟩
end RG
namespace RG
open Go Go.RowKit
variable {P:Program}{ops:Array Oper}{Q:Exit->Act->World->Prop}{w0 w:World}{k0:Nat}{X:List Nat}{its:List It}{bl:List Bl}{olds:List (Tmp × SV)}{a0:Act}{i:Nat}{o:Oper}{it:It}
theorem aM(hk:it.kind=.pass)(h:it.out=.v undef):Cert P Q w0 k0 X ops i its bl olds o it:=by
 intro μ a w K _ _ _;rw[hk];exact h
theorem BF(hk:it.kind=.stay)(T:TypeId)(n:Nat)(t1:Tmp)(ho:o.op=.build T #[(n,.tmp t1)])(v1 v:Value)(hout:it.out=.v v)
 (h1:∀(μ:Nat->Nat) (a:Act),Known ops i its olds it.need μ a->a.eval (.tmp t1)=v1)
 (hb:∀w:World,(Instr.build T #[(n,v1)]).run P w=.ok v w):Cert P Q w0 k0 X ops i its bl olds o it:=by
 refine bW hk λμ a w hK _=>?_
 unfold execOp;rw[ho,hout];dsimp only;simp only[Xv,UJ,Yk,h1 μ a hK];rw[SK,hb];rfl
theorem aK(hk:it.kind=.stay)(op:BinOp)(T T':TypeId)(t1 t2:Tmp)(v1 v2 v:Value)(ho:o.op=.binOp op T (.tmp t1) (.tmp t2) T')(hout:it.out=.v v)
 (h1:∀(μ:Nat->Nat) (a:Act),Known ops i its olds it.need μ a->a.eval (.tmp t1)=v1) (h2:∀(μ:Nat->Nat) (a:Act),Known ops i its olds it.need μ a->a.eval (.tmp t2)=v2)
 (hg:∀w,(eqGuard op T (.tmp t1) (.tmp t2) v1 v2).run P w=.ok () w) (hb:∀w,(binOp op T v1 v2).run P w=.ok v w):Cert P Q w0 k0 X ops i its bl olds o it:=by
 refine bW hk λμ a w hK _=>?_
 unfold execOp;rw[ho,hout];dsimp only;rw[h1 μ a hK,h2 μ a hK,SK,SK,hg];dsimp only[Xy];rw[hb];rfl
theorem cK{fn:Func}{a:Act}(t:Tmp)(hr:fn.results=#[.tmp t])(v:Value)(ht:a.tmps[t]? = some v):(results fn a.tmps).run P w=.ok v w:=by
 have h2:a.tmps.getD t undef=v:=by rw[Sz,ht];rfl
 unfold results;rw[hr];simp only[Ve,Wu,WC,h2];simp[SK]
theorem aV{fn:Func}{a:Act}{cs:List (List Value)}{ks:List Nat}(hS:St w0 k0 X cs ks w)(t u:Tmp)(T:TypeId)(hr:fn.results=#[.cell t T,.tmp u])(b:Nat)(c:List Value)(hc:cs[b]? = some c)(ht:a.tmps[t]? = some (.pointer (some ⟨ad ks b,0,none⟩)))(v:Value)(hu2:a.tmps[u]? = some v)
 (hu:(P.underlying T).map (·.isRow)=some true) (hi:(P.info? T).map (·.size)=some c.length):(results fn a.tmps).run P w=.ok (.tuple #[.agg c.toArray,v]) w:=by
 obtain⟨d,hu,hd⟩:=Sf.1 hu;have h1:=run_loadVar_mid (P:=P) w (ad ks b) 0 T c d (hS.has b c hc).1 hu hd hi;have h2:a.tmps.getD t undef=.pointer (some ⟨ad ks b,0,none⟩):=by rw[Sz,ht];rfl
 have h3:a.tmps.getD u undef=v:=by rw[Sz,hu2];rfl
 unfold results;rw[hr];simp only[Ve,Wu,WC,h2,h3,asAddr];simp[SK,h1]
end RG
namespace RG
open Go Go.RowKit
variable {P:Program}{ops:Array Oper}{Q:Exit->Act->World->Prop}{w0 w:World}{k0:Nat}{X:List Nat}{its:List It}{bl:List Bl}{olds:List (Tmp × SV)}{a0 a:Act}{i:Nat}{o:Oper}{it:It}{μ:Nat->Nat}
structure Sl(a:Act)(n:Nat):Prop where
 size:a.tmps.size=n
 defers:a.defers=[]
theorem Sl.puts{n:Nat}(h:Sl a n):Sl (puts μ its a) n:=⟨by rw[xY];exact h.size,by rw[mB];exact h.defers⟩
theorem Ew{t:Tmp}{v:Value}(h:a.tmps[t]? = some v):a.eval (.tmp t)=v:=by
 show a.tmps.getD t undef=v;rw[Sz,h];rfl
theorem results_none{fn:Func}{tmps:Array Value}(hr:fn.results=#[]):(results fn tmps).run P w=.ok (.tuple #[]) w:=by
 unfold results;rw[hr];simp
theorem Gq{c:Code}{v0:Value}{n:Nat}(h0:a.tmps[0]? = some v0)(hs:a.tmps.size=n)(hd:a.defers=[])(h:∀a,Sl a n->a.tmps[0]? = some v0->c.wp P Q a w):c.wp P Q a w:=h a ⟨hs,hd⟩ h0
theorem JL{c:Code}{v0 v1:Value}{n:Nat}(h0:a.tmps[0]? = some v0)(h1:a.tmps[1]? = some v1)(hs:a.tmps.size=n)(hd:a.defers=[])(h:∀a,Sl a n->a.tmps[0]? = some v0->a.tmps[1]? = some v1->c.wp P Q a w):c.wp P Q a w:=h a ⟨hs,hd⟩ h0 h1
theorem QL{c:Code}{v0 v1 v2:Value}{n:Nat}(h0:a.tmps[0]? = some v0)(h1:a.tmps[1]? = some v1)(h2:a.tmps[2]? = some v2)(hs:a.tmps.size=n)(hd:a.defers=[])(h:∀a,Sl a n->a.tmps[0]? = some v0->a.tmps[1]? = some v1->a.tmps[2]? = some v2->c.wp P Q a w):c.wp P Q a w:=h a ⟨hs,hd⟩ h0 h1 h2
theorem lI(b:Nat)(hk:it.kind=.make b)(e:Bl)(hb:bl[b]? = some e)(T E:TypeId)(t1 t2:Tmp)(n:Nat)(hout:it.out=.s b n n)(ho:o.op=.makeSlice T (.tmp t1) (.tmp t2))
 (h1:∀(μ:Nat->Nat) (a:Act),Known ops i its olds it.need μ a->a.eval (.tmp t1)=iZ n) (h2:∀(μ:Nat->Nat) (a:Act),Known ops i its olds it.need μ a->a.eval (.tmp t2)=iZ n)
 (hz:∀w:World,(Instr.makeSlice T (iZ n) (iZ n)).run P w=.ok (.slice (some ⟨w.heap.size,0,none⟩) n n) (w.alloc (.cells e.before.toArray E))):Cert P Q w0 k0 X ops i its bl olds o it:=by
 refine rT b hk e hb E λμ a w hK _=>?_
 have hm:it.out.at (upd μ b w.heap.size)=.slice (some ⟨w.heap.size,0,none⟩) n n:=by
  rw[hout];show Tk (some ⟨upd μ b w.heap.size b,0,none⟩) n n=_;unfold upd;rw[if_pos rfl]
 unfold execOp;rw[ho];dsimp only;rw[h1 μ a hK,h2 μ a hK,hm,SK,hz];rfl
theorem fY(hk:it.kind=.stay)(t:Tmp)(s:SV)(v:Value)(hout:it.out=.v v)(hx:∀(μ:Nat->Nat) (a:Act),Known ops i its olds it.need μ a->a.eval (.tmp t)=s.at μ)
 (hE:∀(a:Act) (w:World),(execOp a.eval o).run P w=(execOp (λ_=>a.eval (.tmp t)) o).run P w) (hV:∀(μ:Nat->Nat) (w:World),(execOp (λ_=>s.at μ) o).run P w=.ok (.value v) w):Cert P Q w0 k0 X ops i its bl olds o it:=by
 refine bW hk λμ a w hK _=>?_
 rw[hE,hx μ a hK,hV,hout];rfl
theorem Dj(hk:it.kind=.call)(b:Nat)(e:Bl)(hb:bl[b]? = some e)(hal:e.al=none)(hst:readB ops i e=true)(he:e.before≠[])(f:FuncId)(args:(Nat->Nat)->Array Value)(v:Value)(hout:it.out=.v v)(hrun:∀(μ:Nat->Nat) (a:Act) (w:World),Known ops i its olds it.need μ a->(execOp a.eval o).run P w=.ok (.enter f (args μ)) w)
 (hc:∀(μ:Nat->Nat) (w:World),μ b<w.heap.size->w.rangeAt (μ b) 0 e.before->Calls P f (args μ) w (rZ w λr w'=>r=v)):Cert P Q w0 k0 X ops i its bl olds o it:=by
 intro μ a w K hK hR _;rw[hk];intro h;rw[hout]at h;have hr:=hR b e hb (SY hal) hst;have hlt:μ b<w.heap.size:=by
  cases hee:e.before with
  | nil=>exact absurd hee he
  | cons x r =>
   have h1:=hr 0 x (by rw[hee];rfl);exact TQ λhn=>by
    have h2:w.heap[μ b]? = none:=VD oM;simp[V6,h2]at h1
 unfold TZ;rw[hrun μ a w hK,UF];refine(hc μ w hlt hr).mono ?_;rintro r w' ⟨v',rfl,hb',rfl⟩;exact h w' hb'
theorem qY{k o:Nat}{C cs:List Value}(h:w.rangeAt k 0 C)(hs:∀j,j<cs.length->C[o+j]? = cs[j]?):w.rangeAt k o cs:=λj v hv=>by
 have hj:=(SI.1 hv).1;have:=h (o+j) v (by rw[hs j hj];exact hv);rwa[Sj]at this
theorem aY(hk:it.kind=.stay)(T:TypeId)(t u:Tmp)(ho:o.op=.indexAddr T (.tmp t) (.tmp u))(s:SV)(iv:Value)(hx:∀(μ:Nat->Nat) (a:Act),Known ops i its olds it.need μ a->a.eval (.tmp t)=s.at μ)(hy:∀(μ:Nat->Nat) (a:Act),Known ops i its olds it.need μ a->a.eval (.tmp u)=iv)
 (hf:∀(μ:Nat->Nat) (w:World),(To T (s.at μ) iv).run P w=.ok (it.out.at μ) w):Cert P Q w0 k0 X ops i its bl olds o it:=by
 refine bW hk λμ a w hK _=>?_
 unfold execOp;rw[ho];dsimp only;rw[hx μ a hK,hy μ a hK,SK,hf];rfl
theorem eK(hk:it.kind=.stay)(T:TypeId)(t:Tmp)(iv:Value)(ho:o.op=.indexAddr T (.tmp t) (.const iv))(s:SV)(hx:∀(μ:Nat->Nat) (a:Act),Known ops i its olds it.need μ a->a.eval (.tmp t)=s.at μ)
 (hf:∀(μ:Nat->Nat) (w:World),(To T (s.at μ) iv).run P w=.ok (it.out.at μ) w):Cert P Q w0 k0 X ops i its bl olds o it:=by
 refine bW hk λμ a w hK _=>?_
 unfold execOp;rw[ho];dsimp only;rw[hx μ a hK];show((To T (s.at μ) iv) >>= λv=>pure (UP v)).run P w=_;rw[SK,hf];rfl
theorem aG(hk:it.kind=.stay)(op:BinOp)(T T':TypeId)(t1:Tmp)(v1 v2 v:Value)(ho:o.op=.binOp op T (.tmp t1) (.const v2) T')(hout:it.out=.v v)
 (h1:∀(μ:Nat->Nat) (a:Act),Known ops i its olds it.need μ a->a.eval (.tmp t1)=v1)
 (hg:∀w,(eqGuard op T (.tmp t1) (.const v2) v1 v2).run P w=.ok () w) (hb:∀w,(binOp op T v1 v2).run P w=.ok v w):Cert P Q w0 k0 X ops i its bl olds o it:=by
 refine bW hk λμ a w hK _=>?_
 unfold execOp;rw[ho,hout];dsimp only;rw[h1 μ a hK];show(((eqGuard op T (.tmp t1) (.const v2) v1 v2) >>= λ_=>binOp op T v1 v2) >>= λv=>pure (UP v)).run P w=_;rw[SK,SK,hg];dsimp only[Xy];rw[hb];rfl
theorem nE(hk:it.kind=.stay)(S T:TypeId)(t:Tmp)(v v':Value)(ho:o.op=.convert S T (.tmp t))(hout:it.out=.v v')(hx:∀(μ:Nat->Nat) (a:Act),Known ops i its olds it.need μ a->a.eval (.tmp t)=v)(hc:∀w,(convert S T v).run P w=.ok v' w):Cert P Q w0 k0 X ops i its bl olds o it:=by
 refine bW hk λμ a w hK _=>?_
 unfold execOp;rw[ho,hout];dsimp only;rw[hx μ a hK,SK,hc];rfl
theorem LM(hk:it.kind=.stay)(op:UnOp)(T:TypeId)(t:Tmp)(v v':Value)(ho:o.op=.unOp op T (.tmp t))(hout:it.out=.v v')(hx:∀(μ:Nat->Nat) (a:Act),Known ops i its olds it.need μ a->a.eval (.tmp t)=v)(hc:∀w,(Op.unary op v).run P w=.ok v' w):Cert P Q w0 k0 X ops i its bl olds o it:=by
 refine bW hk λμ a w hK _=>?_
 unfold execOp;rw[ho,hout];dsimp only;rw[hx μ a hK,SK,hc];rfl
theorem eD(hk:it.kind=.stay)(k off:Nat)(hk0:k<k0)(hX:k ∉ X)(T:TypeId)(t:Tmp)(ho:o.op=.load T (.tmp t))(cs:List Value)(hout:it.out=.v (.agg cs.toArray))
 (hx:∀(μ:Nat->Nat) (a:Act),Known ops i its olds it.need μ a->a.eval (.tmp t)=.pointer (some ⟨k,off,none⟩)) (hr:w0.rangeAt k off cs)
 (hu:(P.underlying T).map (·.isRow)=some true) (hi:(P.info? T).map (·.size)=some cs.length):Cert P Q w0 k0 X ops i its bl olds o it:=by
 intro μ a w K hK _ hb;rw[hk];intro h;rw[hout]at h;obtain⟨d,hu,hd⟩:=Sf.1 hu;refine wp_load_mid T (.tmp t) ho k off (hx μ a hK) cs d (λj v hj=>?_) hu hd hi h;rw[SR (w:=w0) (a:=⟨k,off+j,none⟩) (hb.block k hk0 hX)];exact hr j v hj
theorem jZ{T:TypeId}{k off:Nat}{v:Value}(hc:w.cell? ⟨k,off,none⟩=some v)(hu:(P.underlying T).map (·.isRow)=some false):(XY T (.pointer (some ⟨k,off,none⟩))).run P w=.ok v w:=by
 obtain⟨d,hu,hd⟩:=Sf.1 hu;have hagg:(isAgg T).run P w=.ok false w:=by
  unfold isAgg;rw[SK,run_underlying hu w];cases d<;>simp_all
 simp[XY,VZ,loadVar,SK,hagg,hc]
theorem wJ(hk:it.kind=.stay)(b off:Nat)(e:Bl)(hb:bl[b]? = some e)(hal:e.al=none)(hst:readB ops i e=true)(T:TypeId)(t:Tmp)(ho:o.op=.load T (.tmp t))(v:Value)(hout:it.out=.v v)
 (hx:∀(μ:Nat->Nat) (a:Act),Known ops i its olds it.need μ a->a.eval (.tmp t)=(SV.p b off).at μ) (hsub:e.before[off]? = some v)
 (hu:(P.underlying T).map (·.isRow)=some false):Cert P Q w0 k0 X ops i its bl olds o it:=by
 intro μ a w K hK hR _;rw[hk];intro h;rw[hout]at h;have h1:=hR b e hb (SY hal) hst off v hsub;rw[Sj]at h1;unfold TZ execOp;rw[ho];dsimp only;rw[hx μ a hK];show o.upon P a K Q (((XY T (.pointer (some ⟨μ b,off,none⟩))) >>= λv=>pure (UP v)).run P w);rw[SK,jZ h1 hu];exact h
theorem Ch{T:TypeId}{k off:Nat}{v u:Value}(hc:w.cell? ⟨k,off,none⟩=some u)(hf:w.frozen? ⟨k,off,none⟩=false)(h1:v.oneCell'=true)(hv:v.cells=#[v])(hi:(P.info? T).map (·.size)=some 1):(V1 T (.pointer (some ⟨k,off,none⟩)) v).run P w=.ok () (w.setCells k off [v]):=by
 have:=run_storeCells_cells (P:=P) k off [v] 0 w (λj hj=>by
  obtain rfl:j=0:=by simpa using hj
  simp[hc]) (λj hj=>by
  obtain rfl:j=0:=by simpa using hj
  simpa using hf) (λx hx=>by
  obtain rfl:x=v:=by simpa using hx
  exact h1)
 cases hq:P.info? T with
 | none=>simp[hq]at hi
 | some inf =>
  have hs:inf.size=1:=by simp[hq]at hi;omega
  simp only[Ur]at this;simp[V1,VZ,storeVar,sizeOf,typeInfo,hq,hv,hs,this]
theorem FW(b off:Nat)(hk:it.kind=.put b)(e:Bl)(hb:bl[b]? = some e)(T:TypeId)(x y:Operand)(v:Value)(ho:o.op=.store T x y)(hdn:o.dst=none)
 (hx:∀(μ:Nat->Nat) (a:Act),Known ops i its olds it.need μ a->a.eval x=(SV.p b off).at μ) (hy:∀(μ:Nat->Nat) (a:Act),Known ops i its olds it.need μ a->a.eval y=v) (hoff:off<e.before.length) (hset:e.after=e.before.set off v)
 (hi:(P.info? T).map (·.size)=some 1) (h1:v.oneCell'=true) (hv:v.cells=#[v]):Cert P Q w0 k0 X ops i its bl olds o it:=by
 intro μ a w K hK _ _;rw[hk];intro e' hb' ht hr h;rw[hb]at hb';obtain rfl:e=e':=Td.inj hb';have hPT:PutTo (μ b) e.before.length e.after w (w.setCells (μ b) off [v]):=PutTo.store ht hr (by simp only[Tc,UE];omega) (λj=>by
  rw[hset,List.getElem?_set];by_cases hj:off=j
  ·subst hj;rw[if_pos rfl,if_pos hoff,if_pos (by simp)];simp
  ·rw[if_neg hj,if_neg (by simp only[Tc,UE];omega)])
 have ht':=ht off hoff;rw[Sj]at ht';obtain⟨u,hu⟩:=SU.1 ht'.1;unfold TZ execOp;rw[ho];dsimp only;rw[hx μ a hK,hy μ a hK];show o.upon P a K Q (((V1 T (.pointer (some ⟨μ b,off,none⟩)) v) >>= λ_=>pure Next.skip).run P w);rw[SK,Ch hu ht'.2 h1 hv hi];have:=h _ hPT;rw[hdn]at this;show K (a.put o.dst undef) _;rw[hdn];exact this
theorem eX(b off:Nat)(hk:it.kind=.put b)(e:Bl)(hb:bl[b]? = some e)(T:TypeId)(x y:Operand)(vs:List Value)(ho:o.op=.store T x y)(hdn:o.dst=none)
 (hx:∀(μ:Nat->Nat) (a:Act),Known ops i its olds it.need μ a->a.eval x=(SV.p b off).at μ) (hy:∀(μ:Nat->Nat) (a:Act),Known ops i its olds it.need μ a->a.eval y=.agg vs.toArray) (hoff:off+vs.length<=e.before.length)
 (hset:∀j,e.after[j]? = if off<=j/\j<off+vs.length then vs[j-off]? else e.before[j]?)
 (hi:(P.info? T).map (·.size)=some vs.length) (h1:vs.all (·.oneCell')=true):Cert P Q w0 k0 X ops i its bl olds o it:=by
 intro μ a w K hK _ _;rw[hk];intro e' hb' ht hr h;rw[hb]at hb';obtain rfl:e=e':=Td.inj hb';have hPT:=PutTo.store ht hr hoff hset;refine wp_store_mid T x y ho (μ b) off vs.toArray (hx μ a hK) (hy μ a hK) ?_ ?_ ?_ ?_
 ·intro j hj;have:=ht (off+j) (by rw[Tf]at hj;omega);rwa[Sj]at this
 ·rw[Tf];exact hi
 ·exact all_oneCell_toArray (λv hv=>S4.1 h1 v hv)
 ·have:=h _ hPT;rw[hdn]at this⊢;exact this
theorem Af(b:Nat)(hk:it.kind=.put b)(e:Bl)(hb:bl[b]? = some e)(f:FuncId)(args:(Nat->Nat)->Array Value)(v:Value)(hout:it.out=.v v)(hrun:∀(μ:Nat->Nat) (a:Act) (w:World),Known ops i its olds it.need μ a->BelX k0 X w0 w->(execOp a.eval o).run P w=.ok (.enter f (args μ)) w)
 (hc:∀(μ:Nat->Nat) (w:World),BelX k0 X w0 w->w.there (μ b) 0 e.before.length->w.rangeAt (μ b) 0 e.before->Calls P f (args μ) w (Ret λr w'=>PutTo (μ b) e.before.length e.after w w'/\r=v)):Cert P Q w0 k0 X ops i its bl olds o it:=by
 intro μ a w K hK _ hbel;rw[hk];intro e' hb' ht hr h;rw[hb]at hb';obtain rfl:e=e':=Td.inj hb';rw[hout]at h;unfold TZ;rw[hrun μ a w hK hbel,UF];refine(hc μ w hbel ht hr).mono ?_;rintro r w' ⟨v',rfl,hp,rfl⟩;exact h w' hp
theorem St.lent{k:Nat}{C:List Value}(hk:k<w.heap.size)(hr:w.rangeAt k 0 C)(ht:w.there k 0 C.length):St w w.heap.size [k] [C] [k] w:=by
 refine⟨BelX.refl _ _ _,Se _,rfl,λb c h=>?_,λb c hb hc hne=>?_⟩
 ·cases b with
  | zero =>
   obtain rfl:C=c:=by simpa using h
   exact⟨hr,ht,hk,SJ Ti⟩
  | succ b=>simp at h
 ·simp only[Tc,UE]at hb hc;omega
theorem St.putTo{k:Nat}{C:List Value}{cs:List (List Value)}{ks:List Nat}{n:Nat}(h:St w0 w0.heap.size [k] (C :: cs) (k :: ks) w)(hn:C.length=n):PutTo k n C w0 w:=by
 obtain⟨h1,h2,-,-⟩:=h.has 0 C rfl;refine⟨h.bel.os,h.bel.tape,h.bel.output,h.bel.size,λj hj hne=>h.bel.block j hj (by simpa using hne),h1,?_⟩;rw[<-hn];exact h2
def rep(C:List Value)(o:Nat)(vs:List Value):List Value:=C.take o++(vs++C.drop (o+vs.length))
theorem cX{C vs:List Value}{o:Nat}(h:o+vs.length<=C.length):(rep C o vs).length=C.length:=by
 unfold rep;rw[Su,Su,UZ,Wi];omega
theorem rep_at{C vs:List Value}{o:Nat}(h:o+vs.length<=C.length)(j:Nat):(rep C o vs)[j]? = if o<=j/\j<o+vs.length then vs[j-o]? else C[j]?:=by
 unfold rep;have hl:(C.take o).length=o:=by rw[UZ];omega
 by_cases h1:j<o
 ·rw[Ty (by rw[hl];exact h1),T0,if_pos h1,if_neg oM]
 ·rw[Ut (by rw[hl];omega),hl];by_cases h2:j<o+vs.length
  ·rw[Ty oM,if_pos ⟨oM,h2⟩]
  ·rw[Ut oM,if_neg oM,WG]
   congr 1
   omega
theorem Nj{C cs:List Value}{o:Nat}(h:∀j,j<cs.length->C[o+j]? = cs[j]?)(hl:o+cs.length<=C.length):(C.drop o).take cs.length=cs:=by
 apply List.ext_getElem?;intro j;by_cases hj:j<cs.length
 ·rw[T0,if_pos hj,WG,h j hj]
 ·rw[UO (by rw[UZ,Wi];omega),UO oM]
theorem xE(b:Nat)(hk:it.kind=.put b)(e:Bl)(hb:bl[b]? = some e)(f:FuncId)(t1 t2 t3:Tmp)(s1:SV)(v2 v3 v:Value)(hout:it.out=.v v)(hrun:∀(a:Act) (w:World),(execOp a.eval o).run P w=.ok (.enter f #[a.eval (.tmp t1),a.eval (.tmp t2),a.eval (.tmp t3)]) w)
 (h1:∀(μ:Nat->Nat) (a:Act),Known ops i its olds it.need μ a->a.eval (.tmp t1)=s1.at μ) (h2:∀(μ:Nat->Nat) (a:Act),Known ops i its olds it.need μ a->a.eval (.tmp t2)=v2) (h3:∀(μ:Nat->Nat) (a:Act),Known ops i its olds it.need μ a->a.eval (.tmp t3)=v3)
 (hc:∀(μ:Nat->Nat) (w:World),w.there (μ b) 0 e.before.length->w.rangeAt (μ b) 0 e.before->Calls P f #[s1.at μ,v2,v3] w (Ret λr w'=>PutTo (μ b) e.before.length e.after w w'/\r=v)):Cert P Q w0 k0 X ops i its bl olds o it:=
 Af b hk e hb f (λμ=>#[s1.at μ,v2,v3]) v hout (λμ a w hK _=>by rw[hrun,h1 μ a hK,h2 μ a hK,h3 μ a hK]) (λμ w _ ht hr=>hc μ w ht hr)
theorem BE(hk:it.kind=.call)(b:Nat)(e:Bl)(hb:bl[b]? = some e)(hal:e.al=none)(hst:readB ops i e=true)(he:e.before≠[])(f:FuncId)(t1 t2:Tmp)(s1:SV)(v2 v:Value)(hout:it.out=.v v)(hrun:∀(a:Act) (w:World),(execOp a.eval o).run P w=.ok (.enter f #[a.eval (.tmp t1),a.eval (.tmp t2)]) w)
 (h1:∀(μ:Nat->Nat) (a:Act),Known ops i its olds it.need μ a->a.eval (.tmp t1)=s1.at μ) (h2:∀(μ:Nat->Nat) (a:Act),Known ops i its olds it.need μ a->a.eval (.tmp t2)=v2)
 (hc:∀(μ:Nat->Nat) (w:World),μ b<w.heap.size->w.rangeAt (μ b) 0 e.before->Calls P f #[s1.at μ,v2] w (rZ w λr w'=>r=v)):Cert P Q w0 k0 X ops i its bl olds o it:=
 Dj hk b e hb hal hst he f (λμ=>#[s1.at μ,v2]) v hout (λμ a w hK=>by rw[hrun,h1 μ a hK,h2 μ a hK]) hc
end RG
namespace RG
open Go Go.RowKit
variable {P:Program}{ops:Array Oper}{Q:Exit->Act->World->Prop}{w0 w:World}{k0:Nat}{X:List Nat}{its:List It}{bl:List Bl}{olds:List (Tmp × SV)}{a:Act}{i:Nat}{o:Oper}{it:It}
theorem jP(hk:it.kind=.stay)(T:TypeId)(t:Tmp)(lo v v':Value)(ho:o.op=.slice T (.tmp t) (some (.const lo)) none none)(hout:it.out=.v v')(hx:∀(μ:Nat->Nat) (a:Act),Known ops i its olds it.need μ a->a.eval (.tmp t)=v)
 (hf:∀w:World,(VN T v (some lo) none none).run P w=.ok v' w):Cert P Q w0 k0 X ops i its bl olds o it:=by
 refine bW hk λμ a w hK _=>?_
 unfold execOp;rw[ho,hout];dsimp only;rw[hx μ a hK];show((VN T v (some lo) none none) >>= λv=>pure (UP v)).run P w=_;rw[SK,hf];rfl
theorem BD(hk:it.kind=.stay)(T:TypeId)(t:Tmp)(v v':Value)(ho:o.op=.sliceToArrayPointer T (.tmp t))(hout:it.out=.v v')(hx:∀(μ:Nat->Nat) (a:Act),Known ops i its olds it.need μ a->a.eval (.tmp t)=v)
 (hf:∀w:World,(Instr.arrayAt T v).run P w=.ok v' w):Cert P Q w0 k0 X ops i its bl olds o it:=by
 refine bW hk λμ a w hK _=>?_
 unfold execOp;rw[ho,hout];dsimp only;rw[hx μ a hK,SK,hf];rfl
theorem bK(hk:it.kind=.stay)(k off:Nat)(hk0:k<k0)(hX:k ∉ X)(T:TypeId)(t:Tmp)(ho:o.op=.load T (.tmp t))(v:Value)(hout:it.out=.v v)
 (hx:∀(μ:Nat->Nat) (a:Act),Known ops i its olds it.need μ a->a.eval (.tmp t)=.pointer (some ⟨k,off,none⟩)) (hr:w0.cell? ⟨k,off,none⟩=some v)
 (hu:(P.underlying T).map (·.isRow)=some false):Cert P Q w0 k0 X ops i its bl olds o it:=by
 refine bW hk λμ a w hK hb=>?_
 have h1:w.cell? ⟨k,off,none⟩=some v:=by
  rw[SR (w:=w0) (a:=⟨k,off,none⟩) (hb.block k hk0 hX)];exact hr
 unfold execOp;rw[ho,hout];dsimp only;rw[hx μ a hK,SK,jZ h1 hu];rfl
theorem jQ(hk:it.kind=.call)(f:FuncId)(t1 t2:Tmp)(v1 v2 v:Value)(hout:it.out=.v v)(hrun:∀(a:Act) (w:World),(execOp a.eval o).run P w=.ok (.enter f #[a.eval (.tmp t1),a.eval (.tmp t2)]) w)
 (h1:∀(μ:Nat->Nat) (a:Act),Known ops i its olds it.need μ a->a.eval (.tmp t1)=v1) (h2:∀(μ:Nat->Nat) (a:Act),Known ops i its olds it.need μ a->a.eval (.tmp t2)=v2)
 (hc:∀w,BelX k0 X w0 w->Calls P f #[v1,v2] w (rZ w λe w'=>e=v)):Cert P Q w0 k0 X ops i its bl olds o it:=
 rU hk f #[v1,v2] v hout (λμ a w hK _=>by rw[hrun,h1 μ a hK,h2 μ a hK]) hc
theorem sT(hk:it.kind=.call)(f:FuncId)(t1:Tmp)(v1 v:Value)(hout:it.out=.v v)(hrun:∀(a:Act) (w:World),(execOp a.eval o).run P w=.ok (.enter f #[a.eval (.tmp t1)]) w)
 (h1:∀(μ:Nat->Nat) (a:Act),Known ops i its olds it.need μ a->a.eval (.tmp t1)=v1)
 (hc:∀w,BelX k0 X w0 w->Calls P f #[v1] w (rZ w λe w'=>e=v)):Cert P Q w0 k0 X ops i its bl olds o it:=
 rU hk f #[v1] v hout (λμ a w hK _=>by rw[hrun,h1 μ a hK]) hc
theorem St.init{cs:List (List Value)}{c:List Value}{ks:List Nat}{k:Nat}(h:St w0 k0 X (cs++[c]) (ks++[k]) w):St w0 k0 X cs ks w:=by
 have hl:ks.length=cs.length:=by have:=h.len;simp only[Su,Tc,UE]at this;omega
 have had:∀b,b<cs.length->ad (ks++[k]) b=ad ks b:=λb hb=>by
  unfold ad;rw[TS,TS,Ty oM]
 refine⟨h.bel,h.le,hl,λb c' hb=>?_,λb c' hb hc hne=>?_⟩
 ·have hlt:=(SI.1 hb).1;have:=h.has b c' (by rw[Ty hlt];exact hb);rwa[had b hlt]at this
 ·have:=h.inj b c' (by rw[Su];omega) (by rw[Su];omega) hne;rwa[had b hb,had c' hc]at this
theorem gC{fn:Func}{a:Act}(t u:Tmp)(hr:fn.results=#[.tmp t,.tmp u])(v v':Value)(ht:a.tmps[t]? = some v)(hu:a.tmps[u]? = some v'):(results fn a.tmps).run P w=.ok (.tuple #[v,v']) w:=by
 have h2:a.tmps.getD t undef=v:=by rw[Sz,ht];rfl
 have h3:a.tmps.getD u undef=v':=by rw[Sz,hu];rfl
 unfold results;rw[hr];simp only[Ve,Wu,WC,h2,h3];simp[SK]
theorem wK(hk:it.kind=.stay)(T:TypeId)(t:Tmp)(lo v v':Value)(ho:o.op=.index T (.tmp t) (.const lo))(hout:it.out=.v v')(hx:∀(μ:Nat->Nat) (a:Act),Known ops i its olds it.need μ a->a.eval (.tmp t)=v)
 (hf:∀w:World,(Wv T v lo).run P w=.ok v' w):Cert P Q w0 k0 X ops i its bl olds o it:=by
 refine bW hk λμ a w hK _=>?_
 unfold execOp;rw[ho,hout];dsimp only;rw[hx μ a hK];show((Wv T v lo) >>= λv=>pure (UP v)).run P w=_;rw[SK,hf];rfl
theorem wM(b:Nat)(hk:it.kind=.make b)(e:Bl)(hb:bl[b]? = some e)(T E:TypeId)(t:Tmp)(v:Value)(hout:it.out=.s b 1 1)(ho:o.op=.buildSlice T 1 #[(0,.tmp t)])
 (hx:∀(μ:Nat->Nat) (a:Act),Known ops i its olds it.need μ a->a.eval (.tmp t)=v)
 (hz:∀w:World,(Instr.buildSlice T 1 #[(0,v)]).run P w=.ok (.slice (some ⟨w.heap.size,0,none⟩) 1 1) (w.alloc (.cells e.before.toArray E))):Cert P Q w0 k0 X ops i its bl olds o it:=by
 refine rT b hk e hb E λμ a w hK _=>?_
 have hm:it.out.at (upd μ b w.heap.size)=.slice (some ⟨w.heap.size,0,none⟩) 1 1:=by
  rw[hout];show Tk (some ⟨upd μ b w.heap.size b,0,none⟩) 1 1=_;unfold upd;rw[if_pos rfl]
 unfold execOp;rw[ho,hm];dsimp only;rw[show Array.map (λx:Nat × Operand=>match x with|(i,x)=>(i,a.eval x)) #[(0,Z5 t)]=#[(0,v)] by rw[Xv];simp only[UJ,Yk];rw[hx μ a hK],SK,hz];rfl
theorem wI(hk:it.kind=.stay)(b j:Nat)(e:Bl)(hb:bl[b]? = some e)(oo:Oper)(hoo:ops[i]? = some oo)(hal:e.al=some j)(hdep:bU oo j=true)(hst:readB ops i e=true)(S T:TypeId)(t:Tmp)(n:Nat)(v:Value)(ho:o.op=.convert S T (.tmp t))(hout:it.out=.v v)
 (hx:∀(μ:Nat->Nat) (a:Act),Known ops i its olds it.need μ a->a.eval (.tmp t)=(SV.s b n n).at μ)
 (hf:∀(w:World) (k:Nat),w.rangeAt k 0 e.before->(convert S T (.slice (some (aZ k)) n n)).run P w=.ok v w):Cert P Q w0 k0 X ops i its bl olds o it:=by
 intro μ a w K hK hR _;rw[hk];intro h;rw[hout]at h;have h1:=hR b e hb (SJ ⟨oo,j,hoo,hal,hdep⟩) hst;unfold TZ execOp;rw[ho];dsimp only;rw[hx μ a hK];show Oper.upon P o a K Q (((convert S T (.slice (some ⟨μ b,0,none⟩) n n)) >>= λv=>pure (UP v)).run P w);rw[SK,hf w (μ b) h1];exact h
theorem PY{c:Code}{v0 v1 v2:Value}{n:Nat}(t0 t1 t2:Tmp)(h0:a.tmps[t0]? = some v0)(h1:a.tmps[t1]? = some v1)(h2:a.tmps[t2]? = some v2)(hs:a.tmps.size=n)(hd:a.defers=[])
 (h:∀a,Sl a n->a.tmps[t0]? = some v0->a.tmps[t1]? = some v1->a.tmps[t2]? = some v2->c.wp P Q a w):c.wp P Q a w:=h a ⟨hs,hd⟩ h0 h1 h2
theorem St.new(w:World)(C:List Value)(T:TypeId):St w w.heap.size [] [C] [w.heap.size] (w.alloc (.cells C.toArray T)):=by
 refine⟨⟨rfl,rfl,rfl,by rw[Sq];omega,λj hj _=>(aB w _).block j hj⟩,by rw[Sq];omega,rfl,λb c h=>?_,λb c hb hc hne=>?_⟩
 ·cases b with
  | zero =>
   obtain rfl:C=c:=by simpa using h
   refine⟨λj v hv=>?_,λj hj=>?_,?_,SY (Se _)⟩
   ·show(w.alloc _).cell? ⟨w.heap.size,0+j,none⟩=some v;rw[Sj,S5];simpa using hv
   ·refine⟨?_,TU _ _ _ _⟩;show((w.alloc _).cell? ⟨w.heap.size,0+j,none⟩).isSome=true;rw[Sj,S5];simp[hj]
   ·show w.heap.size<_;rw[Sq];omega
  | succ b=>simp at h
 ·simp only[Tc,UE]at hb hc;omega
theorem St.more{cs:List (List Value)}{ks:List Nat}{w':World}(h:St w0 k0 X cs ks w)(hb:Below w.heap.size w w'):St w0 k0 X cs ks w':=by
 refine⟨⟨hb.os.trans h.bel.os,hb.tape.trans h.bel.tape,hb.output.trans h.bel.output,SD h.bel.size hb.size,λj hj hX=>?_⟩,SD h.le hb.size,h.len,λb c hc=>?_,h.inj⟩
 ·rw[hb.block j (Si hj h.le)];exact h.bel.block j hj hX
 ·obtain⟨h1,h2,h3,h4⟩:=h.has b c hc;exact⟨range_below h1 hb h3,eA h2 hb h3,Si h3 hb.size,h4⟩
theorem St.store1{C D:List Value}{k:Nat}(h:St w0 k0 X [C] [k] w)(T:TypeId)(hl:D.length=C.length)(hi:(P.info? T).map (·.size)=some D.length)(h1:D.all (·.oneCell')=true):
 ∃w2,(storeCells (aZ k) D).run P w=.ok () w2/\(storeVar T (aZ k) (.agg D.toArray)).run P w=.ok () w2/\(V1 T (pZ k) (.agg D.toArray)).run P w=.ok () w2/\St w0 k0 X [D] [k] w2:=by
 have hh:=h.has 0 C rfl;rw[show ad [k] 0=k from rfl]at hh;obtain⟨hr,ht,hlt,hor⟩:=hh;have hPT:=PutTo.whole ht hr hl;have hv:=run_storeVar_mid (P:=P) w k 0 T D.toArray (by rw[Tf,hl];exact ht) (by rw[Tf];exact hi) (all_oneCell_toArray (λv hv=>S4.1 h1 v hv));have hc:=run_storeCells_cells (P:=P) k 0 D 0 w (λj hj=>by simpa using(ht j (by rw[<-hl];exact hj)).1) (λj hj=>by simpa using(ht j (by rw[<-hl];exact hj)).2) (λv hv=>S4.1 h1 v hv);refine⟨_,hc,hv,?_,⟨⟨hPT.os.trans h.bel.os,hPT.tape.trans h.bel.tape,hPT.output.trans h.bel.output,SD h.bel.size hPT.size,λj hj hX=>?_⟩,SD h.le hPT.size,rfl,λb c hc=>?_,h.inj⟩⟩
 ·simp only[V1,VZ,SK,Sem.run_pure,Result.andThen_ok,hv]
 ·rw[<-h.bel.block j hj hX];refine hPT.block j (Si hj h.le) (λe=>?_);rcases hor with h5|h5
  ·omega
  ·exact hX (by rw[e];exact h5)
 ·cases b with
  | zero =>
   obtain rfl:D=c:=by simpa using hc
   refine⟨hPT.range,?_,Si hlt hPT.size,hor⟩;have:=hPT.there;rw[<-hl]at this;exact this
  | succ b=>simp at hc
end RG
namespace RG
open Go Go.RowKit
variable {P:Program}{ops:Array Oper}{Q:Exit->Act->World->Prop}{w0 w:World}{k0 n:Nat}{X:List Nat}{its:List It}{bl:List Bl}{os:List (Tmp × SV)}{a:Act}{i:Nat}{o:Oper}{it:It}{μ:Nat->Nat}{need:List (Tmp × Nat)}
def src(ops:Array Oper)(its:List It)(os:List (Tmp × SV))(need:List (Tmp × Nat))(i:Nat)(t:Tmp):Option SV:=
 match need.find? (λx=>x.1 == t) with
 | some x=>(its[x.2]?).map (·.out)
 | none=>match os.find? (λx=>x.1 == t) with
  | some x=>bif Et ops its i t then some x.2 else none
  | none=>none
theorem lV{t:Tmp}{s:SV}(h:src ops its os need i t=some s)(K:Known ops i its os need μ a):a.eval (.tmp t)=s.at μ:=by
 unfold src at h;cases hn:need.find? (λx=>x.1 == t) with
 | some x =>
  rw[hn]at h;dsimp only at h;have h1:=Ue hn;have h2:x.1=t:=by simpa using Vo hn
  obtain⟨jt,hj,rfl⟩:=Sf.1 h;exact K.op t x.2 (by rw[<-h2];exact h1) hj
 | none =>
  rw[hn]at h;dsimp only at h;cases ho:os.find? (λx=>x.1 == t) with
  | none=>rw[ho]at h;cases h
  | some x =>
   rw[ho]at h;dsimp only at h;have h1:=Ue ho;have h2:x.1=t:=by simpa using Vo ho
   cases hf:Et ops its i t with
   | false=>rw[hf]at h;cases h
   | true =>
    rw[hf]at h;obtain rfl:x.2=s:=Td.inj h;exact K.old t x.2 (by rw[<-h2];exact h1) hf
theorem sx{t:Tmp}{f:(Nat->Nat)->Value}(h:∀μ:Nat->Nat,(src ops its os need i t).map (λs=>s.at μ)=some (f μ):=by intro _;kernel_rfl):∀(μ:Nat->Nat) (a:Act),Known ops i its os need μ a->a.eval (.tmp t)=f μ:=λμ _ K=>by
 obtain⟨s,hs,he⟩:=Sf.1 (h μ);rw[lV hs K];exact he
def ro(ops:Array Oper)(its:List It)(os:List (Tmp × SV))(need:List (Tmp × Nat))(i:Nat)(μ:Nat->Nat):Operand->Value
 | .tmp t=>match src ops its os need i t with|some s=>s.at μ|none=>undef
 | .const v=>v
 | .global g=>pZ g
 | .func f=>.func (.func f) #[] #[]
def seen(ops:Array Oper)(its:List It)(os:List (Tmp × SV))(need:List (Tmp × Nat))(i:Nat)(o:Oper):Bool:=
 (match o.op with | .select _ _=>false|_=>true) && o.op.operands.all (λx=>match x with | .tmp t=>(src ops its os need i t).isSome|_=>true)
theorem m8(h:seen ops its os need i o=true)(K:Known ops i its os need μ a):execOp a.eval o=execOp (ro ops its os need i μ) o:=by
 simp only[seen,SC]at h;refine execOp_congr o (λcs b he=>?_) (λx hx=>?_)
 ·rw[he]at h;exact absurd h.1 (by simp)
 ·have h1:=Up.1 h.2 x hx;cases x with
  | tmp t =>
   dsimp only at h1;obtain⟨s,hs⟩:=SU.1 h1;rw[lV hs K];show _=(match src ops its os need i t with|some s=>s.at μ|none=>undef);rw[hs]
  | const v=>rfl
  | global g=>rfl
  | func f=>rfl
theorem st(h:∀(μ:Nat->Nat) (w:World),((seen ops its os it.need i o,it.kind),(execOp (ro ops its os it.need i μ) o).run P w)=((true,Kind.stay),.ok (.value (it.out.at μ)) w):=by intro _ _;kernel_rfl):Cert P Q w0 k0 X ops i its bl os o it:=by
 intro μ a w K hK _ hbel;have h0:=h μ w;simp only[Ud.injEq]at h0;rw[h0.1.2];intro hK2;unfold TZ;rw[m8 h0.1.1 hK,h0.2];exact hK2
theorem se{v v':Value}(e:v'=v)(h:∀(μ:Nat->Nat) (w:World),((seen ops its os it.need i o,it.kind,it.out),(execOp (ro ops its os it.need i μ) o).run P w)=((true,Kind.stay,SV.v v),.ok (.value v') w):=by intro _ _;kernel_rfl):Cert P Q w0 k0 X ops i its bl os o it:=by
 intro μ a w K hK _ hbel;have h0:=h μ w;simp only[Ud.injEq]at h0;rw[h0.1.2.1];intro hK2;rw[h0.1.2.2]at hK2;unfold TZ;rw[m8 h0.1.1 hK,h0.2,e];exact hK2
theorem mk(b:Nat)(T:TypeId)(h:∀(μ:Nat->Nat) (w:World),((seen ops its os it.need i o,it.kind),(execOp (ro ops its os it.need i μ) o).run P w)=((true,Kind.make b),.ok (.value (it.out.at (upd μ b w.heap.size))) (w.alloc (.cells (((bl[b]?).map (·.before)).getD []).toArray T))):=by intro _ _;kernel_rfl):Cert P Q w0 k0 X ops i its bl os o it:=by
 intro μ a w K hK _ hbel;have h0:=h μ w;simp only[Ud.injEq]at h0;rw[h0.1.2];intro e hb h2;unfold TZ;rw[m8 h0.1.1 hK,h0.2,hb];exact h2 _ _ (Made.alloc w e.before T)
theorem clB{f:FuncId}{args:Array Value}{v:Value}(h:∀(μ:Nat->Nat) (w:World),((seen ops its os it.need i o,it.kind,it.out),(execOp (ro ops its os it.need i μ) o).run P w)=((true,Kind.call,SV.v v),.ok (.enter f args) w))
 (hc:∀w,BelX k0 X w0 w->Calls P f args w (rZ w λe w'=>e=v)):Cert P Q w0 k0 X ops i its bl os o it:=by
 intro μ a w K hK _ hbel;have h0:=h μ w;simp only[Ud.injEq]at h0;rw[h0.1.2.1];intro hk;rw[h0.1.2.2]at hk;unfold TZ;rw[m8 h0.1.1 hK,h0.2,UF];refine(hc w hbel).mono ?_;rintro e w' ⟨v',rfl,hb,rfl⟩;exact hk w' hb
theorem cl{f:FuncId}{args:Array Value}{v:Value}(hc:∀w,Calls P f args w (rZ w λe w'=>e=v))(h:∀(μ:Nat->Nat) (w:World),((seen ops its os it.need i o,it.kind,it.out),(execOp (ro ops its os it.need i μ) o).run P w)=((true,Kind.call,SV.v v),.ok (.enter f args) w):=by intro _ _;kernel_rfl):Cert P Q w0 k0 X ops i its bl os o it:=
 clB h (λw _=>hc w)
theorem cm(b:Nat){f:FuncId}{args:Array Value}{c:List Value}(hc:∀w,BelX k0 X w0 w->Calls P f args w (Ret λe w'=>∃k,Made w k c w'/\e=it.out.at (λ_=>k)))
 (h:∀(μ:Nat->Nat) (w:World),((seen ops its os it.need i o,it.kind,(bl[b]?).map (·.before),it.out.blk),(execOp (ro ops its os it.need i μ) o).run P w)=((true,Kind.make b,some c,some b),.ok (.enter f args) w)):Cert P Q w0 k0 X ops i its bl os o it:=by
 intro μ a w K hK _ hbel;have h0:=h μ w;simp only[Ud.injEq]at h0;obtain⟨⟨h1,h2,h3,h4⟩,h5⟩:=h0;rw[h2];intro e hb hk;rw[hb]at h3;obtain rfl:e.before=c:=Td.inj h3;unfold TZ;rw[m8 h1 hK,h5,UF];refine(hc w hbel).mono ?_;rintro r w' ⟨v',rfl,k,hm,rfl⟩;have he:it.out.at (upd μ b k)=it.out.at (λ_=>k):=SV.at_congr λb' hb'=>by
  rw[h4]at hb';obtain rfl:=Td.inj hb';unfold upd;rw[if_pos rfl]
 have:=hk k w' hm;rw[he]at this;exact this
def Ah(ops:Array Oper)(i:Nat)(o:Oper)(bl:List Bl)(b:Nat):Bool:=match bl[b]? with
 | some e=>(match e.al with|none=>true|some j=>bU o j) && readB ops i e
 | none=>false
def Seen(bl:List Bl)(bs:List Nat)(μ:Nat->Nat)(w:World):Prop:=∀b∈bs,∀e:Bl,bl[b]? = some e->e.before≠[]->w.rangeAt (μ b) 0 e.before/\μ b<w.heap.size
theorem Kb{bs:List Nat}(ho:ops[i]? = some o)(h:bs.all (Ah ops i o bl)=true)(hR:Reads ops i bl μ w):Seen bl bs μ w:=λb hb e he hne=>by
 have h1:=S4.1 h b hb;unfold Ah at h1;rw[he]at h1;dsimp only at h1;rw[SC]at h1;have hr:=hR b e he (by
  cases ha:e.al with
  | none=>exact SY rfl
  | some j=>rw[ha]at h1;exact SJ ⟨o,j,ho,rfl,h1.1⟩) h1.2
 refine⟨hr,?_⟩;cases hee:e.before with
 | nil=>exact absurd hee hne
 | cons x r =>
  have h2:=hr 0 x (by rw[hee];rfl);exact TQ λhn=>by
   have h3:w.heap[μ b]? = none:=VD oM;simp[V6,h3]at h2
theorem cr(bs:List Nat){f:FuncId}{args:(Nat->Nat)->Array Value}{v:Value}(hc:∀(μ:Nat->Nat) (w:World),BelX k0 X w0 w->Seen bl bs μ w->Calls P f (args μ) w (rZ w λe w'=>e=v))
 (h:∀(μ:Nat->Nat) (w:World),((seen ops its os it.need i o,it.kind,it.out,bs.all (Ah ops i o bl),ops[i]?),(execOp (ro ops its os it.need i μ) o).run P w)=((true,Kind.call,SV.v v,true,some o),.ok (.enter f (args μ)) w)):Cert P Q w0 k0 X ops i its bl os o it:=by
 intro μ a w K hK hR hbel;have h0:=h μ w;simp only[Ud.injEq]at h0;obtain⟨⟨h1,h2,h3,h4,h6⟩,h5⟩:=h0;rw[h2];intro hk;rw[h3]at hk;unfold TZ;rw[m8 h1 hK,h5,UF];refine(hc μ w hbel (Kb h6 h4 hR)).mono ?_;rintro e w' ⟨v',rfl,hb,rfl⟩;exact hk w' hb
def ldv(ops:Array Oper)(its:List It)(bl:List Bl)(os:List (Tmp × SV))(i:Nat)(o:Oper)(it:It)(T:TypeId)(n:Nat):Option SV:=
 match it.kind,o.op with
 | .stay,.load T' (.tmp t)=>match src ops its os it.need i t with
  | some (.p b off)=>match bl[b]? with
   | some e=>bif T' == T && e.al.isNone && readB ops i e && (off+n).ble e.before.length then some (.v (.agg ((e.before.drop off).take n).toArray)) else none
   | none=>none
  | _=>none
 | _,_=>none
theorem ld{T:TypeId}{n:Nat}(hu:(P.underlying T).map (·.isRow)=some true)(hi:(P.info? T).map (·.size)=some n)(h:ldv ops its bl os i o it T n=some it.out:=by kernel_rfl):Cert P Q w0 k0 X ops i its bl os o it:=by
 unfold ldv at h;split at h
 ·rename_i T' t hk ho
  split at h
  ·rename_i b off hs
   split at h
   ·rename_i e hb
    cases hc:(T' == T && e.al.isNone && readB ops i e && (off+n).ble e.before.length) with
    | false=>rw[hc]at h;cases h
    | true =>
     rw[hc]at h;have h':=h;simp only[SC,beq_iff_eq,Option.isNone_iff_eq_none,Z2]at hc;obtain⟨⟨⟨rfl,hal⟩,hr⟩,hle⟩:=hc;have hlen:((e.before.drop off).take n).length=n:=by rw[UZ,Wi];omega
     refine nD hk b off e hb hal hr T' t ho ((e.before.drop off).take n) (Td.inj h').symm (λ_ _ K=>lV hs K) ?_ hu (by rw[hlen];exact hi);rw[hlen]
   ·cases h
  ·cases h
 ·cases h
def ptv(ops:Array Oper)(its:List It)(bl:List Bl)(os:List (Tmp × SV))(i:Nat)(o:Oper)(it:It)(T:TypeId)(n:Nat):Option (List Value):=
 match it.kind,o.op,o.dst with
 | .put b,.store T' (.tmp x) (.tmp y),none=>match src ops its os it.need i x,src ops its os it.need i y with
  | some (.p b' off),some (.v (.agg vs))=>match bl[b]? with
   | some e=>bif T' == T && b' == b && vs.size == n && (off+n).ble e.before.length && vs.toList.all (·.oneCell') then some (rep e.before off vs.toList) else none
   | none=>none
  | _,_=>none
 | _,_,_=>none
theorem pt{T:TypeId}{n:Nat}(hi:(P.info? T).map (·.size)=some n)(h:((ptv ops its bl os i o it T n).isSome,ptv ops its bl os i o it T n)=(true,match it.kind with | .put b=>(bl[b]?).map (·.after)|_=>none):=by kernel_rfl):Cert P Q w0 k0 X ops i its bl os o it:=by
 simp only[Ud.injEq]at h;obtain⟨hso,h⟩:=h;rw[h]at hso;unfold ptv at h;split at h
 ·rename_i b T' x y hk ho hdn
  rw[hk]at h hso;dsimp only at h hso;cases hb:bl[b]? with
  | none=>rw[hb]at hso;cases hso
  | some e =>
   rw[hb]at h;split at h
   ·rename_i b' off vs hx hy
    dsimp only at h;cases hc:(T' == T && b' == b && vs.size == n && (off+n).ble e.before.length && vs.toList.all (·.oneCell')) with
    | false=>rw[hc]at h;cases h
    | true =>
     rw[hc]at h;have h':some (rep e.before off vs.toList)=some e.after:=h;simp only[SC,beq_iff_eq,Z2]at hc;obtain⟨⟨⟨⟨rfl,rfl⟩,hn⟩,hle⟩,h1⟩:=hc;have hlen:vs.toList.length=n:=by rw[Array.length_toList];exact hn
     refine eX b' off hk e hb T' (.tmp x) (.tmp y) vs.toList ho hdn (λ_ _ K=>lV hx K) (λ_ _ K=>?_) (by rw[hlen];exact hle) (λj=>?_) (by rw[hlen];exact hi) h1
     ·rw[Array.toArray_toList];exact lV hy K
     ·rw[<-Td.inj h',rep_at (by rw[hlen];exact hle)]
   ·cases h
 ·rw[<-h]at hso;cases hso
def aft(pu:List (Nat × Nat × List Value))(b:Nat)(c:List Value):List Value:=match pu.find? (λx=>x.1 == b) with|some x=>x.2.2|none=>c
def sto(pu:List (Nat × Nat × List Value))(b:Nat):Option Nat:=(pu.find? (λx=>x.1 == b)).map (·.2.1)
def olB(pu:List (Nat × Nat × List Value)):Nat->List (List Value)->List Bl
 | _,[]=>[]
 | b,c :: r=>⟨c,aft pu b c,none,sto pu b⟩ :: olB pu (b+1) r
def mkB(pu:List (Nat × Nat × List Value)):Nat->List (Nat × List Value)->List Bl
 | _,[]=>[]
 | b,c :: r=>⟨c.2,aft pu b c.2,some c.1,sto pu b⟩ :: mkB pu (b+1) r
def bls(cs:List (List Value))(mk:List (Nat × List Value))(pu:List (Nat × Nat × List Value)):List Bl:=olB pu 0 cs++mkB pu cs.length mk
theorem pQ(pu:List (Nat × Nat × List Value)):∀(cs:List (List Value)) (b:Nat),(olB pu b cs).length=cs.length
 | [],_=>rfl
 | c :: r,b=>by rw[olB,Tc,pQ pu r,Tc]
theorem Ej(pu:List (Nat × Nat × List Value)):∀(cs:List (Nat × List Value)) (b:Nat),(mkB pu b cs).length=cs.length
 | [],_=>rfl
 | c :: r,b=>by rw[mkB,Tc,Ej pu r,Tc]
theorem uV(pu:List (Nat × Nat × List Value)):∀(cs:List (List Value)) (b:Nat),(olB pu b cs).map (·.before)=cs
 | [],_=>rfl
 | c :: r,b=>by rw[olB,UJ,uV pu r]
theorem vF(pu:List (Nat × Nat × List Value)):∀(cs:List (Nat × List Value)) (b:Nat),(mkB pu b cs).map (·.before)=cs.map (·.2)
 | [],_=>rfl
 | c :: r,b=>by rw[mkB,UJ,vF pu r,UJ]
theorem Ef(pu:List (Nat × Nat × List Value)):∀(cs:List (List Value)) (b j:Nat) (e:Bl),(olB pu b cs)[j]? = some e->e.al=none/\e.after=aft pu (b+j) e.before/\e.st=sto pu (b+j)
 | [],_,_,_,h=>by simp[olB]at h
 | c :: r,b,0,e,h=>by
  rw[olB,Vu]at h;obtain rfl:=Td.inj h;exact⟨rfl,rfl,rfl⟩
 | c :: r,b,j+1,e,h=>by
  rw[olB,UU]at h;have:=Ef pu r (b+1) j e h;rwa[show b+1+j=b+(j+1) by omega]at this
theorem Ek(pu:List (Nat × Nat × List Value)):∀(cs:List (Nat × List Value)) (b j:Nat) (e:Bl),(mkB pu b cs)[j]? = some e->(∃x∈cs,e.al=some x.1)/\e.after=aft pu (b+j) e.before/\e.st=sto pu (b+j)
 | [],_,_,_,h=>by simp[mkB]at h
 | c :: r,b,0,e,h=>by
  rw[mkB,Vu]at h;obtain rfl:=Td.inj h;exact⟨⟨c,Ti,rfl⟩,rfl,rfl⟩
 | c :: r,b,j+1,e,h=>by
  rw[mkB,UU]at h;obtain⟨⟨x,hx,h1⟩,h2⟩:=Ek pu r (b+1) j e h;refine⟨⟨x,S8 _ hx,h1⟩,?_⟩;rwa[show b+1+j=b+(j+1) by omega]at h2
variable {cs cs':List (List Value)}{mk:List (Nat × List Value)}{pu:List (Nat × Nat × List Value)}{ks:List Nat}
theorem Aj:(bls cs mk pu).length=cs.length+mk.length:=by rw[bls,Su,pQ,Ej]
theorem wR:(bls cs mk pu).map (·.before)=cs++mk.map (·.2):=by rw[bls,XG,uV,vF]
theorem tV{b:Nat}{e:Bl}(h:(bls cs mk pu)[b]? = some e):e.after=aft pu b e.before/\e.st=sto pu b/\((b<cs.length/\e.al=none)\/(cs.length<=b/\∃x∈mk,e.al=some x.1)):=by
 unfold bls at h;by_cases hb:b<cs.length
 ·rw[Ty (by rw[pQ];exact hb)]at h;have:=Ef pu cs 0 b e h;rw[Sj]at this;exact⟨this.2.1,this.2.2,SY ⟨hb,this.1⟩⟩
 ·rw[Ut (by rw[pQ];omega),pQ]at h;have:=Ek pu mk cs.length (b-cs.length) e h;rw[show cs.length+(b-cs.length)=b by omega]at this;exact⟨this.2.1,this.2.2,SJ ⟨oM,this.1⟩⟩
theorem yI:lU (bls cs mk pu) cs.length=true:=by
 simp only[lU,SC,decide_eq_true_eq];refine⟨S4.2 λx hx=>?_,by rw[Aj];omega⟩;rw[VS]at hx;rcases(tV hx).2.2 with⟨h1,h2⟩|⟨h1,y,-,h2⟩
 ·rw[h2];simp[h1]
 ·rw[h2];simp;omega
def inB(m:Nat)(mk:List (Nat × List Value))(pu:List (Nat × Nat × List Value)):Bool:=mk.all (λx=>x.1.blt m) && pu.all (λx=>x.2.1.blt m)
theorem EQ(h:inB its.length mk pu=true)(hl:pu.map (λx=>x.2.2.length)=pu.map (λx=>(((cs++mk.map (·.2))[x.1]?).getD []).length)):
 (∀e∈bls cs mk pu,∀j,e.al=some j\/e.st=some j->j<its.length)/\∀e∈bls cs mk pu,e.fin.length=e.before.length:=by
 simp only[inB,SC]at h;refine⟨λe he j hj=>?_,λe he=>?_⟩
 ·obtain⟨b,hb⟩:=Ub he;obtain⟨h1,h2,h3⟩:=tV hb;rcases hj with hj|hj
  ·rcases h3 with⟨-,h4⟩|⟨-,x,hx,h4⟩
   ·rw[h4]at hj;cases hj
   ·rw[h4]at hj;obtain rfl:=Td.inj hj;have:=S4.1 h.1 x hx;exact UX (TY this)
  ·rw[h2]at hj;unfold sto at hj;obtain⟨x,hx,rfl⟩:=Sf.1 hj;have:=S4.1 h.2 x (Ue hx);exact UX (TY this)
 ·obtain⟨b,hb⟩:=Ub he;obtain⟨h1,h2,-⟩:=tV hb;unfold Bl.fin;rw[h2,h1];unfold sto aft;cases hp:pu.find? (λx=>x.1 == b) with
  | none=>rfl
  | some x =>
   show x.2.2.length=_;have hm:=Ue hp;have hx:x.1=b:=by simpa using Vo hp
   have h5:=WQ.1 hl x hm;rw[h5,<-wR (pu:=pu),hx,Un,hb];rfl
def lk(its:List It)(os:List (Tmp × SV))(t:Tmp):Option SV:=
 match its.find? (λit=>it.dst == some t) with
 | some it=>some it.out
 | none=>(os.find? (λx=>x.1 == t)).map (·.2)
structure M(w0:World)(k0:Nat)(X:List Nat)(n:Nat)(cs:List (List Value))(ks:List Nat)(os:List (Tmp × SV))(a:Act)(w:World):Prop where
 st:St w0 k0 X cs ks w
 sl:Sl a n
 os:Olds a (ad ks) os
def All:Nat->(List Nat->Prop)->Prop
 | 0,f=>f []
 | n+1,f=>∀k:Nat,All n λl=>f (k :: l)
theorem All.get:∀ {n:Nat}{f:List Nat->Prop},All n f->∀l:List Nat,l.length=n->f l
 | 0,f,h,l,hl=>by rw[List.length_eq_zero_iff.1 hl];exact h
 | n+1,f,h,[],hl=>by simp at hl
 | n+1,f,h,k :: l,hl=>All.get (h k) l (by simpa using hl)
theorem LV{s:SV}{new:List Nat}(h:∀b,s.blk=some b->b<ks.length):s.at (ad (ks++new))=s.at (ad ks):=SV.at_congr λb hb=>by
 unfold ad;rw[TS,TS,Ty (h b hb)]
theorem Olds.mk'{μ:Nat->Nat}:∀ {l:List (Tmp × SV)},(∀x∈l,a.tmps[x.1]? = some (x.2.at μ))->Olds a μ l
 | [],_=>trivial
 | x :: r,h=>⟨h x Ti,Olds.mk' λy hy=>h y (S8 _ hy)⟩
theorem M.next{os':List (Tmp × SV)}{new:List Nat}{w':World}(h:M w0 k0 X n cs ks os a w)(hall:allB ops its (bls cs mk pu) os n=true)(hlk:(os'.map λx=>lk its os x.1)=os'.map λx=>some x.2)
 (hS:St w0 k0 X cs' (ks++new) w'):M w0 k0 X n cs' (ks++new) os' (puts (ad (ks++new)) its a) w':=by
 refine⟨hS,h.sl.puts,Olds.mk' λx hx=>?_⟩;have h1:=WQ.1 hlk x hx;simp only[allB,SC,beq_iff_eq]at hall;obtain⟨⟨⟨⟨hsz,hd⟩,hold⟩,hin⟩,hok⟩:=hall;unfold lk at h1;cases hf:its.find? (λit=>it.dst == some x.1) with
 | some it =>
  rw[hf]at h1;have hm:=Ue hf;have hdt:it.dst=some x.1:=by simpa using Vo hf
  obtain⟨j,hj⟩:=Ub hm;have hlt:=S4.1 hin it hm;rw[hdt]at hlt;have:=rC (ad (ks++new)) its a j it x.1 hd hj hdt (by rw[h.sl.size];simpa using hlt);rw[this,<-Td.inj h1]
 | none =>
  rw[hf]at h1;obtain⟨y,hy,hyx⟩:=Sf.1 h1;have hm:=Ue hy;have hyt:y.1=x.1:=by simpa using Vo hy
  have h2:=h.os.get y.1 y.2 hm;rw[kY _ its a x.1 (λit hit hdd=>by
   have:=List.find?_eq_none.1 hf it hit;rw[hdd]at this;simp at this),<-hyt,h2,<-hyx]
  congr 1
  refine(LV λb hb=>?_).symm;have h3:=S4.1 hold y hm;rw[hb]at h3;dsimp only at h3;cases he:(bls cs mk pu)[b]? with
  | none=>rw[he]at h3;cases h3
  | some e =>
   rw[he]at h3;rcases(tV he).2.2 with⟨h4,-⟩|⟨-,z,-,h5⟩
   ·rw[h.st.len];exact h4
   ·dsimp only at h3;rw[h5]at h3;simp at h3
theorem M.reg(h:M w0 k0 X n cs ks os a w)(hall:allB ops its (bls cs mk pu) os n=true)(hc:Certs P Q w0 k0 X ops its (bls cs mk pu) os 0 ops.toList its):Reg P ops Q w0 k0 X its (bls cs mk pu) os a (ad ks):=
 Reg.mk' (by rw[h.sl.size];exact hall) h.os hc
theorem BH:((bls cs mk pu).map (·.before)).take cs.length=cs:=by rw[wR,List.take_left'];rfl
theorem M.tx{id:Nat}(h:M w0 k0 X n cs ks os a w)(its:List It)(mk:List (Nat × List Value))(pu:List (Nat × Nat × List Value))(cs':List (List Value))(os':List (Tmp × SV))
 (hk:(allB ops its (bls cs mk pu) os n && inB its.length mk pu,(bls cs mk pu).map Bl.fin,os'.map λx=>lk its os x.1)=(true,cs',os'.map λx=>some x.2))
 (hl:pu.map (λx=>x.2.2.length)=pu.map (λx=>(((cs++mk.map (·.2))[x.1]?).getD []).length))
 (hc:Certs P Q w0 k0 X ops its (bls cs mk pu) os 0 ops.toList its)
 (hp:All mk.length λnew=>∀a' w',M w0 k0 X n cs' (ks++new) os' a' w'->Q .normal a' w'):(TX id ops false).wp P Q a w:=by
 simp only[Ud.injEq,SC]at hk;obtain⟨⟨h1,h2⟩,h3,h4⟩:=hk;refine region_text' h.st (h.reg h1 hc) yI BH (EQ h2 hl) λnew w' hn hS=>?_
 rw[Aj,VH]at hn;exact hp.get new hn _ _ (h.next h1 h4 (h3 ▸ hS))
theorem M.dr{id:Nat}(h:M w0 k0 X n cs ks os a w)(hm:P.follows .mixedOrders=true)(its:List It)(mk:List (Nat × List Value))(pu:List (Nat × Nat × List Value))(cs':List (List Value))(os':List (Tmp × SV))
 (hk:(allB ops its (bls cs mk pu) os n && inB its.length mk pu,(bls cs mk pu).map Bl.fin,os'.map λx=>lk its os x.1)=(true,cs',os'.map λx=>some x.2))
 (hl:pu.map (λx=>x.2.2.length)=pu.map (λx=>(((cs++mk.map (·.2))[x.1]?).getD []).length))
 (hc:Certs P Q w0 k0 X ops its (bls cs mk pu) os 0 ops.toList its)
 (hp:All mk.length λnew=>∀a' w',M w0 k0 X n cs' (ks++new) os' a' w'->Q .normal a' w'):(TX id ops true).wp P Q a w:=by
 simp only[Ud.injEq,SC]at hk;obtain⟨⟨h1,h2⟩,h3,h4⟩:=hk;refine region_draws' hm h.st (h.reg h1 hc) yI BH (EQ h2 hl) λnew w' hn hS=>?_
 rw[Aj,VH]at hn;exact hp.get new hn _ _ (h.next h1 h4 (h3 ▸ hS))
theorem EP:(bls cs [] []).map Bl.fin=cs:=by
 have h:∀(cs:List (List Value)) (b:Nat),(olB [] b cs).map Bl.fin=cs:=λcs=>by
  induction cs with
  | nil=>intro _;rfl
  | cons c r ih=>intro b;rw[olB,UJ,ih];rfl
 rw[bls,XG,h];exact U7 _
theorem M.tx0{id:Nat}(h:M w0 k0 X n cs ks os a w)(its:List It)(os':List (Tmp × SV))(hk:(allB ops its (bls cs [] []) os n,os'.map λx=>lk its os x.1)=(true,os'.map λx=>some x.2))
 (hc:Certs P Q w0 k0 X ops its (bls cs [] []) os 0 ops.toList its) (hp:∀a' w',M w0 k0 X n cs ks os' a' w'->Q .normal a' w'):(TX id ops false).wp P Q a w:=by
 simp only[Ud.injEq]at hk;refine h.tx its [] [] cs os' (by simp only[hk.1,hk.2,EP];rfl) rfl hc (λa' w' hM=>hp a' w' ?_);rwa[U7]at hM
theorem M.dr0{id:Nat}(h:M w0 k0 X n cs ks os a w)(hm:P.follows .mixedOrders=true)(its:List It)(os':List (Tmp × SV))(hk:(allB ops its (bls cs [] []) os n,os'.map λx=>lk its os x.1)=(true,os'.map λx=>some x.2))
 (hc:Certs P Q w0 k0 X ops its (bls cs [] []) os 0 ops.toList its) (hp:∀a' w',M w0 k0 X n cs ks os' a' w'->Q .normal a' w'):(TX id ops true).wp P Q a w:=by
 simp only[Ud.injEq]at hk;refine h.dr hm its [] [] cs os' (by simp only[hk.1,hk.2,EP];rfl) rfl hc (λa' w' hM=>hp a' w' ?_);rwa[U7]at hM
theorem M.t{id:Nat}(h:M w0 k0 X n cs ks os a w)(its:List It)(mk:List (Nat × List Value))(pu:List (Nat × Nat × List Value))(cs':List (List Value))(os':List (Tmp × SV))(hc:Certs P Q w0 k0 X ops its (bls cs mk pu) os 0 ops.toList its)(hp:All mk.length λnew=>∀a' w',M w0 k0 X n cs' (ks++new) os' a' w'->Q .normal a' w')(hk:(allB ops its (bls cs mk pu) os n && inB its.length mk pu,(bls cs mk pu).map Bl.fin,os'.map λx=>lk its os x.1)=(true,cs',os'.map λx=>some x.2):=by kernel_rfl)(hl:pu.map (λx=>x.2.2.length)=pu.map (λx=>(((cs++mk.map (·.2))[x.1]?).getD []).length):=by kernel_rfl):(TX id ops false).wp P Q a w:=h.tx its mk pu cs' os' hk hl hc hp
theorem M.d{id:Nat}(h:M w0 k0 X n cs ks os a w)(its:List It)(mk:List (Nat × List Value))(pu:List (Nat × Nat × List Value))(cs':List (List Value))(os':List (Tmp × SV))(hc:Certs P Q w0 k0 X ops its (bls cs mk pu) os 0 ops.toList its)(hp:All mk.length λnew=>∀a' w',M w0 k0 X n cs' (ks++new) os' a' w'->Q .normal a' w')(hk:(allB ops its (bls cs mk pu) os n && inB its.length mk pu,(bls cs mk pu).map Bl.fin,os'.map λx=>lk its os x.1)=(true,cs',os'.map λx=>some x.2):=by kernel_rfl)(hl:pu.map (λx=>x.2.2.length)=pu.map (λx=>(((cs++mk.map (·.2))[x.1]?).getD []).length):=by kernel_rfl)(hm:P.follows .mixedOrders=true:=by kernel_rfl):(TX id ops true).wp P Q a w:=h.dr hm its mk pu cs' os' hk hl hc hp
theorem M.u{id:Nat}(h:M w0 k0 X n cs ks os a w)(its:List It)(os':List (Tmp × SV))(hc:Certs P Q w0 k0 X ops its (bls cs [] []) os 0 ops.toList its)(hp:∀a' w',M w0 k0 X n cs ks os' a' w'->Q .normal a' w')(hk:(allB ops its (bls cs [] []) os n,os'.map λx=>lk its os x.1)=(true,os'.map λx=>some x.2):=by kernel_rfl):(TX id ops false).wp P Q a w:=h.tx0 its os' hk hc hp
theorem M.e{id:Nat}(h:M w0 k0 X n cs ks os a w)(its:List It)(os':List (Tmp × SV))(hc:Certs P Q w0 k0 X ops its (bls cs [] []) os 0 ops.toList its)(hp:∀a' w',M w0 k0 X n cs ks os' a' w'->Q .normal a' w')(hk:(allB ops its (bls cs [] []) os n,os'.map λx=>lk its os x.1)=(true,os'.map λx=>some x.2):=by kernel_rfl)(hm:P.follows .mixedOrders=true:=by kernel_rfl):(TX id ops true).wp P Q a w:=h.dr0 hm its os' hk hc hp
theorem M.at(h:M w0 k0 X n cs ks os a w){t:Tmp}{s:SV}(hs:(os.find? (λx=>x.1 == t)).map (·.2)=some s:=by kernel_rfl):a.tmps[t]? = some (s.at (ad ks)):=by
 obtain⟨y,hy,rfl⟩:=Sf.1 hs;have hyt:y.1=t:=by simpa using Vo hy
 rw[<-hyt];exact h.os.get y.1 y.2 (Ue hy)
theorem St.made{w w':World}{cs:List (List Value)}{ks:List Nat}(h:St w w.heap.size [] cs ks w'){b:Nat}{c:List Value}(hb:cs[b]? = some c):Made w (ad ks b) c w':=by
 obtain⟨h1,h2,h3,h4⟩:=h.has b c hb;exact⟨h.bel.below,h4.elim id (λh=>absurd h SL),h3,h1,h2⟩
theorem M.av(h:M w0 k0 X n cs ks os a w){t:Tmp}{v:Value}(hs:(os.find? (λx=>x.1 == t)).map (·.2)=some (.v v):=by kernel_rfl):a.tmps[t]? = some v:=h.at hs
theorem M.ev(h:M w0 k0 X n cs ks os a w){t:Tmp}{v:Value}(hs:(os.find? (λx=>x.1 == t)).map (·.2)=some (.v v):=by kernel_rfl):a.eval (.tmp t)=v:=Ew (h.at hs)
theorem M.enter{c:Code}(os:List (Tmp × SV))(n:Nat)(h:(os.map λx=>a.tmps[x.1]?,a.tmps.size,a.defers)=(os.map λx=>some (x.2.at (ad [])),n,[]))(hp:∀a,M w w.heap.size [] n [] [] os a w->c.wp P Q a w):c.wp P Q a w:=by
 simp only[Ud.injEq]at h;exact hp a ⟨St.begin w,⟨h.2.1,h.2.2⟩,Olds.mk' λx hx=>WQ.1 h.1 x hx⟩
theorem M.drop{w0 w:World}{k0 n:Nat}{X:List Nat}{cs cs2:List (List Value)}{ks ks2:List Nat}{os:List (Tmp × SV)}{a:Act}(h:M w0 k0 X n (cs++cs2) (ks++ks2) os a w)(hl:ks.length=cs.length)
 (ho:os.all (λx=>match x.2.blk with|none=>true|some b=>b.blt cs.length)=true):M w0 k0 X n cs ks os a w:=by
 have had:∀b,b<cs.length->ad (ks++ks2) b=ad ks b:=λb hb=>by
  unfold ad;rw[TS,TS,Ty oM]
 refine⟨⟨h.st.bel,h.st.le,hl,λb c hb=>?_,λb c hb hc hne=>?_⟩,h.sl,Olds.mk' λx hx=>?_⟩
 ·have hlt:=(SI.1 hb).1;have:=h.st.has b c (by rw[Ty hlt];exact hb);rwa[had b hlt]at this
 ·have:=h.st.inj b c (by rw[Su];omega) (by rw[Su];omega) hne;rwa[had b hb,had c hc]at this
 ·rw[h.os.get x.1 x.2 hx]
  congr 1
  refine SV.at_congr λb hb=>?_
  have h1:=S4.1 ho x hx;rw[hb]at h1;exact had b (UX (TY h1))
abbrev z(n:Nat):List Value:=List.replicate n (uZ 0)
def It.s(d:Tmp)(need:List (Tmp × Nat))(out:SV):It:=⟨some d,need,out,.stay⟩
def It.x(d:Tmp)(need:List (Tmp × Nat))(v:Value):It:=⟨some d,need,.v v,.stay⟩
def It.c(d:Tmp)(need:List (Tmp × Nat))(v:Value):It:=⟨some d,need,.v v,.call⟩
def It.m(d:Tmp)(need:List (Tmp × Nat))(b:Nat):It:=⟨some d,need,.p b 0,.make b⟩
def It.u(need:List (Tmp × Nat))(b:Nat):It:=⟨none,need,.v undef,.put b⟩
end RG
namespace RG
open Go Go.RowKit
variable {P:Program}{ops:Array Oper}{Q:Exit->Act->World->Prop}{w0 w:World}{k0 n:Nat}{X ks:List Nat}{cs:List (List Value)}{os:List (Tmp × SV)}{a:Act}
inductive Hh where
 | x (v:Value)
 | c (v:Value)
 | s (v:SV)
 | m (b:Nat)
 | u (b:Nat)
def nd(ops:Array Oper)(i:Nat):List (Tmp × Nat):=
 match ops[i]? with
 | none=>[]
 | some o=>o.op.operands.toList.filterMap λx=>match x with
  | .tmp t=>((TD i).find? λj=>match ops[j]? with|some p=>p.dst == some t && bU o j|none=>false).map λj=>(t,j)
  | _=>none
def dt(ops:Array Oper)(i:Nat):Option Tmp:=(ops[i]?).bind (·.dst)
def Hh.it(ops:Array Oper)(i:Nat):Hh->It
 | .x v=>⟨dt ops i,nd ops i,.v v,.stay⟩
 | .c v=>⟨dt ops i,nd ops i,.v v,.call⟩
 | .s v=>⟨dt ops i,nd ops i,v,.stay⟩
 | .m b=>⟨dt ops i,nd ops i,.p b 0,.make b⟩
 | .u b=>⟨none,nd ops i,.v undef,.put b⟩
def mkL(ops:Array Oper):Nat->List Hh->List It
 | _,[]=>[]
 | i,h :: r=>h.it ops i :: mkL ops (i+1) r
def kps(its:List It)(os:List (Tmp × SV))(l:List Tmp):List (Tmp × SV):=l.filterMap λt=>(lk its os t).map λs=>(t,s)
theorem M.U{id:Nat}(h:M w0 k0 X n cs ks os a w)(hs:List Hh)(kp:List Tmp)(hc:Certs P Q w0 k0 X ops (mkL ops 0 hs) (bls cs [] []) os 0 ops.toList (mkL ops 0 hs))(hp:∀a' w',M w0 k0 X n cs ks (kps (mkL ops 0 hs) os kp) a' w'->Q .normal a' w')(hk:(allB ops (mkL ops 0 hs) (bls cs [] []) os n,(kps (mkL ops 0 hs) os kp).map λx=>lk (mkL ops 0 hs) os x.1)=(true,(kps (mkL ops 0 hs) os kp).map λx=>some x.2):=by kernel_rfl):(TX id ops false).wp P Q a w:=h.u _ _ hc hp hk
theorem M.E{id:Nat}(h:M w0 k0 X n cs ks os a w)(hs:List Hh)(kp:List Tmp)(hc:Certs P Q w0 k0 X ops (mkL ops 0 hs) (bls cs [] []) os 0 ops.toList (mkL ops 0 hs))(hp:∀a' w',M w0 k0 X n cs ks (kps (mkL ops 0 hs) os kp) a' w'->Q .normal a' w')(hk:(allB ops (mkL ops 0 hs) (bls cs [] []) os n,(kps (mkL ops 0 hs) os kp).map λx=>lk (mkL ops 0 hs) os x.1)=(true,(kps (mkL ops 0 hs) os kp).map λx=>some x.2):=by kernel_rfl)(hm:P.follows .mixedOrders=true:=by kernel_rfl):(TX id ops true).wp P Q a w:=h.e _ _ hc hp hk hm
theorem M.T{id:Nat}(h:M w0 k0 X n cs ks os a w)(hs:List Hh)(mk:List (Nat × List Value))(pu:List (Nat × Nat × List Value))(cs':List (List Value))(kp:List Tmp)(hc:Certs P Q w0 k0 X ops (mkL ops 0 hs) (bls cs mk pu) os 0 ops.toList (mkL ops 0 hs))(hp:All mk.length λnew=>∀a' w',M w0 k0 X n cs' (ks++new) (kps (mkL ops 0 hs) os kp) a' w'->Q .normal a' w')(hk:(allB ops (mkL ops 0 hs) (bls cs mk pu) os n && inB (mkL ops 0 hs).length mk pu,(bls cs mk pu).map Bl.fin,(kps (mkL ops 0 hs) os kp).map λx=>lk (mkL ops 0 hs) os x.1)=(true,cs',(kps (mkL ops 0 hs) os kp).map λx=>some x.2):=by kernel_rfl)(hl:pu.map (λx=>x.2.2.length)=pu.map (λx=>(((cs++mk.map (·.2))[x.1]?).getD []).length):=by kernel_rfl):(TX id ops false).wp P Q a w:=h.t _ mk pu cs' _ hc hp hk hl
theorem M.D{id:Nat}(h:M w0 k0 X n cs ks os a w)(hs:List Hh)(mk:List (Nat × List Value))(pu:List (Nat × Nat × List Value))(cs':List (List Value))(kp:List Tmp)(hc:Certs P Q w0 k0 X ops (mkL ops 0 hs) (bls cs mk pu) os 0 ops.toList (mkL ops 0 hs))(hp:All mk.length λnew=>∀a' w',M w0 k0 X n cs' (ks++new) (kps (mkL ops 0 hs) os kp) a' w'->Q .normal a' w')(hk:(allB ops (mkL ops 0 hs) (bls cs mk pu) os n && inB (mkL ops 0 hs).length mk pu,(bls cs mk pu).map Bl.fin,(kps (mkL ops 0 hs) os kp).map λx=>lk (mkL ops 0 hs) os x.1)=(true,cs',(kps (mkL ops 0 hs) os kp).map λx=>some x.2):=by kernel_rfl)(hl:pu.map (λx=>x.2.2.length)=pu.map (λx=>(((cs++mk.map (·.2))[x.1]?).getD []).length):=by kernel_rfl)(hm:P.follows .mixedOrders=true:=by kernel_rfl):(TX id ops true).wp P Q a w:=h.d _ mk pu cs' _ hc hp hk hl hm
end RG
namespace NT
def IsP(n:Nat):Prop:=2<=n/\∀m,m ∣ n->m=1\/m=n
theorem IsP.cop{p k:Nat}(h:IsP p)(h0:0<k)(hk:k<p):Xt p k:=by
 unfold Xt;rcases h.2 _ (Xr p k)with e|e
 ·exact e
 ·have:=Vn h0 (WU p k);omega
theorem IsP.cop_of{p k:Nat}(h:IsP p)(hk:¬p ∣ k):Xt p k:=by
 unfold Xt;rcases h.2 _ (Xr p k)with e|e
 ·exact e
 ·exact absurd (e ▸ WU p k) hk
theorem IsP.euclid{p a b:Nat}(h:IsP p)(hd:p ∣ a*b):p ∣ a\/p ∣ b:=by
 by_cases ha:p ∣ a
 ·exact SY ha
 ·exact SJ ((h.cop_of ha).dvd_of_dvd_mul_left hd)
/-! the binomials -/
def ch: Nat -> Nat -> Nat
  | _, 0 => 1
  | 0, _ + 1 => 0
  | n + 1, k + 1 => ch n k + ch n (k + 1)
theorem qG(n:Nat):ch n 0=1:=by cases n<;>rfl
theorem qH:∀(n k:Nat),n<k->ch n k=0
 | 0,k+1,_=>rfl
 | n+1,k+1,h=>by
  rw[ch,qH n k oM,qH n (k+1) oM]
theorem EF:∀(n:Nat),ch n n=1
 | 0=>rfl
 | n+1=>by rw[ch,EF n,qH n (n+1) oM]
theorem tU:∀(n k:Nat),(k+1)*ch (n+1) (k+1)=(n+1)*ch n k
 | 0,0=>rfl
 | 0,k+1=>by simp[ch]
 | n+1,0=>by
  have h:=tU n 0;have e:ch (n+1+1) (0+1)=ch (n+1) 0+ch (n+1) (0+1):=rfl;rw[qG]at h;rw[e,qG];omega
 | n+1,k+1=>by
  have h1:=tU n k;have h2:=tU n (k+1);have e:ch (n+1+1) (k+1+1)=ch (n+1) (k+1)+ch (n+1) (k+1+1):=rfl;have e3:ch (n+1) (k+1)=ch n k+ch n (k+1):=rfl;rw[e,U4,h2];have:(k+1+1)*ch (n+1) (k+1)=(n+1)*ch n k+ch (n+1) (k+1):=by
   rw[<-h1,Vb (k+1) 1,UL]
  rw[this,e3,Vb (n+1) 1,UL,U4];omega
def sumTo:Nat->(Nat->Nat)->Nat
 | 0,_=>0
 | n+1,f=>sumTo n f+f n
theorem sumTo_congr(f g:Nat->Nat):∀n,(∀k,k<n->f k=g k)->sumTo n f=sumTo n g
 | 0,_=>rfl
 | n+1,h=>by
  rw[sumTo,sumTo,sumTo_congr f g n (λk hk=>h k oM),h n oM]
theorem xN(f g:Nat->Nat):∀n,sumTo n (λk=>f k+g k)=sumTo n f+sumTo n g
 | 0=>rfl
 | n+1=>by simp only[sumTo];rw[xN f g n];omega
theorem xK(a:Nat)(f:Nat->Nat):∀n,sumTo n (λk=>a*f k)=a*sumTo n f
 | 0=>rfl
 | n+1=>by simp only[sumTo];rw[xK a f n,U4]
theorem jE(f:Nat->Nat):∀n,sumTo (n+1) f=f 0+sumTo n (λk=>f (k+1))
 | 0=>by simp[sumTo]
 | n+1=>by rw[sumTo,jE f n];simp only[sumTo];omega
theorem xM(p:Nat)(f:Nat->Nat):∀n,(∀k,k<n->p ∣ f k)->p ∣ sumTo n f
 | 0,_=>Nat.dvd_zero p
 | n+1,h=>Nat.dvd_add (xM p f n (λk hk=>h k oM)) (h n oM)
theorem MH(a:Nat):∀n,(a+1)^n=sumTo (n+1) (λk=>ch n k*a^k)
 | 0=>by simp[sumTo,ch]
 | n+1=>by
  rw[T8,MH a n,U4,UW];rw[jE (λk=>ch (n+1) k*a^k) (n+1)];have e:sumTo (n+1) (λk=>ch (n+1) (k+1)*a^(k+1))
   = sumTo (n+1) (λk=>a*(ch n k*a^k))+sumTo (n+1) (λk=>ch n (k+1)*a^(k+1)):=by
   rw[<-xN];refine sumTo_congr _ _ _ ?_;intro k _;show(ch n k+ch n (k+1))*a^(k+1)=_;rw[Vb,T8];have:ch n k*(a^k*a)=a*(ch n k*a^k):=by
    rw[S9 a,Uy]
   rw[this]
  rw[e,xK];have e2:sumTo (n+1) (λk=>ch n k*a^k)
   = ch n 0*a^0+sumTo n (λk=>ch n (k+1)*a^(k+1)):=jE (λk=>ch n k*a^k) n
  have e3:sumTo (n+1) (λk=>ch n (k+1)*a^(k+1))=sumTo n (λk=>ch n (k+1)*a^(k+1)):=by
   rw[sumTo,qH n (n+1) oM,ZH,Ur]
  have e4:ch (n+1) 0*a^0=ch n 0*a^0:=by rw[qG,qG]
  rw[e3,e4,S9 _ a];omega
theorem IsP.ch_dvd{p k:Nat}(h:IsP p)(hk:k+1<p):p ∣ ch p (k+1):=by
 obtain⟨n,rfl⟩:∃n,p=n+1:=⟨p-1,by have:=h.1;omega⟩
 have e:=tU n k;have hd:(n+1) ∣ (k+1)*ch (n+1) (k+1):=e ▸ Nat.dvd_mul_right _ _;exact(h.cop oM hk).dvd_of_dvd_mul_left hd
theorem IsP.frob{p:Nat}(h:IsP p)(a:Nat):(a+1)^p%p=(a^p+1)%p:=by
 obtain⟨n,rfl⟩:∃n,p=n+1:=⟨p-1,by have:=h.1;omega⟩
 rw[MH,sumTo,jE,EF,qG];obtain⟨c,hc⟩:(n+1) ∣ sumTo n (λk=>ch (n+1) (k+1)*a^(k+1)):=
  xM _ _ _ (λk hk=>Nat.dvd_mul_right_of_dvd (h.ch_dvd oM) _)
 rw[hc];have:1*a^0+(n+1)*c+1*a^(n+1)=(a^(n+1)+1)+(n+1)*c:=by
  rw[UV];omega
 rw[this,XP]
theorem IsP.fermat{p:Nat}(h:IsP p):∀a,a^p%p=a%p
 | 0=>by
  rw[ZG (by have:=h.1;omega)]
 | a+1=>by
  rw[h.frob,VI,h.fermat a,<-VI]
theorem IsP.cancel{p a x y:Nat}(h:IsP p)(ha:¬p ∣ a)(e:a*x%p=a*y%p):x%p=y%p:=by
 have key:∀x y,y<=x->a*x%p=a*y%p->x%p=y%p:=by
  intro x y hle e;have h1:=U1 (Nat.sub_mod_eq_zero_of_mod_eq e);rw[<-Nat.mul_sub]at h1;obtain⟨c,hc⟩:=(h.cop_of ha).dvd_of_dvd_mul_left h1;have:x=y+p*c:=oM;rw[this,XP]
 rcases ZJ y x with hle|hle
 ·exact key x y hle e
 ·exact(key y x hle e.symm).symm
theorem IsP.fermat1{p:Nat}(h:IsP p)(a:Nat)(ha:¬p ∣ a):a^(p-1)%p=1:=by
 obtain⟨n,rfl⟩:∃n,p=n+1:=⟨p-1,by have:=h.1;omega⟩
 have e:=h.fermat a;rw[T8,S9]at e;have:=h.cancel ha (x:=a^n) (y:=1) (by rw[e,UW]);rw[Nat.add_sub_cancel,this,SA h.1]
/-! powers that are 1 -/
theorem Kz(b r : Nat)(hr : 1<r)(x y : Nat): b^x%r=1 -> b^y%r=1 -> b^(YT x y)%r=1:=by
  induction x, y using YT.induction with
  | H0 n => intro _ h; rw[Nat.gcd_zero_left]; exact h
  | H1 m n hm ih =>
    intro h1 h2;rw[Nat.gcd_rec];refine ih ?_ h1;have e : b^n=(b^m)^(n/m) * b^(n%m):=by
      rw[<-WE, <-Uz, Nat.div_add_mod]
    rw[e, UA, Yq, h1, Nat.one_pow, SA hr, UL, YS]at h2;exact h2
theorem qF:∀n,2<=n->∃r,IsP r/\r ∣ n/\(IsP n\/r*r<=n):=by
 intro n;induction n using Zh with
 | _ n ih =>
  intro hn;by_cases hp:IsP n
  ·exact⟨n,hp,Nat.dvd_refl n,SY hp⟩
  ·have:∃m,m ∣ n/\m≠1/\m≠n:=by
    refine TQ λhc=>hp ⟨hn,λm hm=>?_⟩
    refine TQ λhc2=>hc ⟨m,hm,λe=>hc2 (SY e),λe=>hc2 (SJ e)⟩
   obtain⟨m,⟨k,hk⟩,h1,h2⟩:=this;have hm0:m≠0:=by intro e;rw[e,ZH]at hk;omega
   have hk0:k≠0:=by intro e;rw[e,Nat.mul_zero]at hk;omega
   have hk1:k≠1:=by intro e;rw[e,UW]at hk;omega
   have hmn:m<n:=by
    have:=Vn oM (⟨k,hk⟩:m ∣ n);omega
   have hkn:k<n:=by
    have:=Nat.mul_le_mul_right k (show 2<=m by omega);omega
   rcases ZJ m k with hle|hle
   ·obtain⟨r,hr,hrd,_⟩:=ih m hmn oM;have hrm:=Vn oM hrd;refine⟨r,hr,WF hrd ⟨k,hk⟩,SJ ?_⟩;rw[hk];exact T9 hrm (SD hrm hle)
   ·obtain⟨r,hr,hrd,_⟩:=ih k hkn oM;have hrm:=Vn oM hrd;refine⟨r,hr,WF hrd ⟨m,by rw[hk,S9]⟩,SJ ?_⟩;rw[hk];exact T9 (SD hrm hle) hrm
/-! what of a prime of n - 1 goes into the primes of n -/
theorem part{n q a r : Nat}(hq : IsP q)(hr : IsP r)(hrn : r ∣ n)(hn : 1<n)
    (h1 : a^(n-1)%n=1) (hd : q ∣ n-1) (h2 : YT (a^((n-1)/q)%n + (n-1)) n=1) : q ∣ r-1:=by
  have hr2:=hr.1;have toR : ∀x y, x%n=y%n -> x%r=y%r:=by
    intro x y e;rw[<-WL x hrn, e, WL y hrn]
  have hm : a^(n-1)%r=1:=by
    have:=toR (a^(n-1)) 1 (by rw[h1, SA hn]);rw[this, SA hr2]
  have hra : ¬r ∣ a:=by
    intro hc;have hz : a^(n-1)%r=0:=VE (WF hc (by
      have : a^1 ∣ a^(n-1):=Zi a oM;rwa[V3]at this))
    omega
  have hb : (a^((n-1)/q))^q%r=1:=by
    rw[<-WE, Nat.div_mul_cancel hd]; exact hm
  have hbr : ¬r ∣ a^((n-1)/q):=by
    intro hc;have : r ∣ (a^((n-1)/q))^q:=WF hc (by
      have : (a^((n-1)/q))^1 ∣ (a^((n-1)/q))^q:=Zi _ (by have:=hq.1; omega);rwa[V3]at this)
    have:=VE this;omega
  have hg:=Kz _ r hr2 q (r-1) hb (hr.fermat1 _ hbr);rcases hq.2 _ (Xr q (r-1))with e|e
  · rw[e, V3]at hg
    exfalso;have hx : r ∣ a^((n-1)/q)%n + (n-1):=by
      refine U1 ?_;have e1 : (a^((n-1)/q)%n)%r=1:=by rw[WL _ hrn]; exact hg
      have e2 : (n-1 + 1)%r=0:=by
        rw[Nat.sub_add_cancel oM]; exact VE hrn
      have : (a^((n-1)/q)%n + (n-1))%r=(1 + (n-1))%r:=by
        rw[VI, e1, VI 1 (n-1), SA hr2]
      rw[this, Nat.add_comm, e2]
    have:=Nat.dvd_gcd hx hrn;rw[h2]at this;have:=Vn oM this;omega
  · rw[<-e]; exact WU _ _
theorem AY{n f:Nat}(hn:1<n)(hf:n<(f+1)*(f+1))
 (hall:∀r,IsP r->r ∣ n->f ∣ r-1):IsP n:=by
 obtain⟨r,hr,hrn,h|h⟩:=qF n hn
 ·exact h
 ·have:=Vn (by have:=hr.1;omega) (hall r hr hrn);have h2:f+1<=r:=by have:=hr.1;omega
  have:=T9 h2 h2;omega
/-! trial -/
def trial(n : Nat): Nat -> Nat -> Bool
  | 0, _ => true
  | k + 1, d => (n%d != 0) && trial n k (d + 1)
theorem Ax(n:Nat):∀k d,trial n k d=true->∀m,d<=m->m<d+k->¬m ∣ n
 | 0,_,_,m,_,_=>oM
 | k+1,d,h,m,h1,h2=>by
  simp only[trial,SC,bne_iff_ne,ne_eq]at h;rcases Nat.lt_or_ge d m with hlt|hge
  ·exact Ax n k (d+1) h.2 m hlt oM
  ·have:m=d:=oM;subst this;intro hd;exact h.1 (VE hd)
theorem small{n k:Nat}(hn:2<=n)(ht:trial n k 2=true)(hk:n<(k+2)*(k+2)):IsP n:=by
 obtain⟨r,hr,hrn,h|h⟩:=qF n hn
 ·exact h
 ·have h2:=hr.1;have hlt:r<2+k:=by
   refine TQ λhc=>?_
   have:=T9 (show k+2<=r by omega) (show k+2<=r by omega);omega
  exact absurd hrn (Ax n k 2 ht r h2 hlt)
/-! powers, reckoned -/
def pm(n : Nat): Nat -> Nat -> Nat -> Nat -> Nat
  | 0, _, _, acc => acc
  | k + 1, a, e, acc => pm n k (a * a%n) (e/2) (if e%2=1 then acc * a%n else acc)
theorem Eb(n:Nat):∀k a e acc,e<2^k->acc<n->pm n k a e acc=acc*a^e%n
 | 0,a,e,acc,h,ha=>by
  have:e=0:=by simpa using h
  subst this;rw[pm,UV,UW,SA ha]
 | k+1,a,e,acc,h,ha=>by
  have hn:0<n:=oM;have hacc:(if e%2=1 then acc*a%n else acc)<n:=by
   split
   ·exact Ug _ hn
   ·exact ha
  rw[pm,Eb n k _ _ _ (by rw[T8]at h;omega) hacc];have hsq:∀y,y*(a*a%n)^(e/2)%n=y*(a*a)^(e/2)%n:=by
   intro y;rw[UA,<-Yq,<-UA]
  rw[hsq];have he:a^e=a^(e%2)*(a*a)^(e/2):=by
   have:(a*a)=a^2:=by rw[T8,V3]
   rw[this,<-WE,<-Uz,Nat.mod_add_div]
  rw[he];split
  ·rename_i h1
   rw[h1,V3,UA,YS,<-UA,Uy]
  ·rename_i h1
   have:e%2=0:=oM;rw[this,UV,UL]
theorem part'{n q a r k:Nat}(hq:IsP q)(hr:IsP r)(hrn:r ∣ n)(hn:1<n)(hk:n<2^k)
 (h1:pm n k a (n-1) 1=1) (hd:(n-1)%q=0) (h2:YT (pm n k a ((n-1)/q) 1+(n-1)) n=1):q ∣ r-1:=by
 rw[Eb n k a (n-1) 1 oM hn,UL]at h1;rw[Eb n k a _ 1 (Nat.lt_of_le_of_lt (Nat.div_le_self _ _) oM) hn,UL]at h2;exact part hq hr hrn hn h1 (U1 hd) h2
/-! the two primes -/
theorem x21: IsP 1627771:=small (k:=1275) dC dK dC
theorem x30:IsP 545358713:=small (k:=23352) dC dK dC
theorem x26:IsP 44706919:=small (k:=6686) dC dK dC
theorem x17:IsP 120233:=small (k:=346) dC dK dC
theorem x27:IsP 107590001:=small (k:=10372) dC dK dC
theorem x23:IsP 7240687:=small (k:=2690) dC dK dC
theorem x16:IsP 96557:=small (k:=310) dC dK dC
theorem x39:IsP 297159362677:=
 AY (f:=1627771) dC dK (λr hr hd=>part' (k:=39) (a:=2) x21 hr hd dC dK dK dK dK)
theorem c95:IsP 29047611873442575647497758179:=
 AY (f:=(545358713*297159362677)) dC dK (λr hr hd=>Uj dK (part' (k:=95) (a:=2) x30 hr hd dC dK dK dK dK) (part' (k:=95) (a:=2) x39 hr hd dC dK dK dK dK))
theorem b68:IsP 174723607534414371449:=
 AY (f:=(44706919*120233)) dC dK (λr hr hd=>Uj dK (part' (k:=68) (a:=2) x26 hr hd dC dK dK dK dK) (part' (k:=68) (a:=2) x17 hr hd dC dK dK dK dK))
theorem c109:IsP 341948486974166000522343609283189:=
 AY (f:=29047611873442575647497758179) dC dK (λr hr hd=>part' (k:=109) (a:=2) c95 hr hd dC dK dK dK dK)
theorem pN:IsP 115792089237316195423570985008687907852837564279074904382605163141518161494337:=
 AY (f:=(174723607534414371449*341948486974166000522343609283189)) dC dK (λr hr hd=>Uj dK (part' (k:=256) (a:=2) b68 hr hd dC dK dK dK dK) (part' (k:=256) (a:=2) c109 hr hd dC dK dK dK dK))
theorem e128:IsP 255515944373312847190720520512484175977:=
 AY (f:=(107590001*7240687*96557)) dC dK (λr hr hd=>Uj dK (Uj dK (part' (k:=128) (a:=2) x27 hr hd dC dK dK dK dK) (part' (k:=128) (a:=2) x23 hr hd dC dK dK dK dK)) (part' (k:=128) (a:=2) x16 hr hd dC dK dK dK dK))
theorem Re:IsP 205115282021455665897114700593932402728804164701536103180137503955397371:=
 AY (f:=255515944373312847190720520512484175977) dC dK (λr hr hd=>part' (k:=237) (a:=2) e128 hr hd dC dK dK dK dK)
theorem pP:IsP 115792089237316195423570985008687907853269984665640564039457584007908834671663:=
 AY (f:=205115282021455665897114700593932402728804164701536103180137503955397371) dC dK (λr hr hd=>part' (k:=256) (a:=2) Re hr hd dC dK dK dK dK)
end NT
namespace EC
structure Line{P:Nat}[NeZero P](x1 y1 x2 y2 l:Fin P):Prop where
 go:y2=y1+l*(x2-x1)
 on:l*(y1+y2)=x1^2+x1*x2+x2^2
variable {P:Nat}[NeZero P]
theorem A5(x1 y1 x2 y2 l x4 y4:Fin P)(h1:y1^2=x1^3+7)(h2:y2^2=x2^3+7)(hl:Line x1 y1 x2 y2 l)(hx:x4=l^2-x1-x2)(hy:y4=l*(x1-x4)-y1):y4^2=x4^3+7:=by
 obtain⟨e,h⟩:=hl;subst hy hx e
 grobner
theorem L8(x1 y1 x2 x3 l1 l2 y2 y3 x4 y4 x5 y5:Fin P)(L1:Line x1 y1 x2 y2 l1)(L2:Line x2 y2 x3 y3 l2)
 (e4:x4=l1^2-x1-x2) (f4:y4=l1*(x1-x4)-y1) (e5:x5=l2^2-x2-x3) (f5:y5=l2*(x2-x5)-y2) :
 ((y4-y3)^2-(x4+x3)*(x4-x3)^2)*(x5-x1)^2=((y5-y1)^2-(x1+x5)*(x5-x1)^2)*(x4-x3)^2:=by
 obtain⟨e2,h2⟩:=L1;obtain⟨e3,h3⟩:=L2;subst f4 f5 e4 e5 e3 e2
 grobner
theorem L6(x1 y1 x2 x3 l1 l2 y2 y3 x4 y4 x5 y5:Fin P)(L1:Line x1 y1 x2 y2 l1)(L2:Line x2 y2 x3 y3 l2)
 (e4:x4=l1^2-x1-x2) (f4:y4=l1*(x1-x4)-y1) (e5:x5=l2^2-x2-x3) (f5:y5=l2*(x2-x5)-y2) :
 ((y4-y3)^2-(x3+x4)*(x4-x3)^2)*((y5-y1)*(x4-x3)-(y4-y3)*(x5-x1))+(x4-x3)^2*(((y4-y3)*x3-y3*(x4-x3))*(x5-x1)-((y5-y1)*x1-y1*(x5-x1))*(x4-x3))=0:=by
 obtain⟨e2,h2⟩:=L1;obtain⟨e3,h3⟩:=L2;subst f4 f5 e4 e5 e3 e2
 grobner (ringSteps:=100000000)
theorem Jj(x1 y1 x2 x3 l1 l2 y2 y3 x5 y5:Fin P)(L1:Line x1 y1 x2 y2 l1)(L2:Line x2 y2 x3 y3 l2)
 (e4:x3=l1^2-x1-x2) (f4:y3=l1*(x1-x3)-y1) (e5:x5=l2^2-x2-x3) (f5:y5=l2*(x2-x5)-y2) :
 (9*x3^4-8*x3*y3^2)*(x5-x1)^2=((y5-y1)^2-(x1+x5)*(x5-x1)^2)*(4*y3^2):=by
 obtain⟨e2,h2⟩:=L1;obtain⟨e3,h3⟩:=L2;subst f5 e5 f4 e4 e2
 grobner (ringSteps:=100000000)
theorem Ji(x1 y1 x2 x3 l1 l2 y2 y3 x5 y5:Fin P)(L1:Line x1 y1 x2 y2 l1)(L2:Line x2 y2 x3 y3 l2)
 (e4:x3=l1^2-x1-x2) (f4:y3=l1*(x1-x3)-y1) (e5:x5=l2^2-x2-x3) (f5:y5=l2*(x2-x5)-y2) :
 (3*x3^2*(x3*(4*y3^2)-(9*x3^4-8*x3*y3^2))-2*y3^2*(4*y3^2))*(x5-x1)=((y5-y1)*(x1*(4*y3^2)-(9*x3^4-8*x3*y3^2))-y1*(x5-x1)*(4*y3^2))*(2*y3):=by
 obtain⟨e2,h2⟩:=L1;obtain⟨e3,h3⟩:=L2;subst f5 e5 f4 e4 e2
 grobner (ringSteps:=100000000)
end EC
namespace EC
variable {P:Nat}[NeZero P]
theorem val_zero:(0:Fin P).val=0:=by simp
theorem val_one(h:NT.IsP P):(1:Fin P).val=1:=by
 have h2:=h.1;show 1%P=1;exact SA oM
theorem nzd(h:NT.IsP P){a b:Fin P}(e:a*b=0):a=0\/b=0:=by
 have h1:a.val*b.val%P=0:=by
  have:=congrArg YJ e;rw[U6,val_zero]at this;exact this
 rcases h.euclid (U1 h1)with h2|h2
 ·exact SY (Vx (by rw[val_zero];exact Wc h2 a.isLt))
 ·exact SJ (Vx (by rw[val_zero];exact Wc h2 b.isLt))
theorem bD(h:NT.IsP P){a b:Fin P}(ha:a≠0)(hb:b≠0):a*b≠0:=λe=>(nzd h e).elim ha hb
theorem cancel(h:NT.IsP P){a b c:Fin P}(ha:a≠0)(e:b*a=c*a):b=c:=by
 have h1:(b-c)*a=0:=by grobner
 rcases nzd h h1 with h2|h2
 ·grobner
 ·exact absurd h2 ha
def inv(a:Fin P):Fin P:=Fin.ofNat P (a.val^(P-2))
theorem inv_mul(h:NT.IsP P){a:Fin P}(ha:a≠0):inv a*a=1:=by
 apply Vx;have h2:=h.1;have hn:¬P ∣ a.val:=λhd=>ha (Vx (by rw[val_zero];exact Wc hd a.isLt))
 rw[U6,val_one h];show a.val^(P-2)%P*a.val%P=1;rw[Zk,<-T8,show(P-2).succ=P-1 by omega];exact h.fermat1 _ hn
abbrev Pt(P:Nat):=Option (Fin P × Fin P)
def On:Pt P->Prop
 | none=>True
 | some (x,y)=>y^2=x^3+7
def neg:Pt P->Pt P
 | none=>none
 | some (x,y)=>some (x,-y)
def lW(x1 y1 x2 y2:Fin P):Fin P:=if x1=x2 then 3*x1^2*inv (2*y1) else(y2-y1)*inv (x2-x1)
def third(x1 y1 x2 l:Fin P):Pt P:=some (l^2-x1-x2,l*(x1-(l^2-x1-x2))-y1)
def add:Pt P->Pt P->Pt P
 | none,b=>b
 | a,none=>a
 | some (x1,y1),some (x2,y2)=>if x1=x2/\y2 = -y1 then none else third x1 y1 x2 (lW x1 y1 x2 y2)
theorem lX(h:NT.IsP P){x y1 y2:Fin P}(h1:y1^2=x^3+7)(h2:y2^2=x^3+7)(ho:¬y2 = -y1):y2=y1:=by
 have e:(y2-y1)*(y2+y1)=0:=by grobner
 rcases nzd h e with e|e
 ·grobner
 ·exact absurd (by grobner) ho
theorem t8{x y1:Fin P}(h:NT.IsP P)(h2:(2:Fin P)≠0)(ho:¬(x=x/\y1 = -y1)):2*y1≠0:=λe=>by
 rcases nzd h e with e|e
 ·exact h2 e
 ·exact ho ⟨rfl,by rw[e];grobner⟩
theorem bI(h:NT.IsP P)(h2:(2:Fin P)≠0){x1 y1 x2 y2:Fin P}(o1:y1^2=x1^3+7)(o2:y2^2=x2^3+7)(ho:¬(x1=x2/\y2 = -y1)):Line x1 y1 x2 y2 (lW x1 y1 x2 y2):=by
 unfold lW;by_cases hx:x1=x2
 ·subst hx;rw[if_pos rfl];have hy:=lX h o1 o2 (λe=>ho ⟨rfl,e⟩);subst hy;have hi:=inv_mul h (t8 h h2 ho);exact⟨by grobner,by grobner⟩
 ·rw[if_neg hx];have hd:x2-x1≠0:=λe=>hx (by grobner)
  have hi:=inv_mul h hd;refine⟨by grobner,cancel h hd (by grobner)⟩
theorem Bf(h:NT.IsP P)(h2:(2:Fin P)≠0){x1 y1 x2 y2 l m:Fin P}(o1:y1^2=x1^3+7)(o2:y2^2=x2^3+7)(ho:¬(x1=x2/\y2 = -y1))(L:Line x1 y1 x2 y2 l)(M:Line x1 y1 x2 y2 m):l=m:=by
 obtain⟨a1,b1⟩:=L;obtain⟨a2,b2⟩:=M;by_cases hx:x1=x2
 ·subst hx;have hy:=lX h o1 o2 (λe=>ho ⟨rfl,e⟩);subst hy;exact cancel h (t8 h h2 ho) (by grobner)
 ·have hd:x2-x1≠0:=λe=>hx (by grobner)
  exact cancel h hd (by grobner)
theorem bT(h:NT.IsP P)(h2:(2:Fin P)≠0){x1 y1 x2 y2 l:Fin P}(o1:y1^2=x1^3+7)(o2:y2^2=x2^3+7)(ho:¬(x1=x2/\y2 = -y1))(L:Line x1 y1 x2 y2 l):add (some (x1,y1)) (some (x2,y2))=third x1 y1 x2 l:=by
 show(if x1=x2/\y2 = -y1 then none else third x1 y1 x2 (lW x1 y1 x2 y2))=_;rw[if_neg ho,Bf h h2 o1 o2 ho (bI h h2 o1 o2 ho) L]
theorem gW{x1 y1 x2 y2:Fin P}(ho:x1=x2/\y2 = -y1):add (some (x1,y1)) (some (x2,y2))=none:=by
 show(if x1=x2/\y2 = -y1 then none else third x1 y1 x2 (lW x1 y1 x2 y2))=_;rw[if_pos ho]
theorem bE(a:Pt P):add a none=a:=by cases a<;>rfl
theorem Line.swap{x1 y1 x2 y2 l:Fin P}(L:Line x1 y1 x2 y2 l):Line x2 y2 x1 y1 l:=by
 obtain⟨a,b⟩:=L;exact⟨by grobner,by grobner⟩
theorem B7{x1 y1 x2 y2 l:Fin P}(L:Line x1 y1 x2 y2 l):third x1 y1 x2 l=third x2 y2 x1 l:=by
 obtain⟨a,b⟩:=L;unfold third;have e1:l^2-x1-x2=l^2-x2-x1:=by grobner
 have e2:l*(x1-(l^2-x1-x2))-y1=l*(x2-(l^2-x2-x1))-y2:=by grobner
 rw[e2,e1]
theorem add_comm(h:NT.IsP P)(h2:(2:Fin P)≠0)(a b:Pt P)(ha:On a)(hb:On b):add a b=add b a:=by
 rcases a with _|⟨x1,y1⟩
 ·rw[bE];rfl
 ·rcases b with _|⟨x2,y2⟩
  ·rfl
  ·by_cases ho:x1=x2/\y2 = -y1
   ·rw[gW ho,gW ⟨ho.1.symm,by rw[ho.2];grobner⟩]
   ·have ho':¬(x2=x1/\y1 = -y2):=λe=>ho ⟨e.1.symm,by rw[e.2];grobner⟩
    have L:=bI h h2 ha hb ho;rw[bT h h2 ha hb ho L,bT h h2 hb ha ho' L.swap,B7 L]
theorem Dt(h:NT.IsP P)(h2:(2:Fin P)≠0)(a b:Pt P)(ha:On a)(hb:On b):On (add a b):=by
 rcases a with _|⟨x1,y1⟩
 ·exact hb
 ·rcases b with _|⟨x2,y2⟩
  ·exact ha
  ·by_cases ho:x1=x2/\y2 = -y1
   ·rw[gW ho];trivial
   ·have L:=bI h h2 ha hb ho;rw[bT h h2 ha hb ho L];exact A5 x1 y1 x2 y2 _ _ _ ha hb L rfl rfl
theorem b8{a:Pt P}(h:On a):On (neg a):=by
 rcases a with _|⟨x,y⟩
 ·trivial
 ·have h':y^2=x^3+7:=h;show(-y)^2=x^3+7
  grobner
theorem neg_neg'(a:Pt P):neg (neg a)=a:=by
 rcases a with _|⟨x,y⟩
 ·rfl
 ·show some (x,- -y)=some (x,y);have:- -y=y:=by grobner
  rw[this]
theorem add_neg(a:Pt P):add a (neg a)=none:=by
 rcases a with _|⟨x,y⟩
 ·rfl
 ·exact gW ⟨rfl,rfl⟩
theorem Line.neg{x1 y1 x2 y2 l:Fin P}(L:Line x1 y1 x2 y2 l):Line x1 (-y1) x2 (-y2) (-l):=by
 obtain⟨a,b⟩:=L;exact⟨by grobner,by grobner⟩
theorem neg_add(h:NT.IsP P)(h2:(2:Fin P)≠0){a b:Pt P}(ha:On a)(hb:On b):neg (add a b)=add (neg a) (neg b):=by
 rcases a with _|⟨x1,y1⟩
 ·rfl
 ·rcases b with _|⟨x2,y2⟩
  ·rfl
  ·by_cases ho:x1=x2/\y2 = -y1
   ·rw[gW ho];exact(gW ⟨ho.1,by rw[ho.2]⟩).symm
   ·have L:=bI h h2 ha hb ho;have ho':¬(x1=x2/\-y2 = - -y1):=λe=>ho ⟨e.1,by have:=e.2;grobner⟩
    rw[bT h h2 ha hb ho L];refine Eq.trans ?_ (bT h h2 (b8 (a:=some (x1,y1)) ha) (b8 (a:=some (x2,y2)) hb) ho' L.neg).symm;generalize lW x1 y1 x2 y2=l;unfold third;show some (l^2-x1-x2,-(l*(x1-(l^2-x1-x2))-y1))=some ((-l)^2-x1-x2,-l*(x1-((-l)^2-x1-x2)) - -y1);have e1:(-l)^2=l^2:=by grobner
    rw[e1];have e2:-(l*(x1-(l^2-x1-x2))-y1) = -l*(x1-(l^2-x1-x2)) - -y1:=by grobner
    rw[e2]
theorem Line.back{x2 y2 x3 y3 l x5 y5:Fin P}(L:Line x2 y2 x3 y3 l)(e5:x5=l^2-x2-x3)(f5:y5=l*(x2-x5)-y2):Line x2 (-y2) x5 y5 (-l):=by
 obtain⟨a,b⟩:=L;subst f5 e5 a;exact⟨by grobner,by grobner (ringSteps:=10000000)⟩
theorem OQ{x2 x3 x5 l:Fin P}(e5:x5=l^2-x2-x3):(-l)^2-x2-x5=x3:=by
 subst e5
 grobner
theorem OP{x2 x3 y2 y3 l:Fin P}(a:y3=y2+l*(x3-x2)):-l*(x2-x3) - -y2=y3:=by
 subst a
 grobner
theorem NZ{x y:Fin P}(z:y=0)(hb:y^2=x^3+7):x^3+7=0:=by
 grobner
theorem A8(h:NT.IsP P)(h2:(2:Fin P)≠0)(h7:∀x:Fin P,x^3+7≠0){b c:Pt P}(hb:On b)(hc:On c):add (neg b) (add b c)=c:=by
 rcases b with _|⟨x2,y2⟩
 ·rfl
 ·rcases c with _|⟨x3,y3⟩
  ·rw[bE];exact gW ⟨rfl,by grobner⟩
  ·have hb':=hb;have hc':=hc;by_cases ho:x2=x3/\y3 = -y2
   ·rw[gW ho,bE,ho.1,ho.2];rfl
   ·have L:=bI h h2 hb hc ho;have hon:=A5 x2 y2 x3 y3 _ _ _ hb hc L rfl rfl;rw[bT h h2 hb hc ho L];generalize lW x2 y2 x3 y3=l at L hon;obtain⟨x5,e5⟩:∃x5,x5=l^2-x2-x3:=⟨_,rfl⟩
    unfold third;rw[<-e5]at hon⊢;obtain⟨y5,f5⟩:∃y5,y5=l*(x2-x5)-y2:=⟨_,rfl⟩
    rw[<-f5]at hon⊢;have M:=L.back e5 f5;have a:=L.go;have ho':¬(x2=x5/\y5 = - -y2):=λe=>by
     obtain⟨u,v⟩:=e;have z:2*y2=0:=by
      grobner
     rcases nzd h z with z|z
     ·exact h2 z
     ·exact h7 x2 (NZ z hb')
    refine(bT h h2 (b8 (a:=some (x2,y2)) hb) hon ho' M).trans ?_;unfold third;rw[OQ e5,OP a]
theorem Qc(h:NT.IsP P){x1 x3 x4 x5 y1 y3 y4 y5 l3 l4:Fin P}(d3:x4-x3≠0)(d4:x5-x1≠0)(g3:y4-y3=l3*(x4-x3))(g4:y5-y1=l4*(x5-x1))
 (hx:((y4-y3)^2-(x4+x3)*(x4-x3)^2)*(x5-x1)^2=((y5-y1)^2-(x1+x5)*(x5-x1)^2)*(x4-x3)^2):l3^2-x4-x3=l4^2-x1-x5:=by
 rw[g3,g4]at hx;clear g3 g4;refine cancel h (bD h (bD h d3 d3) (bD h d4 d4)) ?_
 grobner
theorem Qb(h:NT.IsP P){x1 x3 x4 x5 y1 y3 y4 y5 l3 l4 X:Fin P}(d3:x4-x3≠0)(d4:x5-x1≠0)(g3:y4-y3=l3*(x4-x3))(g4:y5-y1=l4*(x5-x1))(hX:l3^2-x4-x3=X)
 (hy:((y4-y3)^2-(x3+x4)*(x4-x3)^2)*((y5-y1)*(x4-x3)-(y4-y3)*(x5-x1))+(x4-x3)^2*(((y4-y3)*x3-y3*(x4-x3))*(x5-x1)-((y5-y1)*x1-y1*(x5-x1))*(x4-x3))=0):l3*(x4-X)-y4=l4*(x1-X)-y1:=by
 rw[g3,g4]at hy;have e4:y4=y3+l3*(x4-x3):=by clear hy hX;grobner
 have e5:x4+x3=l3^2-X:=by clear hy;grobner
 rw[e4];obtain⟨a,ha⟩:∃a,x4-x3=a:=⟨_,rfl⟩
 rw[ha]at d3 hy⊢;generalize x5-x1=b at d4 hy;have e6:(l4*(x1-X)-y1-(l3*(x3-X)-y3))*(a*a*a*b)=0:=by
  have e7:x3+x4=l3^2-X:=by rw[<-e5];clear hy;grobner
  rw[e7]at hy
  grobner
 rcases nzd h e6 with e|e
 ·have e8:x4=x3+a:=by clear hy e6 e e5 e4 hX g3 g4;grobner
  rw[e8]
  grobner
 ·exact absurd e (bD h (bD h (bD h d3 d3) d3) d4)
theorem Qn(h:NT.IsP P){x1 x3 x5 y1 y3 y5 l3 l4:Fin P}(t3:2*y3≠0)(d4:x5-x1≠0)(g3:l3*(2*y3)=3*x3^2)(g4:y5-y1=l4*(x5-x1))
 (hx:(9*x3^4-8*x3*y3^2)*(x5-x1)^2=((y5-y1)^2-(x1+x5)*(x5-x1)^2)*(4*y3^2)):l3^2-x3-x3=l4^2-x1-x5:=by
 rw[g4]at hx;refine cancel h (bD h (bD h t3 t3) (bD h d4 d4)) ?_;have e:9*x3^4=(l3*(2*y3))*(l3*(2*y3)):=by rw[g3];clear hx g3;grobner
 rw[e]at hx
 grobner
theorem Qm(h:NT.IsP P){x1 x3 x5 y1 y3 y5 l3 l4 X:Fin P}(t3:2*y3≠0)(d4:x5-x1≠0)(g3:l3*(2*y3)=3*x3^2)(g4:y5-y1=l4*(x5-x1))(hX:l3^2-x3-x3=X)
 (hy:(3*x3^2*(x3*(4*y3^2)-(9*x3^4-8*x3*y3^2))-2*y3^2*(4*y3^2))*(x5-x1)=((y5-y1)*(x1*(4*y3^2)-(9*x3^4-8*x3*y3^2))-y1*(x5-x1)*(4*y3^2))*(2*y3)):l3*(x3-X)-y3=l4*(x1-X)-y1:=by
 rw[g4]at hy;have e:9*x3^4-8*x3*y3^2=X*(4*y3^2):=by
  have e1:9*x3^4=(l3*(2*y3))*(l3*(2*y3)):=by rw[g3];clear hy g3;grobner
  rw[e1,<-hX]
  grobner
 rw[e,<-g3]at hy;clear e g3 hX;refine cancel h (bD h (bD h (bD h t3 t3) t3) d4) ?_
 grobner
theorem lT{a b:Fin P}(h:¬a=b):a-b≠0:=λe=>h (by grobner)
theorem Line.run{x1 y1 x2 y2 l:Fin P}(L:Line x1 y1 x2 y2 l):y2-y1=l*(x2-x1)/\y1-y2=l*(x1-x2):=by
 obtain⟨a,-⟩:=L;exact⟨by grobner,by grobner⟩
theorem Line.at{x y l:Fin P}(L:Line x y x y l):l*(2*y)=3*x^2:=by
 obtain⟨-,b⟩:=L
 grobner
theorem Nk{m l d:Fin P}(s:m^2=l^2):(m*d)^2=(l*d)^2:=by grobner
theorem Lx{y1 y2:Fin P}(s:(y1 - -y2)^2=(y1-y2)^2):4*(y1*y2)=0:=by grobner
theorem Rq{m l x1 x2 x3:Fin P}(r:m^2-x2-x1=x3)(e:x3=l^2-x1-x2):m^2=l^2:=by grobner
theorem Pn{x l a b:Fin P}(e:x=l^2-a-b):x=l^2-b-a:=by grobner
theorem Pm{x2 y2 x3 y3 x5 y5 l:Fin P}(L:Line x2 y2 x3 y3 l)(f:y5=l*(x2-x5)-y2):y5=l*(x3-x5)-y3:=by
 obtain⟨a,-⟩:=L
 grobner
theorem four_ne(h:NT.IsP P)(h2:(2:Fin P)≠0):(4:Fin P)≠0:=λe=>by
 have:(2:Fin P)*2=0:=by grobner
 rcases nzd h this with e|e<;>exact h2 e
theorem A3{y z:Fin P}(e:y = -z):z = -y:=by grobner
theorem yM(h:NT.IsP P)(h2:(2:Fin P)≠0){x1 y1 x2 y2 x3 y3 l1 l2 x4 y4 x5 y5:Fin P}(o3:y3^2=x3^3+7)(o1:y1^2=x1^3+7)
 (L1:Line x1 y1 x2 y2 l1) (L2:Line x2 y2 x3 y3 l2) (e4:x4=l1^2-x1-x2) (f4:y4=l1*(x1-x4)-y1) (e5:x5=l2^2-x2-x3) (f5:y5=l2*(x2-x5)-y2)
 (o4:y4^2=x4^3+7) (o5:y5^2=x5^3+7) (h3:¬(x4=x3/\y3 = -y4)) (h4:¬(x1=x5/\y5 = -y1)) (hx:¬x5=x1) :
 add (some (x4,y4)) (some (x3,y3))=add (some (x1,y1)) (some (x5,y5)):=by
 have L3:=bI h h2 o4 o3 h3;have L4:=bI h h2 o1 o5 h4;rw[bT h h2 o4 o3 h3 L3,bT h h2 o1 o5 h4 L4];unfold third;by_cases hd:x4=x3
 ·have hy:=lX h o4 (hd ▸ o3) (λe=>h3 ⟨hd,e⟩);subst hd hy;have t:=t8 (x:=x4) h h2 h3;have hX:=Qn h t (lT hx) L3.at L4.run.1 (Jj x1 y1 x2 x4 l1 l2 y2 y3 x5 y5 L1 L2 e4 f4 e5 f5);have hY:=Qm h t (lT hx) L3.at L4.run.1 rfl (Ji x1 y1 x2 x4 l1 l2 y2 y3 x5 y5 L1 L2 e4 f4 e5 f5);rw[hY,hX]
 ·have hX:=Qc h (lT hd) (lT hx) L3.run.2 L4.run.1 (L8 x1 y1 x2 x3 l1 l2 y2 y3 x4 y4 x5 y5 L1 L2 e4 f4 e5 f5);have hY:=Qb h (lT hd) (lT hx) L3.run.2 L4.run.1 rfl (L6 x1 y1 x2 x3 l1 l2 y2 y3 x4 y4 x5 y5 L1 L2 e4 f4 e5 f5);rw[hY,hX]
theorem add_assoc(h:NT.IsP P)(h2:(2:Fin P)≠0)(h7:∀x:Fin P,x^3+7≠0)(a b c:Pt P)(ha:On a)(hb:On b)(hc:On c):add (add a b) c=add a (add b c):=by
 have comm:=λ(a b:Pt P) (ha:On a) (hb:On b)=>add_comm h h2 a b ha hb
 have hab:=Dt h h2 a b ha hb;have hbc:=Dt h h2 b c hb hc;have n1:∀ {u v:Pt P},On u->On v->add (neg u) (add u v)=v:=λhu hv=>A8 h h2 h7 hu hv
 by_cases z1:b=neg a
 ·subst z1;rw[add_neg];have:=n1 hb hc;rw[neg_neg']at this;exact this.symm
 by_cases z2:c=neg b
 ·subst z2;rw[add_neg,bE,comm _ _ hab hc,comm a b ha hb];exact n1 hb ha
 by_cases z3:c=neg (add a b)
 ·subst z3;rw[add_neg];have e:add b (neg (add a b))=neg a:=by
   rw[comm a b ha hb,neg_add h h2 hb ha];have:=n1 (b8 hb) (b8 ha);rw[neg_neg']at this;exact this
  rw[e,add_neg]
 by_cases z4:add b c=neg a
 ·rw[z4,add_neg];have e:a=neg (add b c):=by rw[z4,neg_neg']
  have e2:add a b=neg c:=by
   rw[comm a b ha hb,e,neg_add h h2 hb hc];have:=n1 (b8 hb) (b8 hc);rw[neg_neg']at this;exact this
  rw[e2,comm _ _ (b8 hc) hc,add_neg]
 rcases a with _|⟨x1,y1⟩
 ·rfl
 rcases b with _|⟨x2,y2⟩
 ·rfl
 rcases c with _|⟨x3,y3⟩
 ·rw[bE,bE]
 have w1:¬(x1=x2/\y2 = -y1):=λe=>z1 (by rw[e.1,e.2];rfl)
 have w2:¬(x2=x3/\y3 = -y2):=λe=>z2 (by rw[e.1,e.2];rfl)
 have L1:=bI h h2 ha hb w1;have L2:=bI h h2 hb hc w2;have q1:=bT h h2 ha hb w1 L1;have q2:=bT h h2 hb hc w2 L2;rw[q1]at hab z3⊢;rw[q2]at hbc z4⊢;generalize lW x1 y1 x2 y2=l1 at L1 q1 hab z3⊢;generalize lW x2 y2 x3 y3=l2 at L2 q2 hbc z4⊢;unfold third at hab hbc z3 z4 q1 q2⊢;obtain⟨x4,e4⟩:∃x4,x4=l1^2-x1-x2:=⟨_,rfl⟩
 obtain⟨x5,e5⟩:∃x5,x5=l2^2-x2-x3:=⟨_,rfl⟩
 rw[<-e4]at hab z3 q1⊢;rw[<-e5]at hbc z4 q2⊢;obtain⟨y4,f4⟩:∃y4,y4=l1*(x1-x4)-y1:=⟨_,rfl⟩
 obtain⟨y5,f5⟩:∃y5,y5=l2*(x2-x5)-y2:=⟨_,rfl⟩
 rw[<-f4]at hab z3 q1⊢;rw[<-f5]at hbc z4 q2⊢;have w3:¬(x4=x3/\y3 = -y4):=λe=>z3 (by rw[e.2,<-e.1];rfl)
 have w4:¬(x1=x5/\y5 = -y1):=λe=>z4 (by rw[e.2,<-e.1];rfl)
 by_cases hx:x5=x1
 ·have hy:y5=y1:=by
   have o5:=hbc;rw[hx]at o5;exact lX h ha o5 (λe=>w4 ⟨hx.symm,e⟩)
  by_cases hd:x4=x3
  ·exfalso;have hy4:y3=y4:=by
    have o4:=hab;exact lX h o4 (hd ▸ hc) (λe=>w3 ⟨hd,e⟩)
   have r1:=n1 hb hc;rw[q2,hx,hy]at r1;rw[hd,<-hy4]at q1;have hne:¬x1=x2:=λe=>by
    subst e;have hyy:=lX h ha hb (λe=>w1 ⟨rfl,e⟩);subst hyy;rw[comm _ _ (b8 hb) ha,add_neg]at r1;cases r1
   have u1:¬(x2=x1/\y1 = - -y2):=λe=>hne e.1.symm
   have M:=bI h h2 (b8 (a:=some (x2,y2)) hb) ha u1;have r2:=bT h h2 (b8 (a:=some (x2,y2)) hb) ha u1 M;have r3:third x2 (-y2) x1 (lW x2 (-y2) x1 y1)=some (x3,y3):=r2.symm.trans r1;generalize lW x2 (-y2) x1 y1=m at M r3;unfold third at r3;have r4:m^2-x2-x1=x3:=by injection r3 with r3;injection r3
   have k1:=M.run.1;have k2:=L1.run.2;rw[hd]at e4;have s2:=Nk (d:=x1-x2) (Rq r4 e4);rw[<-k1,<-k2]at s2;have k3:=Lx s2;have hne0:∀ {x y:Fin P},y^2=x^3+7->y≠0:=λo z=>h7 _ (NZ z o)
   rcases nzd h k3 with e|e
   ·exact four_ne h h2 e
   ·rcases nzd h e with e|e
    ·exact hne0 ha e
    ·exact hne0 hb e
  ·-- the same,from the other side
   have hF:=yM h h2 ha hc L2.swap L1.swap (Pn e5) (Pm L2 f5) (Pn e4) (Pm L1 f4) hbc hab (λe=>w4 ⟨e.1.symm,A3 e.2⟩) (λe=>w3 ⟨e.1.symm,A3 e.2⟩) hd;rw[comm _ _ hab hc,comm _ _ ha hbc];exact hF.symm
 ·exact yM h h2 hc ha L1 L2 e4 f4 e5 f5 hab hbc w3 w4 hx
structure Cur(P:Nat)[NeZero P]:Prop where
 pr:NT.IsP P
 two:(2:Fin P)≠0
 sev:∀x:Fin P,x^3+7≠0
theorem Cur.y_ne(C:Cur P){a b:Fin P}(h:On (some (a,b))):b≠0:=λe=>C.sev a (NZ e h)
theorem Cur.opp_ne(C:Cur P){a b:Fin P}(h:On (some (a,b))):¬(a=a/\b = -b):=λe=>by
 have h1:2*b=0:=by
  have:=e.2
  grobner
 exact bD C.pr C.two (C.y_ne h) h1
def Jac(x y z:Fin P):Pt P->Prop
 | none=>z=0
 | some (a,b)=>z≠0/\x=a*z^2/\y=b*z^3
def Frac(x y z:Fin P):Pt P->Prop
 | none=>z=0
 | some (a,b)=>z≠0/\x=a*z/\y=b*z
def Pair(x y:Fin P):Pt P->Prop
 | none=>x=0/\y=0
 | some (a,b)=>x=a/\y=b
def dbl(n:Fin P):Fin P:=n+n
def twB(x y:Fin P):Fin P:=dbl (dbl (x*(y*y)))
def twS(x:Fin P):Fin P:=dbl (x*x)+x*x
def twX(x y:Fin P):Fin P:=twS x*twS x-dbl (twB x y)
def twY(x y:Fin P):Fin P:=twS x*(twB x y-twX x y)-dbl (dbl (dbl (y*y*(y*y))))
def twZ(y z:Fin P):Fin P:=dbl (y*z)
theorem QU{a b l x y z:Fin P}(g:l*(2*b)=3*a^2)(ex:x=a*z^2)(ey:y=b*z^3):twX x y=(l^2-a-a)*twZ y z^2:=by
 subst ex ey;unfold twX twS twB twZ dbl
 grobner (ringSteps:=100000000)
theorem QT{a b l x y z X:Fin P}(g:l*(2*b)=3*a^2)(ex:x=a*z^2)(ey:y=b*z^3)(hX:twX x y=X*twZ y z^2):twY x y=(l*(a-X)-b)*twZ y z^3:=by
 subst ex ey;unfold twY;rw[hX];unfold twS twB twZ dbl
 grobner (ringSteps:=100000000)
theorem QS(C:Cur P){b y z:Fin P}(hb:b≠0)(hz:z≠0)(ey:y=b*z^3):twZ y z≠0:=λe=>by
 have h1:2*b*(z*z*(z*z))=0:=by
  unfold twZ dbl at e;subst ey
  grobner
 exact bD C.pr (bD C.pr C.two hb) (bD C.pr (bD C.pr hz hz) (bD C.pr hz hz)) h1
theorem Jac.twice(C:Cur P){x y z:Fin P}{p:Pt P}(h:Jac x y z p)(hp:On p):Jac (twX x y) (twY x y) (twZ y z) (add p p):=by
 match p,h,hp with
 | none,h,_ =>
  have h0:=h;show twZ y z=0;subst h0;unfold twZ dbl
  grobner
 | some (a,b),h,hp =>
  obtain⟨hz,ex,ey⟩:=h;have ho:=C.opp_ne hp;have L:=bI C.pr C.two hp hp ho;rw[bT C.pr C.two hp hp ho L];have hx:=QU L.at ex ey;exact⟨QS C (C.y_ne hp) hz ey,hx,QT L.at ex ey hx⟩
def cQ(x1 z2:Fin P):Fin P:=x1*(z2*z2)
def eH(y1 z2:Fin P):Fin P:=y1*(z2*z2)*z2
def plX(ax ay bx bY:Fin P):Fin P:=(bY-ay)*(bY-ay)-(bx-ax)*(bx-ax)*(bx-ax)-dbl ((bx-ax)*(bx-ax)*ax)
def plY(ax ay bx bY:Fin P):Fin P:=(bY-ay)*((bx-ax)*(bx-ax)*ax-plX ax ay bx bY)-(bx-ax)*(bx-ax)*(bx-ax)*ay
def plZ(z1 z2 ax bx:Fin P):Fin P:=z1*z2*(bx-ax)
theorem Ri{a b c d l t ax ay bx bY Z:Fin P}(g:d-b=l*(c-a))(e1:ax=a*t^2)(e2:ay=b*t^3)(e3:bx=c*t^2)(e4:bY=d*t^3)(eZ:Z=t*(bx-ax)):plX ax ay bx bY=(l^2-a-c)*Z^2:=by
 have e5:d=b+l*(c-a):=by grobner
 subst e5 e1 e2 e3 e4 eZ;unfold plX dbl
 grobner (ringSteps:=100000000)
theorem Rh{a b c d l t ax ay bx bY Z X:Fin P}(g:d-b=l*(c-a))(e1:ax=a*t^2)(e2:ay=b*t^3)(e3:bx=c*t^2)(e4:bY=d*t^3)(eZ:Z=t*(bx-ax))(hX:plX ax ay bx bY=X*Z^2):plY ax ay bx bY=(l*(a-X)-b)*Z^3:=by
 unfold plY;rw[hX];have e5:d=b+l*(c-a):=by grobner
 subst e5 e1 e2 e3 e4 eZ
 grobner (ringSteps:=100000000)
theorem zJ(C : Cur P){a c t : Fin P}{k : Nat}(ht : t ≠ 0)(e : a * t ^ k = c * t ^ k): a = c := by
  have hk : ∀k : Nat, t ^ k ≠ 0 := λk => by
    induction k with
    | zero => intro h; exact ht (by have h2 : (1 : Fin P) = 0 := by { rw [← h]; grind }; calc t = t * 1 := by grobner
                                    _ = 0 := by rw [h2]; grobner)
    | succ k ih => intro h; exact bD C.pr ih ht (by rw [<-h]; grind)
  exact cancel C.pr (hk k) e
theorem Jac.plus(C:Cur P){x1 y1 z1 x2 y2 z2:Fin P}{p q:Pt P}(h:Jac x1 y1 z1 p)(hp:On p)(h':Jac x2 y2 z2 q)(hq:On q)(n1:z1≠0)(n2:z2≠0):
 (cQ x1 z2=cQ x2 z1/\eH y1 z2=eH y2 z1/\add p q=add p p) \/
 (¬(cQ x1 z2=cQ x2 z1/\eH y1 z2=eH y2 z1)/\Jac (plX (cQ x1 z2) (eH y1 z2) (cQ x2 z1) (eH y2 z1)) (plY (cQ x1 z2) (eH y1 z2) (cQ x2 z1) (eH y2 z1)) (plZ z1 z2 (cQ x1 z2) (cQ x2 z1)) (add p q)):=by
 match p,q,h,hp,h',hq with
 | none,_,h,_,_,_=>exact absurd h n1
 | some (a,b),none,_,_,h,_=>exact absurd h n2
 | some (a,b),some (c,d),h,hp,h',hq =>
  obtain⟨-,ex1,ey1⟩:=h;obtain⟨-,ex2,ey2⟩:=h';have ht:=bD C.pr n1 n2;have e1:cQ x1 z2=a*(z1*z2)^2:=by subst ex1;unfold cQ;clear hp hq;grobner
  have e2:eH y1 z2=b*(z1*z2)^3:=by subst ey1;unfold eH;clear hp hq;grobner
  have e3:cQ x2 z1=c*(z1*z2)^2:=by subst ex2;unfold cQ;clear hp hq;grobner
  have e4:eH y2 z1=d*(z1*z2)^3:=by subst ey2;unfold eH;clear hp hq;grobner
  by_cases hs:cQ x1 z2=cQ x2 z1/\eH y1 z2=eH y2 z1
  ·refine SY ⟨hs.1,hs.2,?_⟩;have h1:a=c:=zJ C ht (by rw[<-e1,<-e3];exact hs.1);have h2:b=d:=zJ C ht (by rw[<-e2,<-e4];exact hs.2);rw[h1,h2]
  ·refine SJ ⟨hs,?_⟩;by_cases hac:a=c
   ·have hd:d = -b:=TQ λhn=>hs ⟨by rw[e1,e3,hac],by
     have:=lX C.pr (x:=a) hp (by rw[hac];exact hq) hn;rw[e2,e4,this]⟩
    rw[gW ⟨hac,hd⟩];show plZ _ _ _ _=0;rw[e1,e3,hac];unfold plZ
    grobner
   ·have ho:¬(a=c/\d = -b):=λh=>hac h.1
    have L:=bI C.pr C.two hp hq ho;rw[bT C.pr C.two hp hq ho L];have hZ:plZ z1 z2 (cQ x1 z2) (cQ x2 z1)=z1*z2*(cQ x2 z1-cQ x1 z2):=rfl;have hx:=Ri L.run.1 e1 e2 e3 e4 hZ;refine⟨?_,hx,Rh L.run.1 e1 e2 e3 e4 hZ hx⟩;rw[hZ];refine bD C.pr ht (λh=>hac ?_);exact zJ C (k:=2) ht (by rw[<-e1,<-e3];clear hp hq L hx;grobner)
theorem Jac.zero(C:Cur P){x y z:Fin P}{p:Pt P}(h:Jac x y z p)(hz:z=0):p=none:=by
 match p,h with
 | none,_=>rfl
 | some (a,b),h=>exact absurd hz h.1
theorem Jac.neg{x y z:Fin P}{p:Pt P}(h:Jac x y z p):Jac x (0-y) z (neg p):=by
 match p,h with
 | none,h=>exact h
 | some (a,b),h=>exact⟨h.1,h.2.1,by have:=h.2.2;show 0-y = -b*z^3;grobner⟩
theorem inv_zero(C:Cur P):inv (0:Fin P)=0:=by
 apply Vx;have h2:=C.pr.1;show(0:Fin P).val^(P-2)%P=_;rw[val_zero];by_cases h:P=2
 ·exact absurd (Vx (by rw[val_zero];show 2%P=0;rw[h])) C.two
 ·rw[ZG oM,Nat.zero_mod]
theorem Jac.pair(C:Cur P){x y z:Fin P}{p:Pt P}(h:Jac x y z p):Pair (x*(inv z*inv z)) (y*(inv z*inv z)*inv z) p:=by
 match p,h with
 | none,h =>
  have h0:=h;subst h0;rw[inv_zero C];exact⟨by grobner,by grobner⟩
 | some (a,b),h =>
  have hi:=inv_mul C.pr h.1;obtain⟨-,ex,ey⟩:=h;subst ex ey;exact⟨by grobner,by grobner⟩
theorem Pair.jac(C:Cur P){x y:Fin P}{p:Pt P}(h:Pair x y p)(hn:¬(x=0/\y=0)):Jac x y 1 p:=by
 match p,h with
 | none,h=>exact absurd h hn
 | some (a,b),h =>
  obtain⟨ex,ey⟩:=h;subst ex ey;refine⟨λe=>?_,by grobner,by grobner⟩;have:=congrArg YJ e;rw[val_zero,val_one C.pr]at this;omega
theorem Pair.nothing(C:Cur P){x y:Fin P}{p:Pt P}(h:Pair x y p)(hp:On p)(hn:x=0/\y=0):p=none:=by
 match p,h,hp with
 | none,_,_=>rfl
 | some (a,b),h,hp =>
  obtain⟨ex,ey⟩:=h;exact absurd (by rw[<-ey];exact hn.2) (C.y_ne hp)
/- The reference's fractions. -/
def frT(d e w v2 : Fin P): Fin P:=d * d * w-e * e * e-(v2 + v2) * (e * e)
theorem RJ{a b c d l w v v2 u u2:Fin P}(g:d-b=l*(c-a))(e1:v2=a*w)(e2:u2=b*w)(e3:v=c*w)(e4:u=d*w):(v-v2)*frT (u-u2) (v-v2) w v2=(l^2-a-c)*((v-v2)*(v-v2)*(v-v2)*w):=by
 have e5:d=b+l*(c-a):=by grobner
 subst e5 e1 e2 e3 e4;unfold frT
 grobner (ringSteps:=100000000)
theorem RI{a b c d l w v v2 u u2:Fin P}(g:d-b=l*(c-a))(e1:v2=a*w)(e2:u2=b*w)(e3:v=c*w)(e4:u=d*w):
 (u-u2)*(v2*((v-v2)*(v-v2))-frT (u-u2) (v-v2) w v2)-u2*((v-v2)*(v-v2)*(v-v2))=(l*(a-(l^2-a-c))-b)*((v-v2)*(v-v2)*(v-v2)*w):=by
 have e5:d=b+l*(c-a):=by grobner
 subst e5 e1 e2 e3 e4;unfold frT
 grobner (ringSteps:=100000000)
def fdD(x:Fin P):Fin P:=x*x+x*x+x*x
def fdE(y z:Fin P):Fin P:=(y+y)*z
def fdT(x y z:Fin P):Fin P:=fdD x*fdD x*z-(x+x)*(fdE y z*fdE y z)
theorem RN{a b l x y z:Fin P}(g:l*(2*b)=3*a^2)(ex:x=a*z)(ey:y=b*z):fdE y z*fdT x y z=(l^2-a-a)*(fdE y z*fdE y z*fdE y z*z):=by
 subst ex ey;unfold fdT fdD fdE
 grobner (ringSteps:=100000000)
theorem RO{a b l x y z:Fin P}(g:l*(2*b)=3*a^2)(ex:x=a*z)(ey:y=b*z):fdT x y z=(l^2-a-a)*(fdE y z*fdE y z*z):=by
 subst ex ey;unfold fdT fdD fdE
 grobner (ringSteps:=100000000)
theorem RL{a b l x y z X:Fin P}(g:l*(2*b)=3*a^2)(ex:x=a*z)(ey:y=b*z)(hT:fdT x y z=X*(fdE y z*fdE y z*z)):
 fdD x*(x*(fdE y z*fdE y z)-fdT x y z)-y*(fdE y z*fdE y z*fdE y z)=(l*(a-X)-b)*(fdE y z*fdE y z*fdE y z*z):=by
 rw[hT];subst ex ey;unfold fdD fdE
 grobner (ringSteps:=100000000)
theorem Frac.zero{x y z:Fin P}{p:Pt P}(h:Frac x y z p)(hz:z=0):p=none:=by
 match p,h with
 | none,_=>rfl
 | some (a,b),h=>exact absurd hz h.1
theorem Frac.double(C:Cur P){x y z:Fin P}{p:Pt P}(h:Frac x y z p)(hp:On p)(hz:z≠0):
 Frac (fdE y z*fdT x y z) (fdD x*(x*(fdE y z*fdE y z)-fdT x y z)-y*(fdE y z*fdE y z*fdE y z)) (fdE y z*fdE y z*fdE y z*z) (add p p):=by
 match p,h,hp with
 | none,h,_=>exact absurd h hz
 | some (a,b),h,hp =>
  obtain⟨-,ex,ey⟩:=h;have ho:=C.opp_ne hp;have L:=bI C.pr C.two hp hp ho;rw[bT C.pr C.two hp hp ho L];have hb:=C.y_ne hp;have he:fdE y z≠0:=λe=>by
   refine bD C.pr (bD C.pr C.two hb) (bD C.pr hz hz) ?_;unfold fdE at e;subst ey
   grobner
  exact⟨bD C.pr (bD C.pr (bD C.pr he he) he) hz,RN L.at ex ey,RL L.at ex ey (RO L.at ex ey)⟩
theorem Frac.plus(C:Cur P){x1 y1 z1 x2 y2 z2:Fin P}{p q:Pt P}(h:Frac x1 y1 z1 p)(hp:On p)(h':Frac x2 y2 z2 q)(hq:On q)(n1:z1≠0)(n2:z2≠0):
 (x2*z1=x1*z2/\¬y2*z1=y1*z2/\add p q=none)\/(x2*z1=x1*z2/\y2*z1=y1*z2/\¬y2*z1=0/\add p q=add p p) \/
 (¬x2*z1=x1*z2/\Frac ((x2*z1-x1*z2)*frT (y2*z1-y1*z2) (x2*z1-x1*z2) (z1*z2) (x1*z2))
  ((y2*z1-y1*z2)*(x1*z2*((x2*z1-x1*z2)*(x2*z1-x1*z2))-frT (y2*z1-y1*z2) (x2*z1-x1*z2) (z1*z2) (x1*z2))-y1*z2*((x2*z1-x1*z2)*(x2*z1-x1*z2)*(x2*z1-x1*z2)))
  ((x2*z1-x1*z2)*(x2*z1-x1*z2)*(x2*z1-x1*z2)*(z1*z2)) (add p q)):=by
 match p,q,h,hp,h',hq with
 | none,_,h,_,_,_=>exact absurd h n1
 | some (a,b),none,_,_,h,_=>exact absurd h n2
 | some (a,b),some (c,d),h,hp,h',hq =>
  obtain⟨-,ex1,ey1⟩:=h;obtain⟨-,ex2,ey2⟩:=h';have ht:=bD C.pr n1 n2;have e1:x1*z2=a*(z1*z2):=by subst ex1;clear hp hq;grobner
  have e2:y1*z2=b*(z1*z2):=by subst ey1;clear hp hq;grobner
  have e3:x2*z1=c*(z1*z2):=by subst ex2;clear hp hq;grobner
  have e4:y2*z1=d*(z1*z2):=by subst ey2;clear hp hq;grobner
  generalize x1*z2=v2 at *;generalize y1*z2=u2 at *;generalize x2*z1=v at *;generalize y2*z1=u at *;by_cases hs:v=v2
  ·have hac:a=c:=cancel C.pr ht (by rw[<-e1,<-e3,hs]);by_cases hu:u=u2
   ·have hbd:b=d:=cancel C.pr ht (by rw[<-e2,<-e4,hu]);refine SJ (SY ⟨hs,hu,?_,by rw[hac,hbd]⟩);rw[e4];exact bD C.pr (C.y_ne hq) ht
   ·refine SY ⟨hs,hu,gW ⟨hac,?_⟩⟩;exact TQ λhn=>hu (by
     have:=lX C.pr (x:=a) hp (by rw[hac];exact hq) hn;rw[e4,e2,this])
  ·refine SJ (SJ ⟨hs,?_⟩);have hac:¬a=c:=λh=>hs (by rw[e3,e1,h])
   have ho:¬(a=c/\d = -b):=λh=>hac h.1
   have L:=bI C.pr C.two hp hq ho;rw[bT C.pr C.two hp hq ho L];have hd:=lT hs;exact⟨bD C.pr (bD C.pr (bD C.pr hd hd) hd) ht,RJ L.run.1 e1 e2 e3 e4,RI L.run.1 e1 e2 e3 e4⟩
def mul:Nat->Pt P->Pt P
 | 0,_=>none
 | n+1,a=>add (mul n a) a
theorem fV:On (none:Pt P):=trivial
theorem kF(a:Pt P):add none a=a:=rfl
theorem Cur.on(C:Cur P){a b:Pt P}(ha:On a)(hb:On b):On (add a b):=Dt C.pr C.two a b ha hb
theorem Cur.comm(C:Cur P){a b:Pt P}(ha:On a)(hb:On b):add a b=add b a:=add_comm C.pr C.two a b ha hb
theorem Cur.assoc(C:Cur P){a b c:Pt P}(ha:On a)(hb:On b)(hc:On c):add (add a b) c=add a (add b c):=add_assoc C.pr C.two C.sev a b c ha hb hc
theorem Cur.neg_l(C:Cur P){a:Pt P}(ha:On a):add (neg a) a=none:=by
 rw[C.comm (b8 ha) ha,add_neg]
theorem Cur.swap(C:Cur P){a b c d:Pt P}(ha:On a)(hb:On b)(hc:On c)(hd:On d):add (add a b) (add c d)=add (add a c) (add b d):=by
 rw[C.assoc ha hb (C.on hc hd),<-C.assoc hb hc hd,C.comm hb hc,C.assoc hc hb hd,<-C.assoc ha hc (C.on hb hd)]
theorem cD(C:Cur P){a:Pt P}(ha:On a):∀n,On (mul n a)
 | 0=>fV
 | n+1=>C.on (cD C ha n) ha
theorem mul_add(C:Cur P){a:Pt P}(ha:On a)(m:Nat):∀n,mul (m+n) a=add (mul m a) (mul n a)
 | 0=>(bE _).symm
 | n+1=>by
  show add (mul (m+n) a) a=add (mul m a) (add (mul n a) a);rw[mul_add C ha m n,C.assoc (cD C ha m) (cD C ha n) ha]
def eF:Int->Pt P->Pt P
 | .ofNat n,a=>mul n a
 | .negSucc n,a=>neg (mul (n+1) a)
theorem iH(C:Cur P){a:Pt P}(ha:On a):∀n,On (eF n a)
 | .ofNat n=>cD C ha n
 | .negSucc n=>b8 (cD C ha (n+1))
theorem mT(C:Cur P){a:Pt P}(ha:On a):∀n,eF (n+1) a=add (eF n a) a
 | .ofNat n=>rfl
 | .negSucc 0=>by
  show(none:Pt P)=add (neg (add none a)) a;rw[kF,C.neg_l ha]
 | .negSucc (n+1)=>by
  show neg (mul (n+1) a)=add (neg (add (mul (n+1) a) a)) a;have h1:=cD C ha (n+1);rw[neg_add C.pr C.two h1 ha,C.assoc (b8 h1) (b8 ha) ha,C.neg_l ha,bE]
theorem qR(C:Cur P){a:Pt P}(ha:On a)(n:Int):eF (n-1) a=add (eF n a) (neg a):=by
 have h:=mT C ha (n-1);rw[Int.sub_add_cancel]at h;rw[h,C.assoc (iH C ha _) ha (b8 ha),add_neg,bE]
theorem Au(C:Cur P){a:Pt P}(ha:On a)(m:Int):∀n:Nat,eF (m+n) a=add (eF m a) (eF n a)
 | 0=>by rw[Te,Xx];exact(bE _).symm
 | n+1=>by
  rw[show m+((n+1:Nat):Int)=(m+n)+1 by omega,mT C ha,Au C ha m n,show((n+1:Nat):Int)=(n:Int)+1 by omega,mT C ha,
   C.assoc (iH C ha _) (iH C ha _) ha]
theorem As(C:Cur P){a:Pt P}(ha:On a):∀n:Nat,eF (-(n:Int)) a=neg (eF n a)
 | 0=>rfl
 | n+1=>by
  have h1:eF (((n+1:Nat):Int)) a=add (eF n a) a:=by rw[show((n+1:Nat):Int)=(n:Int)+1 by omega,mT C ha]
  rw[h1,neg_add C.pr C.two (iH C ha _) ha,<-As C ha n,show -((n+1:Nat):Int) = -(n:Int)-1 by omega,qR C ha]
theorem Ap(C:Cur P){a:Pt P}(ha:On a)(m:Int):∀n:Nat,eF (m-n) a=add (eF m a) (eF (-(n:Int)) a)
 | 0=>by rw[Te,Int.sub_zero];exact(bE _).symm
 | n+1=>by
  rw[show m-((n+1:Nat):Int)=(m-n)-1 by omega,qR C ha,Ap C ha m n,show -((n+1:Nat):Int) = -(n:Int)-1 by omega,qR C ha,
   C.assoc (iH C ha _) (iH C ha _) (b8 ha)]
theorem tZ(C:Cur P){a:Pt P}(ha:On a)(m n:Int):eF (m+n) a=add (eF m a) (eF n a):=by
 rcases Int.le_total 0 n with h|h
 ·obtain⟨k,rfl⟩:=Yf h;exact Au C ha m k
 ·obtain⟨k,hk⟩:=Yf (show 0<=-n by omega);obtain rfl:n = -(k:Int):=oM;rw[<-Ap C ha m k,Int.sub_eq_add_neg]
theorem Aq(a:Pt P):eF 1 a=a:=kF a
theorem E1(a:Pt P):eF 0 a=none:=rfl
def tot(a:Nat->Pt P):Nat->(Nat->Int)->Pt P
 | 0,_=>none
 | k+1,f=>add (tot a k f) (eF (f k) (a k))
theorem B5(C:Cur P){a:Nat->Pt P}(f:Nat->Int):∀k,(∀i,i<k->On (a i))->On (tot a k f)
 | 0,_=>fV
 | k+1,h=>C.on (B5 C f k λi hi=>h i oM) (iH C (h k oM) _)
theorem fC{a:Nat->Pt P}{f g:Nat->Int}:∀k,(∀i,i<k->f i=g i)->tot a k f=tot a k g
 | 0,_=>rfl
 | k+1,h=>by
  show add (tot a k f) _=add (tot a k g) _;rw[fC k (λi hi=>h i oM),h k oM]
theorem t9(a:Nat->Pt P){f:Nat->Int}:∀k,(∀i,i<k->f i=0)->tot a k f=none
 | 0,_=>rfl
 | k+1,h=>by
  show add (tot a k f) _=none;rw[t9 a k (λi hi=>h i oM),h k oM];rfl
theorem yX(C:Cur P){a:Nat->Pt P}(f g:Nat->Int):∀k,(∀i,i<k->On (a i))->tot a k (λj=>f j+g j)=add (tot a k f) (tot a k g)
 | 0,_=>rfl
 | k+1,h=>by
  have h1:∀i,i<k->On (a i):=λi hi=>h i oM
  have h2:=h k oM;show add (tot a k _) (eF (f k+g k) (a k))=add (add (tot a k f) (eF (f k) (a k))) (add (tot a k g) (eF (g k) (a k)));rw[yX C f g k h1,tZ C h2,C.swap (B5 C f k h1) (B5 C g k h1) (iH C h2 _) (iH C h2 _)]
theorem DJ(C:Cur P){a:Nat->Pt P}(i:Nat)(d:Int):∀k,i<k->(∀i,i<k->On (a i))->tot a k (λj=>if j=i then d else 0)=eF d (a i)
 | k+1,hi,h=>by
  show add (tot a k _) (eF (if k=i then d else 0) (a k))=_;by_cases hk:k=i
  ·subst hk;rw[if_pos rfl,t9 a k (λj hj=>if_neg oM)];rfl
  ·rw[if_neg hk,DJ C i d k oM (λj hj=>h j oM)];exact bE _
theorem JQ(C:Cur P){a:Nat->Pt P}(f:Nat->Int)(i:Nat)(d:Int)(k:Nat)(hi:i<k)(h:∀i,i<k->On (a i)):
 tot a k (λj=>if j=i then f j+d else f j)=add (tot a k f) (eF d (a i)):=by
 rw[<-DJ C i d k hi h,<-yX C f _ k h];refine fC k λj _=>?_
 by_cases hj:j=i
 ·rw[if_pos hj,if_pos hj]
 ·rw[if_neg hj,if_neg hj,Xx]
theorem E5(C:Cur P){a:Nat->Pt P}(f:Nat->Int)(k:Nat)(h:∀i,i<k->On (a i)):tot a k (λj=>2*f j)=add (tot a k f) (tot a k f):=by
 rw[<-yX C f f k h];exact fC k λj _=>oM
end EC
namespace EC
theorem Ka{P c:Nat}(hP:NT.IsP P)(h3:P=3*c+1)(h7:7<P)(hk:(P-7)^c%P≠1)(x:Nat):(x*x*x+7)%P≠0:=λe=>by
 have hx:¬P ∣ x:=λhd=>by
  have h1:P ∣ x*x*x:=Nat.dvd_mul_left_of_dvd hd _;have h2:P ∣ 7:=(Nat.dvd_add_right h1).1 (U1 e);have:=Vn dC h2;omega
 have h1:=hP.fermat1 x hx;have h2:x*x*x%P=P-7:=by
  have hlt:x*x*x%P<P:=Ug _ oM;have h4:(x*x*x%P+7)%P=0:=by rw[Zl];exact e
  by_cases hq:x*x*x%P+7<P
  ·rw[SA hq]at h4;omega
  ·rw[Nat.mod_eq_sub_mod oM,SA oM]at h4;omega
 apply hk;rw[<-h2,<-Yq];rw[<-h1]
 congr 1
 rw[show P-1=3*c by omega,WE]
 congr 1
 rw[T8,T8,V3]
theorem OD{P c:Nat}[NeZero P](hP:NT.IsP P)(h3:P=3*c+1)(h7:7<P)(hk:(P-7)^c%P≠1):Cur P:=by
 refine⟨hP,λe=>?_,λx e=>?_⟩
 ·have:=congrArg YJ e;rw[val_zero]at this;have h2:(2:Fin P).val=2%P:=rfl;rw[h2,SA oM]at this;omega
 ·have e2:x*x*x+7=0:=by rw[<-e];grobner
  have:=congrArg YJ e2;rw[val_zero,Fin.val_add,U6,U6]at this;have h2:(7:Fin P).val=7%P:=rfl;rw[h2,Zk,Zl,Nat.add_mod_mod]at this;exact Ka hP h3 h7 hk x.val this
theorem Le:NT.pm 115792089237316195423570985008687907853269984665640564039457584007908834671663 256 (115792089237316195423570985008687907853269984665640564039457584007908834671663-7) 38597363079105398474523661669562635951089994888546854679819194669302944890554 1≠1:=dK
theorem PH{P c k:Nat}(hc:c<2^k)(h1:1<P)(h:NT.pm P k (P-7) c 1≠1):(P-7)^c%P≠1:=λe=>h (by rw[NT.Eb P k _ c 1 hc h1,UL];exact e)
theorem cur:∃(P:Nat) (_:NeZero P),P=115792089237316195423570985008687907853269984665640564039457584007908834671663/\Cur P:=by
 have hp:=NT.pP;have hk:=Le;have h3:115792089237316195423570985008687907853269984665640564039457584007908834671663=3*38597363079105398474523661669562635951089994888546854679819194669302944890554+1:=dK;have hc:38597363079105398474523661669562635951089994888546854679819194669302944890554<2^256:=dK;have h7:7<115792089237316195423570985008687907853269984665640564039457584007908834671663:=dK;generalize 38597363079105398474523661669562635951089994888546854679819194669302944890554=c at *;generalize 115792089237316195423570985008687907853269984665640564039457584007908834671663=P at *;have hz:NeZero P:=⟨oM⟩
 exact⟨P,hz,rfl,OD hp h3 h7 (PH hc oM hk)⟩
end EC
section
open Go.RowKit Go.Sort
structure At4(w:World)(k a b c d:Nat):Prop where
 c0:w.cell? ⟨k,0,none⟩=some (uZ a)
 c1:w.cell? ⟨k,1,none⟩=some (uZ b)
 c2:w.cell? ⟨k,2,none⟩=some (uZ c)
 c3:w.cell? ⟨k,3,none⟩=some (uZ d)
 f:∀o,w.frozen? ⟨k,o,none⟩=false
variable {w w1:World}{k a b c d:Nat}
theorem At4.lt(h:At4 w k a b c d):k<w.heap.size:=World.block_lt_of_cell? _ _ h.c0
theorem At4.below{B:Nat}(h:At4 w k a b c d)(hb:Below B w w1)(hk:k<B):At4 w1 k a b c d:=
 ⟨by rw[hb.cell (p:=⟨k,0,none⟩) hk];exact h.c0,by rw[hb.cell (p:=⟨k,1,none⟩) hk];exact h.c1,by rw[hb.cell (p:=⟨k,2,none⟩) hk];exact h.c2,by rw[hb.cell (p:=⟨k,3,none⟩) hk];exact h.c3,
  λo=>by rw[hb.frozen (p:=⟨k,o,none⟩) hk];exact h.f o⟩
theorem At4.call(h:At4 w k a b c d)(hb:Below w.heap.size w w1):At4 w1 k a b c d:=h.below hb h.lt
theorem At4.alloc(h:At4 w k a b c d)(o:Obj):At4 (w.alloc o) k a b c d:=h.call (aB w o)
theorem At4.drewN(h:At4 w k a b c d)(q:Nat):At4 (w.drewN q) k a b c d:=⟨h.c0,h.c1,h.c2,h.c3,h.f⟩
theorem At4.new(w:World)(t:TypeId)(a b c d:Nat):At4 (w.alloc (.cells #[uZ a,uZ b,uZ c,uZ d] t)) w.heap.size a b c d:=
 ⟨by rw[S5];rfl,by rw[S5];rfl,by rw[S5];rfl,by rw[S5];rfl,λo=>TU _ _ _ _⟩
theorem At4.made(w:World)(t:TypeId)(a b c d:Nat){k:Nat}(hk:w.heap.size=k):At4 (w.alloc (.cells #[uZ a,uZ b,uZ c,uZ d] t)) k a b c d:=
 hk ▸ At4.new w t a b c d
theorem aC{i j:Nat}{o o':Nat}(h:i≠j\/o≠o'):(⟨i,o,none⟩:Addr)≠⟨j,o',none⟩:=by
 intro e;simp only[Addr.mk.injEq,and_true]at e;omega
theorem At4.other{j o : Nat}(h : At4 w k a b c d)(hj : j ≠ k)(v : Value): At4 (w.setCell ⟨j, o, none⟩ v) k a b c d :=
  ⟨by rw [u7 _ _ _ _ (aC (SY hj))]; exact h.c0, by rw [u7 _ _ _ _ (aC (SY hj))]; exact h.c1,
   by rw [u7 _ _ _ _ (aC (SY hj))]; exact h.c2, by rw [u7 _ _ _ _ (aC (SY hj))]; exact h.c3, λo => by rw [S3]; exact h.f o⟩
theorem At4.set0(h : At4 w k a b c d)(x : Nat): At4 (w.setCell (aZ k) (uZ (x : Int))) k x b c d :=
  ⟨Tb _ _ _ h.c0, by rw [u7 _ _ _ _ (aC (SJ dC))]; exact h.c1,
   by rw [u7 _ _ _ _ (aC (SJ dC))]; exact h.c2, by rw [u7 _ _ _ _ (aC (SJ dC))]; exact h.c3, λo => by rw [S3]; exact h.f o⟩
theorem At4.set1(h : At4 w k a b c d)(x : Nat): At4 (w.setCell ⟨k, 1, none⟩ (uZ (x : Int))) k a x c d :=
  ⟨by rw [u7 _ _ _ _ (aC (SJ dC))]; exact h.c0, Tb _ _ _ h.c1,
   by rw [u7 _ _ _ _ (aC (SJ dC))]; exact h.c2, by rw [u7 _ _ _ _ (aC (SJ dC))]; exact h.c3, λo => by rw [S3]; exact h.f o⟩
theorem At4.set2(h : At4 w k a b c d)(x : Nat): At4 (w.setCell ⟨k, 2, none⟩ (uZ (x : Int))) k a b x d :=
  ⟨by rw [u7 _ _ _ _ (aC (SJ dC))]; exact h.c0, by rw [u7 _ _ _ _ (aC (SJ dC))]; exact h.c1,
   Tb _ _ _ h.c2, by rw [u7 _ _ _ _ (aC (SJ dC))]; exact h.c3, λo => by rw [S3]; exact h.f o⟩
theorem At4.set3(h : At4 w k a b c d)(x : Nat): At4 (w.setCell ⟨k, 3, none⟩ (uZ (x : Int))) k a b c x :=
  ⟨by rw [u7 _ _ _ _ (aC (SJ dC))]; exact h.c0, by rw [u7 _ _ _ _ (aC (SJ dC))]; exact h.c1,
   by rw [u7 _ _ _ _ (aC (SJ dC))]; exact h.c2, Tb _ _ _ h.c3, λo => by rw [S3]; exact h.f o⟩
theorem At4.drew(h:At4 w k a b c d):At4 w.drew k a b c d:=⟨h.c0,h.c1,h.c2,h.c3,h.f⟩
def set4(w:World)(k:Nat)(x y z t:Value):World:=(((w.setCell (aZ k) x).setCell ⟨k,1,none⟩ y).setCell ⟨k,2,none⟩ z).setCell ⟨k,3,none⟩ t
theorem At4.self4(h:At4 w k a b c d)(x y z t:Nat):At4 (set4 w k (uZ x) (uZ y) (uZ z) (uZ t)) k x y z t:=(((h.set0 x).set1 y).set2 z).set3 t
theorem At4.other4{j:Nat}(h:At4 w k a b c d)(hj:j≠k)(x y z t:Value):At4 (set4 w j x y z t) k a b c d:=(((h.other hj x).other hj y).other hj z).other hj t
theorem aF{B j:Nat}{w0:World}(h:Below B w0 w)(hj:B<=j)(x y z t:Value):Below B w0 (set4 w j x y z t):=
 (((h.setCell (p:=⟨j,0,none⟩) hj x).setCell (p:=⟨j,1,none⟩) hj y).setCell (p:=⟨j,2,none⟩) hj z).setCell (p:=⟨j,3,none⟩) hj t
theorem E8(w:World)(j:Nat)(x y z t:Value):(set4 w j x y z t).heap.size=w.heap.size:=by simp[set4]
end
end Go.Proofs.YtnakcnljhmlikaaGreat
