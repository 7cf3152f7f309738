import Derived.KernelRfl
import Derived.Below
import Derived.Deep.MidRow
import Derived.WalkKit
import Derived.Test.YtdoammpgchejcaaGreatRows
import Derived.Lib.Mul64
import Derived.Laws.Bits64b
import Derived.Laws.Externs
import Derived.Sort.Row
import Derived.Deep.LoopGhost
import Derived.Deep.QuietTactic
import Derived.StillTailTactics
import Derived.BigRegion
import Derived.BigQuiet
import Derived.WalkSpells
import Derived.WalkLawsBesides
import Derived.OrdersHeld
import Derived.Orders
import Derived.Deep.CutRange
import Derived.Deep.Draws
import Derived.Deep.RegionHeld3
import Derived.Laws.BitsLemmas
import Derived.Deep.RegionHeld
import Derived.Deep.DeepCutAuto
import Derived.Laws.Tables
import Derived.LoopN
import Derived.Deep.RegionWith
import Derived.Deep.OwnRows
import Derived.Lib.LazyBuf
import Derived.Lib.ConvBytes
set_option linter.unusedVariables false
set_option linter.constructorNameAsVariable false
set_option linter.unusedSimpArgs false
set_option maxRecDepth 1000000
set_option maxHeartbeats 4000000
namespace Go.Proofs.YtdoammpgchejcaaGreat
variable {args:Array Uv}{z:Fin P}{C vs:List Uv}{B id j m q r s u:Nat}{p0 p1 p2:Prop}{v0:Uv}{t:WF}
theorem yCk{c:Prop}{h:Decidable c}(hc:c){α:Sort _}{t e:α}:ite c t e=t:=if_pos hc
theorem yCl{c:Prop}{h:Decidable c}(hc:¬c){α:Sort _}{t e:α}:ite c t e=e:=if_neg hc
theorem yCm:True:=True.intro
open _root_.Array renaming all_eq_true'->WR,any_eq_true'->Xs,getD_eq_getD_getElem?->UJ,getElem?_eq_getElem->UZ,getElem?_eq_none->Wu,getElem?_eq_some_iff->UY,getElem?_replicate->Xu,getElem?_setIfInBounds->WL,getElem?_toList->Vt,getElem_replicate->Wr,getElem_toList->XG,length_toList->UL,mapM_eq_mapM_toList->Yf,replicate->UM,size_append->VP,size_replicate->UO,size_setIfInBounds->Vz,toList_replicate->XT
open _root_.Bool renaming and_eq_true->UN,noConfusion->YG,or_false->Xa,true_or->XX
open _root_.Classical renaming byContradiction->WB
open _root_.Fin renaming ext->Yi,ext_iff->yB5,val->yBf,val_mul->XO
open _root_.Go renaming Calls->UK,Exit->X9,FuncId->Xl,Oper->Vk,Operand->XM,Program->VD,Tmp->WF,TypeId->Vb,Value->Uv,World->Ut,bodyPost_ret->UH,execOp->U9,getD_set_ne->XW,rounds_succ->Xh,run_loadVar_mid->Y2,run_underlying->Yn,sizeOf->yAl,undef->WJ,wpOp_mono->X8,wp_region_any->Z5,wp_ret->Wy,wp_seq->UC
open _root_.Go.Act renaming put->UR
open _root_.Go.Addr renaming add->Zr,mk->yBq
open _root_.Go.Builtin renaming copy_->Ya
open _root_.Go.Code renaming region->V3
open _root_.Go.Instr renaming alloc->yAE,index->ZT,indexAt->Vj,loadAt->yAv,makeSlice->Xx,sliceAt->Xw,storeAt->Y6,sureAddr->Yy
open _root_.Go.IntKind renaming i64->VY,u64->Vw,u8->XF,wrap_i64->Yp,wrap_u64->XJ
open _root_.Go.Lib renaming half_mul_le->Z6
open _root_.Go.Next renaming value->Xq
open _root_.Go.Op renaming equalIn->yCc
open _root_.Go.Oper renaming upon_enter->WU,wp->VT
open _root_.Go.Region renaming binds->VM,free->YX,noSelect->XQ,ready->U7,wanted->V5
open _root_.Go.Result renaming andThen->Z1,andThen_ok->Vr
open _root_.Go.RowKit renaming Below->yAD
open _root_.Go.RowKit.Below renaming heap_setCell->YU
open _root_.Go.Sem renaming run_bind->UW
open _root_.Go.Value renaming agg->U5,int->V2,pointer->yBz,slice->VA
open _root_.Go.World renaming alloc->XB,block_lt_of_cell?->Xf,cell?->V1,cell?_alloc_new->Ve,cell?_of_block->U0,cell?_setCell_other->UV,cell?_setCell_same->VU,frozen?_alloc_new->Wq,frozen?_of_block->VR,frozen?_setCell->VK,setCell->X0,setCells->Yw,size_alloc->UD
open _root_.Int renaming add_zero->Z0,eq_ofNat_of_zero_le->yAz,natCast_ediv->Zl,natCast_emod->yBl,natCast_mul->XD,natCast_pow->yAk,natCast_zero->WM,ofNat_inj->yBJ
open _root_.List renaming all_eq_true->Va,append_nil->XC,countP_cons->yBa,find?_some->Ym,foldl_cons->yBk,getD_eq_getElem?_getD->VW,getElem?_append_left->UX,getElem?_append_right->U4,getElem?_cons_succ->Vf,getElem?_cons_zero->Vl,getElem?_drop->Zz,getElem?_eq_getElem->UI,getElem?_eq_none->WE,getElem?_eq_some_iff->UG,getElem?_map->Vy,getElem?_of_mem->WS,getElem?_take->WI,getElem_map->Xi,length_append->UB,length_cons->Vg,length_drop->ZQ,length_map->US,length_nil->WO,length_take->WN,mapM_cons->Zo,mapM_nil->Zu,map_append->Wx,map_cons->X4,map_inj_left->ZH,mem_cons->V0,mem_cons_of_mem->Vd,mem_cons_self->Vo,mem_of_find?_eq_some->WW,mem_of_getElem?->VQ,mem_range->VS,mem_zipIdx_iff_getElem?->YK,not_mem_nil->U1,range->VB,range'->yBQ,replicate->VG,setIfInBounds_toArray->Uu,set_cons_succ->Uw,set_cons_zero->Ux,size_toArray->VE
open _root_.Nat renaming Coprime->ZY,add_assoc->WY,add_comm->yAS,add_mod->Ze,add_mod_right->yA8,add_mul->XH,add_mul_mod_self_left->Y1,add_sub_cancel_left->WH,add_zero->Xm,ble_eq->yB8,div_add_mod->YT,div_div_eq_div_mul->YD,div_eq_of_lt->XA,div_le_self->Z2,dvd_of_mod_eq_zero->XR,dvd_trans->Zx,eq_zero_of_dvd_of_lt->Y9,gcd->yA7,gcd_dvd_left->ZU,gcd_dvd_right->ZK,le_of_ble_eq_true->VX,le_of_dvd->Yl,le_of_lt->XN,le_refl->Uy,le_succ->Y4,le_total->yBP,le_trans->UE,lt_of_le_of_lt->ZB,lt_of_lt_of_le->Uz,lt_of_succ_le->Xt,lt_or_ge->VV,mod_add_mod->yBv,mod_eq_of_lt->UU,mod_eq_sub_mod->yAW,mod_eq_zero_of_dvd->Yx,mod_lt->V6,mod_mod->yAK,mod_mod_of_dvd->ZA,mod_mul_mod->yBu,mod_one->yA6,mul_add->YI,mul_assoc->XK,mul_comm->Vv,mul_le_mul->WP,mul_le_mul_right->WX,mul_left_comm->ZJ,mul_mod->Xz,mul_one->XY,mul_zero->Zn,ne_of_gt->Wp,ne_of_lt->Xk,one_mul->Xj,or_comm->yBY,pow_add->Yh,pow_dvd_pow->yBs,pow_le_pow_right->VN,pow_mod->yAI,pow_mul->ZX,pow_one->Y3,pow_pos->X6,pow_succ->V8,pow_zero->YS,strongRecOn->yBr,sub_zero->Y8,two_pow_add_eq_or_of_lt->YR,zero_add->UF,zero_le->Wz,zero_mod->YO,zero_mul->ZW,zero_pow->yBO
open _root_.Nat.Coprime renaming mul_dvd_of_dvd_of_dvd->Xc
open _root_.Ne renaming symm->YL
open _root_.Option renaming isSome_iff_exists->Vu,map_eq_some_iff->UA,some->UP
open _root_.Or renaming inl->U6,inr->U2
open _root_.Prod renaming mk->We
open _root_.UInt8 renaming ofNat->UQ
open Go.Proofs.Tryz
abbrev uZ(n:Int):Uv:=.int .u64 n
abbrev iZ(n:Int):Uv:=.int .i64 n
abbrev aZ(k:Nat):Go.Addr:=⟨k,0,none⟩
abbrev jZ(k:Nat):Uv:=.pointer (some ⟨k,0,none⟩)
abbrev sZ(k n c:Nat):Uv:=.slice (some ⟨k,0,none⟩) n c
abbrev oZ(k o:Nat):Uv:=.pointer (some ⟨k,o,none⟩)
section
variable {P:Nat}[NeZero P]{N:Nat}
theorem oM{p:Prop}(h:p:=by omega):p:=h
theorem kR{p:Prop}(h:p:=by kernel_rfl):p:=h
theorem dC{p:Prop}(h:p:=by decide):p:=h
theorem dK{p:Prop}(h:p:=by decide +kernel):p:=h
end
section
open Go Go.RowKit
theorem hE{α:Sort _}(x:α):∃y,Hid (x=y):=⟨x,rfl⟩
theorem mk1{p:Prop}(h:p):Hid p:=h
theorem mk2(k:p0)(b:p1):Hid (p0/\p1):=⟨k,b⟩
theorem mk3(b:p0)(k:p1)(c:p2):Hid (p0/\p1/\p2):=⟨b,k,c⟩
theorem mk4{k:Prop}(d:p0)(c:p1)(e:p2)(b:k):Hid (p0/\p1/\p2/\k):=⟨d,c,e,b⟩
theorem mk5{k b:Prop}(g:p0)(e:p1)(f:p2)(d:k)(c:b):Hid (p0/\p1/\p2/\k/\b):=⟨g,e,f,d,c⟩
theorem mk6{k b c:Prop}(j:p0)(g:p1)(i:p2)(f:k)(d:b)(e:c):Hid (p0/\p1/\p2/\k/\b/\c):=⟨j,g,i,f,d,e⟩
theorem mk7{k b c p6:Prop}(l:p0)(i:p1)(j:p2)(g:k)(d:b)(e:c)(f:p6):Hid (p0/\p1/\p2/\k/\b/\c/\p6):=⟨l,i,j,g,d,e,f⟩
theorem mk8{k b c p6 p7:Prop}(m:p0)(j:p1)(l:p2)(i:k)(e:b)(f:c)(g:p6)(d:p7):Hid (p0/\p1/\p2/\k/\b/\c/\p6/\p7):=⟨m,j,l,i,e,f,g,d⟩
section
variable {P:VD}{ops:Array Vk}{rest:List Vk}{op:Vk}{a:Act}{w w':Ut}{Q:X9->Act->Ut->Prop}{T:Vb}{y:XM}{g o:Nat}{cs:List Uv}{v:Uv}{ob:Obj}
theorem stR(t:WF)(d:Hid (w.setCells g o cs=w'))(hv:Hid (.agg cs.toArray=v))(th:w.there g o cs.toArray.size)(b:(P.info? T).map (·.size)=some cs.toArray.size)(c:cs.toArray.all (·.oneCell')=true)(h:wpList P ops Q rest (a.put op.dst WJ) w')(k:op.guard=none:=by rfl)(ho:op.op=.store T (.tmp t) y:=by rfl)(hx:a.eval (.tmp t)=oZ g o:=by rfl)(e:a.eval y=v:=by rfl):wpList P ops Q (op :: rest) a w:=
 wpList_store_mid k T (.tmp t) y ho g o cs.toArray hx (e.trans hv.out.symm) th b c (by rw[show cs.toArray.toList=cs from rfl,d.out];exact h)
theorem ldR(t:WF)(b:w.rangeAt g o cs)(hv:Hid (.agg cs.toArray=v))(e:(P.underlying T).map (·.isRow)=some true)(c:(P.info? T).map (·.size)=some cs.length)(h:wpList P ops Q rest (a.put op.dst v) w)(k:op.guard=none:=by rfl)(ho:op.op=.load T (.tmp t):=by rfl)(hx:a.eval (.tmp t)=oZ g o:=by rfl):wpList P ops Q (op :: rest) a w:=by
 obtain⟨d,f,i⟩:=UA.1 e;exact wpList_load_mid k T (.tmp t) ho g o hx cs d b f i c (by rw[hv.out];exact h)
theorem alR(t:WF)(c:Hid (w.heap.size=g))(e:Hid (w.alloc ob=w'))(h:wpList P ops Q rest (a.put op.dst (jZ g)) w')(hd:op.dst=some t:=by rfl)(k:op.guard=none:=by rfl)(d:(U9 a.eval op).run P w=.ok (.value (jZ w.heap.size)) (w.alloc ob):=by kernel_rfl):wpList P ops Q (op :: rest) a w:=
 wpList_plain k λK b=>by
  unfold VT;rw[d,c.out,e.out];exact b _ _ h
end
end
section
open Go.RowKit
variable {P:Nat}[NeZero P]{N:Nat}
def val(a b c d:Nat):Nat:=a+18446744073709551616*b+340282366920938463463374607431768211456*c+6277101735386680763835789423207666416102355444464034512896*d
def Four(v:Uv)(n:Nat):Prop:=∃a b c d:Nat,v=.agg #[uZ a,uZ b,uZ c,uZ d] /\
 a<18446744073709551616/\b<18446744073709551616/\c<18446744073709551616/\d<18446744073709551616/\n=val a b c d
def top:Nat:=115792089237316195423570985008687907853269984665640564039457584007913129639936
theorem mN{a b c d:Nat}(f:a<18446744073709551616)(e:b<18446744073709551616)(k:c<18446744073709551616)(hd:d<18446744073709551616):val a b c d<top:=by
 unfold val top;omega
theorem Four.lt{v:Uv}{n:Nat}(h:Four v n):n<top:=by
 obtain⟨a,b,c,d,-,f,e,k,hd,rfl⟩:=h;exact mN f e k hd
theorem val_inj{a b c d p:Nat}(j:a<18446744073709551616)(i:b<18446744073709551616)(k:c<18446744073709551616)
 (e:p<18446744073709551616) (f:q<18446744073709551616) (g:r<18446744073709551616) (h:val a b c d=val p q r s):a=p/\b=q/\c=r/\d=s:=by
 unfold val at h;omega
theorem Four.inj{v k:Uv}{n:Nat}(h:Four v n)(o:Four k n):v=k:=by
 obtain⟨a,b,c,d,rfl,j,m,l,hd,e⟩:=h;obtain⟨p,q,r,s,rfl,f,g,i,t,e'⟩:=o;obtain⟨rfl,rfl,rfl,rfl⟩:=val_inj j m l f g i (e.symm.trans e');rfl
theorem Four.num{v:Uv}{n:Nat}(h:Four v n)(k:Four v m):n=m:=by
 obtain⟨a,b,c,d,rfl,l,t,o,hd,rfl⟩:=h;obtain⟨p,q,r,s,e,g,i,j,f,rfl⟩:=k;simp only[U5.injEq,Array.mk.injEq,List.cons.injEq,V2.injEq,true_and,and_true,yBJ]at e;obtain⟨rfl,rfl,rfl,rfl⟩:=e;rfl
theorem Four.mk{a b c d n:Nat}(f:a<18446744073709551616)(e:b<18446744073709551616)(k:c<18446744073709551616)(hd:d<18446744073709551616)(g:n=val a b c d):
 Four (.agg #[uZ a,uZ b,uZ c,uZ d]) n:=⟨a,b,c,d,rfl,f,e,k,hd,g⟩
theorem ret_int{k:IntKind}{a b:Int}(h:a=b):Ending.returned (.int k a)=.returned (.int k b):=by rw[h]
end
section
open Go.RowKit Go.Sort
variable {P:Nat}[NeZero P]{N:Nat}
theorem mixed:prog.follows .mixedOrders=true:=kR
theorem FZ(x y c:Nat)(hx:x<18446744073709551616)(d:y<18446744073709551616)(b:c<=1):
 ∃s k:Nat,(∀w,(callFunc 175 #[uZ x,uZ y,uZ c]).run prog w=.ok (.value (.tuple #[uZ s,uZ k])) w) /\
  s<18446744073709551616/\k<=1/\s+18446744073709551616*k=x+y+c:=by
 refine⟨(x+y+c)%18446744073709551616,(x+y+c)/18446744073709551616,λw=>?_,oM,oM,oM⟩;rw[run_callFunc_extern func175 kR kR kR (e:=add64Entry) kR,run_add64 x y c oM oM oM oM];simp only[Z1]
 congr 5<;>omega
theorem EA(x y c:Nat)(hx:x<18446744073709551616)(d:y<18446744073709551616)(b:c<=1):
 ∃s k:Nat,(∀w,(callFunc 167 #[uZ x,uZ y,uZ c]).run prog w=.ok (.value (.tuple #[uZ s,uZ k])) w) /\
  s<18446744073709551616/\k<=1/\s+y+c=x+18446744073709551616*k:=by
 refine⟨(x+18446744073709551616-y-c)%18446744073709551616,if x<y+c then 1 else 0,λw=>?_,oM,by split<;>omega,by split<;>omega⟩;rw[run_callFunc_extern func167 kR kR kR (e:=(Extern.MathBitsCarry.rows[1]).2) kR];have:c=0\/c=1:=oM;rcases this with rfl|rfl<;>rfl
theorem yT(x y:Nat)(hx:x<18446744073709551616)(b:y<18446744073709551616):
 ∃s k:Nat,(∀w,(callFunc 175 #[uZ x,uZ y,uZ 0]).run prog w=.ok (.value (.tuple #[uZ s,uZ k])) w) /\
  s<18446744073709551616/\k<=1/\s+18446744073709551616*k=x+y:=FZ x y 0 hx b (Wz 1)
theorem OC(x y:Nat)(hx:x<18446744073709551616)(b:y<18446744073709551616):
 ∃s k:Nat,(∀w,(callFunc 167 #[uZ x,uZ y,uZ 0]).run prog w=.ok (.value (.tuple #[uZ s,uZ k])) w) /\
  s<18446744073709551616/\k<=1/\s+y=x+18446744073709551616*k:=EA x y 0 hx b (Wz 1)
theorem maskN(a:Nat)(k:a<18446744073709551616):bits .and .u64 (a:Int) 4294967295=((a%4294967296:Nat):Int):=by
 have h:=bits_and_u64_nat a 4294967295 k oM;rw[show a &&& 4294967295=a%4294967296 from Nat.and_two_pow_sub_one_eq_mod a 32]at h;exact h
theorem divN(a:Nat):(a:Int)/4294967296=((a/4294967296:Nat):Int):=oM
theorem mulN(a b:Nat):(a:Int)*(b:Int)=((a*b:Nat):Int):=(XD a b).symm
theorem addN(a b:Nat):(a:Int)+(b:Int)=((a+b:Nat):Int):=(Int.natCast_add a b).symm
theorem wrapN(a:Nat)(k:a<18446744073709551616):Vw.wrap (a:Int)=(a:Int):=by rw[XJ];omega
theorem wrapM(a:Nat):Vw.wrap (a:Int)=((a%18446744073709551616:Nat):Int):=by rw[XJ];omega
theorem Pl(x y:Nat)(hx:x<18446744073709551616)(f:y<18446744073709551616)(w:Ut):
 UK prog 174 #[uZ x,uZ y] w λe w'=>e=.returned (.tuple #[uZ ((x*y/18446744073709551616:Nat):Int),uZ ((x*y%18446744073709551616:Nat):Int)])/\w'=w:=by
 obtain⟨i,d,bw,c⟩:=Lib.mul64_hi x y hx f;have n:=Z6 (a:=x/4294967296) (b:=y/4294967296) oM oM;have m:=Z6 (a:=x/4294967296) (b:=y%4294967296) oM oM;have o:=Z6 (a:=x%4294967296) (b:=y/4294967296) oM oM;have b1:x/4294967296*(y/4294967296)<18446744073709551616:=oM;have j:x/4294967296*(y%4294967296)<18446744073709551616:=oM;have g:x%4294967296*(y/4294967296)<18446744073709551616:=oM;have k:x/4294967296*(y/4294967296)+(x/4294967296*(y%4294967296)+x%4294967296*(y%4294967296)/4294967296)/4294967296<18446744073709551616:=oM;have l:x/4294967296*(y/4294967296)+(x/4294967296*(y%4294967296)+x%4294967296*(y%4294967296)/4294967296)/4294967296+((x/4294967296*(y%4294967296)+x%4294967296*(y%4294967296)/4294967296)%4294967296+x%4294967296*(y/4294967296))/4294967296<18446744073709551616:=oM;go_enter func174,ntmps174;go_wp2;simp only[maskN x hx,maskN y f,divN,mulN,addN,wrapN _ i,wrapN _ j,wrapN _ d,maskN _ d,wrapN _ g,wrapN _ bw,wrapN _ b1,wrapN _ k,wrapN _ l,wrapM (x*y)];rw[c]
 go_ret2
 exact⟨rfl,rfl⟩
theorem I7(x y:Nat)(hx:x<18446744073709551616)(b:y<18446744073709551616):
 ∃h l:Nat,(∀w,UK prog 174 #[uZ x,uZ y] w λe w'=>e=.returned (.tuple #[uZ h,uZ l])/\w'=w) /\
  h<18446744073709551616/\l<18446744073709551616/\l+18446744073709551616*h=x*y:=by
 have k:x*y<=18446744073709551615*18446744073709551615:=WP oM oM;exact⟨_,_,λw=>Pl x y hx b w,oM,oM,oM⟩
theorem Ru(x y:Nat)(hx:x<18446744073709551616)(g:y<18446744073709551616)(w:Ut):
 UK prog 174 #[uZ x,uZ y] w λe w'=>w'=w/\∃h l:Nat,e=.returned (.tuple #[uZ h,uZ l]) /\
  h<18446744073709551616/\l<18446744073709551616/\l+18446744073709551616*h=x*y:=by
 obtain⟨h,l,b,d,f,c⟩:=I7 x y hx g;exact(b w).mono λe w' k=>⟨k.2,h,l,k.1,d,f,c⟩
theorem Tc(x y o c:Nat)(hx:x<18446744073709551616)(s:y<18446744073709551616)(ho:o<18446744073709551616)(m:c<18446744073709551616):
 ∃h l s1 k s2 b g d:Nat,(∀w,UK prog 174 #[uZ x,uZ y] w λe w'=>e=.returned (.tuple #[uZ h,uZ l])/\w'=w) /\
  (∀w,(callFunc 175 #[uZ l,uZ c,uZ 0]).run prog w=.ok (.value (.tuple #[uZ s1,uZ k])) w) /\
  (∀w,(callFunc 175 #[uZ o,uZ s1,uZ 0]).run prog w=.ok (.value (.tuple #[uZ s2,uZ b])) w) /\
  Vw.wrap ((h:Int)+(k:Int))=(g:Int)/\Vw.wrap ((g:Int)+(b:Int))=(d:Int) /\
  s2<18446744073709551616/\d<18446744073709551616/\s2+18446744073709551616*d=x*y+o+c:=by
 have p:x*y<=18446744073709551615*18446744073709551615:=WP oM oM;obtain⟨h,l,r,hh,n,u⟩:=I7 x y hx s;obtain⟨s1,k,i,d,q,t⟩:=yT l c n m;obtain⟨s2,b,a2,f,j,e3⟩:=yT o s1 ho d;refine⟨h,l,s1,k,s2,b,h+k,h+k+b,r,i,a2,?_,?_,f,oM,oM⟩
 ·rw[addN];exact wrapN _ oM
 ·rw[addN];exact wrapN _ oM
theorem rJ(x y o c:Nat)(hx:x<18446744073709551616)(q:y<18446744073709551616)(ho:o<18446744073709551616)(j:c<18446744073709551616)(w:Ut):
 UK prog 243 #[uZ x,uZ y,uZ o,uZ c] w λe w'=>w'=w/\∃l h:Nat,e=.returned (.tuple #[uZ l,uZ h]) /\
  h<18446744073709551616/\l<18446744073709551616/\l+18446744073709551616*h=x*y+o+c:=by
 have n:x*y<=18446744073709551615*18446744073709551615:=WP oM oM;go_enter func243,ntmps243;go_wp2_with fail
 refine(Ru x y hx q _).mono ?_;rintro e g ⟨rfl,h,l,rfl,hh,m,u⟩;obtain⟨s1,k,t,b,p,r⟩:=yT l o m ho;obtain⟨s2,d,a2,f,i,e3⟩:=yT s1 c b j;have g:Vw.wrap ((h:Int)+(k:Int))=((h+k:Nat):Int):=by rw[addN];exact wrapN _ oM
 have s:Vw.wrap (((h+k:Nat):Int)+(d:Int))=((h+k+d:Nat):Int):=by rw[addN];exact wrapN _ oM
 go_wp2
 go_ret2
 refine⟨rfl,s2,h+k+d,?_,oM,oM,oM⟩;rfl
def Ret(Q:Uv->Ut->Prop)(e:Ending)(w:Ut):Prop:=∃v,e=.returned v/\Q v w
abbrev rZ(w:Ut)(Q:Uv->Ut->Prop):Go.Ending->Ut->Prop:=Ret λe w'=>yAD w.heap.size w w'/\Q e w'
abbrev kZ(w W:Ut):Prop:=yAD w.heap.size w W
theorem aC(w:Ut)(k:Obj):kZ w (w.alloc k):=(Below.refl _ _).alloc (Uy _) k
theorem below2(w:Ut)(k b:Obj):kZ w ((w.alloc k).alloc b):=(aC w k).alloc (by simp) b
theorem below3(w:Ut)(k c b:Obj):kZ w (((w.alloc k).alloc c).alloc b):=(below2 w k c).alloc (by simp;omega) b
theorem Eg(w:Ut)(b d c k:Obj):kZ w ((((w.alloc b).alloc d).alloc c).alloc k):=(below3 w b d c).alloc (by simp;omega) k
theorem qU(x y:Uv)(m n:Nat)(hx:Four x m)(N:Four y n)(w:Ut):
 UK prog 126 #[x,y] w (rZ w λe w'=>∃(v:Uv) (s k:Nat),e=.tuple #[v,uZ k]/\Four v s/\k<=1/\s+top*k=m+n):=by
 obtain⟨a,b,c,d,rfl,H,L,K,hd,E⟩:=hx;obtain⟨p,q,r,s,rfl,B,C,hr,A,J⟩:=N;obtain⟨s0,F,a0,o,t,P⟩:=yT a p H B;obtain⟨s1,M,I,g,u,Q⟩:=FZ b q F L C t;obtain⟨s2,D,a2,i,l,O⟩:=FZ c r M K hr u;obtain⟨s3,z,G,j,f,e3⟩:=FZ d s D hd A l;have hv:val s0 s1 s2 s3+top*z=m+n:=by rw[E,J];unfold val top;omega
 go_enter func126,ntmps126;go_wp2_with (first|simp only[a0]|simp only[I]|simp only[a2]|simp only[G])
 refine UH (v:=?v) ?hr rfl ?hR
 case hr=>simp[results,Tryz.results126,go_sem];rfl
 exact⟨_,rfl,below3 _ _ _ _,_,_,z,rfl,Four.mk o g i j rfl,f,hv⟩
theorem sK(x y:Uv)(m n:Nat)(hx:Four x m)(N:Four y n)(w:Ut):
 UK prog 239 #[x,y] w (rZ w λe w'=>∃(v:Uv) (s k:Nat),e=.tuple #[v,uZ k]/\Four v s/\k<=1/\s+n=m+top*k):=by
 obtain⟨a,b,c,d,rfl,H,L,K,hd,E⟩:=hx;obtain⟨p,q,r,s,rfl,B,C,hr,A,J⟩:=N;obtain⟨s0,F,a0,o,t,P⟩:=OC a p H B;obtain⟨s1,M,I,g,u,Q⟩:=EA b q F L C t;obtain⟨s2,D,a2,i,l,O⟩:=EA c r M K hr u;obtain⟨s3,z,G,j,f,e3⟩:=EA d s D hd A l;have hv:val s0 s1 s2 s3+n=m+top*z:=by rw[E,J];unfold val top;omega
 go_enter func239,ntmps239;go_wp2_with (first|simp only[a0]|simp only[I]|simp only[a2]|simp only[G])
 refine UH (v:=?v) ?hr rfl ?hR
 case hr=>simp[results,Tryz.results239,go_sem];rfl
 exact⟨_,rfl,below3 _ _ _ _,_,_,z,rfl,Four.mk o g i j rfl,f,hv⟩
theorem jP(x:Uv)(m:Nat)(hx:Four x m)(w:Ut):
 UK prog 127 #[x] w (rZ w λe w'=>e=x):=by
 obtain⟨a,b,c,d,rfl,g,f,k,hd,i⟩:=hx;go_enter func127,ntmps127;go_wp2;refine UH (v:=?v) ?hr rfl ?hR
 case hr=>simp[results,Tryz.results127,go_sem];rfl
 exact⟨_,rfl,below2 _ _ _,rfl⟩
theorem jK(x:Uv)(m:Nat)(hx:Four x m)(w:Ut):
 UK prog 214 #[x] w (rZ w λe w'=>e=x):=by
 obtain⟨a,b,c,d,rfl,g,f,k,hd,i⟩:=hx;go_enter func214,ntmps214;go_wp2;refine UH (v:=?v) ?hr rfl ?hR
 case hr=>simp[results,Tryz.results214,go_sem];rfl
 exact⟨_,rfl,below2 _ _ _,rfl⟩
theorem EV(x a b c d:Nat):x*val a b c d=val (x*a) (x*b) (x*c) (x*d):=by
 unfold val;rw[YI,YI,YI,ZJ x _ b,ZJ x _ c,ZJ x _ d]
theorem LR{x a b c d p k l g i f o e n:Nat}(t:m=val a b c d)(u:n=val p q r s)
 (w:k+18446744073709551616*i=x*a+p+0) (y:l+18446744073709551616*f=x*b+q+i)
 (v:j+18446744073709551616*o=x*c+r+f) (e3:g+18446744073709551616*e=x*d+s+o) :
 k+18446744073709551616*val l j g e=x*m+n:=by
 rw[t,u,EV x a b c d];unfold val;omega
theorem kA(x:Nat)(y z:Uv)(m n:Nat)(hx:x<18446744073709551616)(R:Four y m)(E:Four z n)(w:Ut):
 UK prog 234 #[uZ x,y,z] w (rZ w λe w'=>∃(l:Nat) (v:Uv) (s:Nat),e=.tuple #[uZ l,v]/\l<18446744073709551616/\Four v s/\l+18446744073709551616*s=x*m+n):=by
 obtain⟨a,b,c,d,rfl,L,Q,O,hd,J⟩:=R;obtain⟨p,q,r,s,rfl,H,I,hr,B,M⟩:=E;go_enter func234,ntmps234;go_wp2_with fail
 refine(rJ x a p 0 hx L H dC _).mono ?_;rintro e i ⟨rfl,D,G,rfl,j,g,K⟩;go_wp2_with fail
 refine(rJ x b q G hx Q I j _).mono ?_;rintro e i ⟨rfl,V,F,rfl,A,f,P⟩;go_wp2_with fail
 refine(rJ x c r F hx O hr A _).mono ?_;rintro e i ⟨rfl,U,N,rfl,u,o,C⟩;go_wp2_with fail
 refine(rJ x d s N hx hd B u _).mono ?_;rintro e i ⟨rfl,S,T,rfl,k,t,e3⟩;go_wp2;refine UH (v:=?v) ?hr rfl ?hR
 case hr=>simp[results,Tryz.results234,go_sem];rfl
 exact⟨_,rfl,below3 _ _ _ _,D,_,_,rfl,g,Four.mk f o t k rfl,LR J M K P C e3⟩
end
namespace RG
open Go Go.RowKit
inductive SV where
 | v (x:Uv)
 | p (b o:Nat)
 | s (b n c:Nat)
 | t (b n c:Nat) (y:Uv)
def SV.at(μ:Nat->Nat):SV->Uv
 | .v x=>x
 | .p b o=>.pointer (some ⟨μ b,o,none⟩)
 | .s b n c=>.slice (some ⟨μ b,0,none⟩) n c
 | .t b n c y=>.tuple #[.slice (some ⟨μ b,0,none⟩) n c,y]
def SV.blk:SV->Option Nat
 | .v _=>none
 | .p b _=>some b
 | .s b _ _=>some b
 | .t b _ _ _=>some b
theorem SV.at_congr{μ ν:Nat->Nat}{s:SV}(h:∀b,s.blk=some b->μ b=ν b):s.at μ=s.at ν:=by
 cases s with
 | v x=>rfl
 | p b o=>show yBz (some ⟨μ b,o,none⟩)=.pointer (some ⟨ν b,o,none⟩);rw[h b rfl]
 | s b n c=>show VA (some ⟨μ b,0,none⟩) n c=.slice (some ⟨ν b,0,none⟩) n c;rw[h b rfl]
 | t b n c y=>show Value.tuple #[.slice (some ⟨μ b,0,none⟩) n c,y]=.tuple #[.slice (some ⟨ν b,0,none⟩) n c,y];rw[h b rfl]
inductive Kind where
 | stay
 | pass
 | call
 | make (b:Nat)
 | put (b:Nat)
structure It where
 dst:Option WF
 need:List (WF × Nat)
 out:SV
 kind:Kind
structure Bl where
 before:List Uv
 after:List Uv
 al:Option Nat
 st:Option Nat
def on(L:Array Bool)(i:Nat):Bool:=L.getD i false
def Bl.live(e:Bl)(L:Array Bool):Bool:=(e.al.map (on L)).getD true
def Bl.put(e:Bl)(L:Array Bool):Bool:=(e.st.map (on L)).getD false
def Bl.now(e:Bl)(L:Array Bool):List Uv:=if e.put L=true then e.after else e.before
theorem dD{L:Array Bool}{i:Nat}(h:i<L.size):on (L.setIfInBounds i true) j=(on L j || i == j):=by
 unfold on;simp only[UJ,WL];by_cases k:i=j
 ·subst k;simp[h]
 ·simp[k]
theorem iD{e:Bl}{L:Array Bool}{i:Nat}(h:i<L.size):e.live (L.setIfInBounds i true)=(e.live L || e.al == some i):=by
 unfold Bl.live;cases d:e.al with
 | none=>rfl
 | some j =>
  show on _ j=(on L j || _);rw[dD h];by_cases k:i=j
  ·subst k;simp
  ·have b:(i == j)=false:=by simpa using k
   have c:(some j == some i)=false:=by simpa using λh=>k h.symm
   rw[b,c]
theorem kD{e:Bl}{L:Array Bool}{i:Nat}(h:i<L.size):e.put (L.setIfInBounds i true)=(e.put L || e.st == some i):=by
 unfold Bl.put;cases d:e.st with
 | none=>rfl
 | some j =>
  show on _ j=(on L j || _);rw[dD h];by_cases k:i=j
  ·subst k;simp
  ·have b:(i == j)=false:=by simpa using k
   have c:(some j == some i)=false:=by simpa using λh=>k h.symm
   rw[b,c]
theorem range_below{k o:Nat}{w w':Ut}{cs:List Uv}(h:w.rangeAt k o cs)(c:Below B w w')(b:k<B):w'.rangeAt k o cs:=λj v hv=>by
 rw[c.cell (p:=⟨k,o+j,none⟩) b];exact h j v hv
theorem dM{k o n:Nat}{w w':Ut}(h:w.there k o n)(c:Below B w w')(b:k<B):w'.there k o n:=λj d=>by
 rw[c.cell (p:=⟨k,o+j,none⟩) b,c.frozen (p:=⟨k,o+j,none⟩) b];exact h j d
theorem below_setCells{k:Nat}{c:Ut}(b:B<=k):∀(vs:List Uv) (o:Nat) (w:Ut),Below B c w->Below B c (w.setCells k o vs)
 | [],_,_,h=>h
 | v :: r,o,w,h=>below_setCells b r (o+1) _ (h.setCell (p:=⟨k,o,none⟩) b v)
theorem setCells_size(k:Nat):∀(vs:List Uv) (o:Nat) (w:Ut),(w.setCells k o vs).heap.size=w.heap.size
 | [],_,_=>rfl
 | v :: r,o,w=>by
  rw[Yw,setCells_size k r (o+1)];simp[X0]
theorem there_setCells{k b o n:Nat}:∀(vs:List Uv) (i:Nat) (w:Ut),w.there b o n->(w.setCells k i vs).there b o n
 | [],_,_,h=>h
 | v :: r,i,w,h=>there_setCells r (i+1) _ λj c=>⟨World.isSome_setCells k [v] i w _ (h j c).1,by rw[VK];exact(h j c).2⟩
structure BelX(k0:Nat)(X:List Nat)(w w':Ut):Prop where
 os:w'.os=w.os
 tape:w'.tape=w.tape
 output:w'.output=w.output
 size:w.heap.size<=w'.heap.size
 block:∀j,j<k0->j ∉ X->w'.heap[j]? = w.heap[j]?
theorem BelX.below{k:Nat}{w w':Ut}(h:BelX k [] w w'):Below k w w':=⟨h.os,h.tape,h.output,h.size,λj b=>h.block j b U1⟩
theorem BelX.drew{k:Nat}{X:List Nat}{w w':Ut}(h:BelX k X w w'):BelX k X w w'.drew:=⟨h.os,h.tape,h.output,h.size,h.block⟩
theorem BelX.refl(k:Nat)(X:List Nat)(w:Ut):BelX k X w w:=⟨rfl,rfl,rfl,Uy _,λ_ _ _=>rfl⟩
theorem BelX.trans{d:Nat}{X:List Nat}{a b c:Ut}(h:BelX d X a b)(k:BelX d X b c):BelX d X a c:=
 ⟨k.os.trans h.os,k.tape.trans h.tape,k.output.trans h.output,UE h.size k.size,λi e hx=>(k.block i e hx).trans (h.block i e hx)⟩
structure Wd(w0:Ut)(k0:Nat)(X:List Nat)(bl:List Bl)(L:Array Bool)(μ:Nat->Nat)(w:Ut):Prop where
 bel:BelX k0 X w0 w
 le:k0<=w.heap.size
 has:∀(b:Nat) (e:Bl),bl[b]? = some e->e.live L=true->w.rangeAt (μ b) 0 (e.now L)/\w.there (μ b) 0 e.before.length/\μ b<w.heap.size/\(k0<=μ b\/μ b∈X)
 inj:∀(b c:Nat) (e f:Bl),bl[b]? = some e->bl[c]? = some f->e.live L=true->f.live L=true->b≠c->μ b≠μ c
variable {w0 w w':Ut}{k0:Nat}{X:List Nat}{bl:List Bl}{L:Array Bool}{μ:Nat->Nat}
theorem Wd.same{g:Array Bool}(h:Wd w0 k0 X bl L μ w)(d:∀(b:Nat) (e:Bl),bl[b]? = some e->e.live g=e.live L/\e.put g=e.put L):Wd w0 k0 X bl g μ w:=by
 refine⟨h.bel,h.le,λb e k hv=>?_,λb c e f k i j hf=>h.inj b c e f k i ((d b e k).1 ▸ j) ((d c f i).1 ▸ hf)⟩;have:=h.has b e k ((d b e k).1 ▸ hv);unfold Bl.now at this⊢;rw[(d b e k).2];exact this
theorem Wd.call(h:Wd w0 k0 X bl L μ w)(c:kZ w w'):Wd w0 k0 X bl L μ w':=by
 refine⟨h.bel.trans ⟨c.os,c.tape,c.output,c.size,λk i _=>c.block k (Uz i h.le)⟩,UE h.le c.size,λb e d hv=>?_,h.inj⟩;obtain⟨j,l,f,g⟩:=h.has b e d hv;exact⟨range_below j c f,dM l c f,Uz f c.size,g⟩
def upd(μ:Nat->Nat)(b k:Nat):Nat->Nat:=λc=>if c=b then k else μ c
structure Made(w:Ut)(k:Nat)(c:List Uv)(w':Ut):Prop where
 bel:kZ w w'
 le:w.heap.size<=k
 lt:k<w'.heap.size
 range:w'.rangeAt k 0 c
 there:w'.there k 0 c.length
theorem Made.alloc(w:Ut)(c:List Uv)(t:Vb):Made w w.heap.size c (w.alloc (.cells c.toArray t)):=by
 refine⟨aC w _,Uy _,by rw[UD];omega,λj v k=>?_,λj k=>⟨?_,Wq _ _ _ _⟩⟩
 ·rw[UF,Ve];simpa using k
 ·rw[UF,Ve];simp[k]
theorem Wd.make{i b k:Nat}{e:Bl}(h:Wd w0 k0 X bl L μ w)(z:i<L.size)(y:bl[b]? = some e)(D:e.al=some i)(u:∀(c:Nat) (f:Bl),bl[c]? = some f->c≠b->f.al≠some i)
 (j:∀(c:Nat) (f:Bl),bl[c]? = some f->f.st≠some i) (r:e.put L=false) (t:Made w k e.before w') :
 Wd w0 k0 X bl (L.setIfInBounds i true) (upd μ b k) w':=by
 have o:∀(c:Nat) (f:Bl),bl[c]? = some f->f.put (L.setIfInBounds i true)=f.put L:=λc f m=>by
  rw[kD z,show(f.st == some i)=false by simpa using j c f m,Xa]
 have n:∀(c:Nat) (f:Bl),bl[c]? = some f->c≠b->f.live (L.setIfInBounds i true)=f.live L:=λc f m j=>by
  rw[iD z,show(f.al == some i)=false by simpa using u c f m j,Xa]
 have p:∀(c:Nat) (f:Bl),bl[c]? = some f->c≠b->f.live (L.setIfInBounds i true)=true->μ c<w.heap.size:=λc f m j hv=>(h.has c f m (n c f m j ▸ hv)).2.2.1
 have l:=t.bel;have q:=t.le;refine⟨h.bel.trans ⟨l.os,l.tape,l.output,l.size,λk A _=>l.block k (Uz A h.le)⟩,UE h.le l.size,λc f m hv=>?_,λc d f g m hd hf x s=>?_⟩
 ·by_cases j:c=b
  ·subst j;rw[y]at m;obtain rfl:e=f:=UP.inj m;have v:e.now (L.setIfInBounds i true)=e.before:=by unfold Bl.now;rw[o c e y,r];rfl
   rw[v];unfold upd;rw[yCk rfl];exact⟨t.range,t.there,t.lt,U6 (UE h.le q)⟩
  ·obtain⟨a,C,r,B⟩:=h.has c f m (n c f m j ▸ hv);unfold upd;rw[yCl j];have v:f.now (L.setIfInBounds i true)=f.now L:=by unfold Bl.now;rw[o c f m]
   rw[v];exact⟨range_below a l r,dM C l r,Uz r l.size,B⟩
 ·unfold upd;by_cases j:c=b
  ·subst j;rw[yCk rfl,yCl (λh=>s h.symm)];exact Wp (Uz (p d g hd (λh=>s h.symm) x) q)
  ·by_cases r:d=b
   ·subst r;rw[yCk rfl,yCl j];exact Xk (Uz (p c f m j hf) q)
   ·rw[yCl j,yCl r];exact h.inj c d f g m hd (n c f m j ▸ hf) (n d g hd r ▸ x) s
structure PutTo(k n:Nat)(cs:List Uv)(w w':Ut):Prop where
 os:w'.os=w.os
 tape:w'.tape=w.tape
 output:w'.output=w.output
 size:w.heap.size<=w'.heap.size
 block:∀j,j<w.heap.size->j≠k->w'.heap[j]? = w.heap[j]?
 range:w'.rangeAt k 0 cs
 there:w'.there k 0 n
theorem aH(k:Nat):∀(vs:List Uv) (o:Nat) (w:Ut) (j:Nat),j≠k->(w.setCells k o vs).heap[j]? = w.heap[j]?
 | [],_,_,_,_=>rfl
 | v :: r,o,w,j,h=>by
  rw[Yw,aH k r (o+1) _ j h,YU _ _ _ _ h]
theorem mW(k:Nat):∀(vs:List Uv) (o:Nat) (w:Ut),(w.setCells k o vs).os=w.os/\(w.setCells k o vs).tape=w.tape/\(w.setCells k o vs).output=w.output
 | [],_,_=>⟨rfl,rfl,rfl⟩
 | v :: r,o,w=>by rw[Yw];exact mW k r (o+1) _
theorem PutTo.store{k n o:Nat}{b c:List Uv}(f:w.there k 0 n)(p:w.rangeAt k 0 b)(x:o+vs.length<=n)(r:∀j,c[j]? = if o<=j/\j<o+vs.length then vs[j-o]? else b[j]?):PutTo k n c w (w.setCells k o vs):=by
 obtain⟨m,s,l⟩:=mW k vs o w;refine⟨m,s,l,by rw[setCells_size];exact Uy _,λj _ d=>aH k vs o w j d,λj v hv=>?_,there_setCells _ _ _ f⟩;have e:w.there k o vs.length:=λj d=>by have:=f (o+j) oM;rwa[UF]at this
 rw[r j]at hv;rw[UF];by_cases d:o<=j/\j<o+vs.length
 ·rw[yCk d]at hv;have:=World.rangeAt_setCells_same w k o vs e (j-o) v hv;rwa[show o+(j-o)=j by omega]at this
 ·rw[yCl d]at hv;have q:w.rangeAt k j [v]:=λi u g=>by
   cases i with
   | zero =>
    obtain rfl:v=u:=by simpa using g
    have:=p j v hv;rwa[UF]at this
   | succ i=>simp at g
  have t:=World.rangeAt_setCells_apart q k o vs (U2 (by simp only[Vg,WO];omega));have:=t 0 v rfl;exact this
theorem PutTo.whole{k:Nat}{b c:List Uv}(f:w.there k 0 b.length)(e:w.rangeAt k 0 b)(g:c.length=b.length):PutTo k b.length c w (w.setCells k 0 c):=
 PutTo.store f e oM (λj=>by
  by_cases d:0<=j/\j<0+c.length
  ·rw[yCk d];rfl
  ·rw[yCl d,WE oM,WE oM])
theorem Wd.put{i b:Nat}{e:Bl}(h:Wd w0 k0 X bl L μ w)(t:i<L.size)(s:bl[b]? = some e)(y:e.st=some i)(hv:e.live L=true)(l:PutTo (μ b) e.before.length e.after w w')
 (k:∀(c:Nat) (f:Bl),bl[c]? = some f->c≠b->f.st≠some i) (o:∀(c:Nat) (f:Bl),bl[c]? = some f->f.al≠some i) :
 Wd w0 k0 X bl (L.setIfInBounds i true) μ w':=by
 have n:∀(c:Nat) (f:Bl),bl[c]? = some f->f.live (L.setIfInBounds i true)=f.live L:=λc f m=>by
  rw[iD t,show(f.al == some i)=false by simpa using o c f m,Xa]
 obtain⟨E,F,G,A⟩:=h.has b e s hv;have C:=h.le;refine⟨h.bel.trans ⟨l.os,l.tape,l.output,l.size,λj q hx=>l.block j oM (λe=>A.elim (λh=>oM) (λh=>hx (e ▸ h)))⟩,UE h.le l.size,λc f m p=>?_,λc d f g m hd hf z=>h.inj c d f g m hd (n c f m ▸ hf) (n d g hd ▸ z)⟩;rw[n c f m]at p;obtain⟨B,D,r,x⟩:=h.has c f m p;by_cases o:c=b
 ·subst o;rw[s]at m;obtain rfl:e=f:=UP.inj m;have u:e.now (L.setIfInBounds i true)=e.after:=by
   unfold Bl.now;rw[kD t,y];simp
  rw[u];exact⟨l.range,l.there,Uz r l.size,x⟩
 ·have u:f.now (L.setIfInBounds i true)=f.now L:=by
   unfold Bl.now;rw[kD t,show(f.st == some i)=false by simpa using k c f m o,Xa]
  rw[u];have k:=l.block (μ c) r (h.inj c b f e m s p hv o);refine⟨λj v q=>?_,λj q=>?_,Uz r l.size,x⟩
  ·rw[U0 (w:=w) (a:=⟨μ c,0+j,none⟩) k];exact B j v q
  ·rw[U0 (w:=w) (a:=⟨μ c,0+j,none⟩) k,VR (w:=w) (a:=⟨μ c,0+j,none⟩) k];exact D j q
end RG
namespace RG
open Go Go.RowKit
variable {P:VD}{ops:Array Vk}{Q:X9->Act->Ut->Prop}{w0 w:Ut}{k0:Nat}{X:List Nat}{its:List It}{bl:List Bl}{olds:List (WF × SV)}{a0:Act}{L:Array Bool}{μ μ' μ0:Nat->Nat}
structure Ac(its:List It)(bl:List Bl)(a0:Act)(L:Array Bool)(μ:Nat->Nat)(a:Act):Prop where
 defers:a.defers=a0.defers
 size:a.tmps.size=a0.tmps.size
 got:∀(i:Nat) (it:It) (d:WF),its[i]? = some it->on L i=true->it.dst=some d->a.tmps[d]? = some (it.out.at μ)/\∀b,it.out.blk=some b->∃e:Bl,bl[b]? = some e/\e.live L=true
 rest:∀t:WF,(∀(i:Nat) (it:It),its[i]? = some it->on L i=true->it.dst≠some t)->a.tmps[t]? = a0.tmps[t]?
def dB(o:Vk)(j:Nat):Bool:=o.after.any (λe=>VM .any e && e.on == j)
def Fp(b:Array Vk)(k:List It)(i:Nat)(t:WF):Bool:=k.zipIdx.all (λx=>x.1.dst != some t || (match b[x.2]? with|some o=>dB o i|none=>false))
def Known(c:Array Vk)(i:Nat)(b:List It)(olds:List (WF × SV))(k:List (WF × Nat))(μ:Nat->Nat)(a:Act):Prop:=
 (∀(t:WF) (j:Nat) (it:It),(t,j)∈k->b[j]? = some it->a.eval (.tmp t)=it.out.at μ)/\(∀(t:WF) (s:SV),(t,s)∈olds->Fp c b i t=true->a.eval (.tmp t)=s.at μ)
def readB(k:Array Vk)(i:Nat)(e:Bl):Bool:=match e.st with|none=>true|some s=>match k[s]? with|some o=>dB o i|none=>false
def Reads(k:Array Vk)(i:Nat)(c:List Bl)(μ:Nat->Nat)(w:Ut):Prop:=∀(b:Nat) (e:Bl),c[b]? = some e->(e.al=none\/∃(o:Vk) (j:Nat),k[i]? = some o/\e.al=some j/\dB o j=true)->readB k i e=true->w.rangeAt (μ b) 0 e.before
def Does(P:VD)(Q:X9->Act->Ut->Prop)(c:List Bl)(o:Vk)(it:It)(μ:Nat->Nat)(a:Act)(w:Ut)(K:Act->Ut->Prop):Kind->Prop
 | .stay=>K (a.put o.dst (it.out.at μ)) w->o.wp P a w K Q
 | .pass=>it.out=.v WJ
 | .call=>(∀w',kZ w w'->K (a.put o.dst (it.out.at μ)) w')->o.wp P a w K Q
 | .make b=>∀e:Bl,c[b]? = some e->(∀(k:Nat) (w':Ut),Made w k e.before w'->K (a.put o.dst (it.out.at (upd μ b k))) w')->o.wp P a w K Q
 | .put b=>∀e:Bl,c[b]? = some e->w.there (μ b) 0 e.before.length->w.rangeAt (μ b) 0 e.before->(∀w',PutTo (μ b) e.before.length e.after w w'->K (a.put o.dst (it.out.at μ)) w')->o.wp P a w K Q
def Cert(P:VD)(Q:X9->Act->Ut->Prop)(d:Ut)(e:Nat)(X:List Nat)(b:Array Vk)(i:Nat)(k:List It)(c:List Bl)(olds:List (WF × SV))(o:Vk)(it:It):Prop:=
 ∀(μ:Nat->Nat) (a:Act) (w:Ut) (K:Act->Ut->Prop),Known b i k olds it.need μ a->Reads b i c μ w->BelX e X d w->Does P Q c o it μ a w K it.kind
def Jd(k:List It)(c:List Bl)(o:Vk)(it:It)(b:Nat):Bool:=
 (match c[b]? with|some e=>(match e.al with|none=>true|some j=>dB o j)|none=>false) || it.need.any (λx=>dB o x.2 && (match k[x.2]? with|some jt=>jt.dst.isSome && jt.out.blk == some b|none=>false))
def Ad(d:List It)(k:List Bl)(i:Nat)(o:Vk)(it:It):Kind->Bool
 | .stay | .pass | .call=>k.all (λe=>e.al != some i && e.st != some i) && (match it.out.blk with|none=>true|some b=>Jd d k o it b)
 | .make b=>(match it.out.blk with|some c=>c == b|none=>false) && k.zipIdx.all (λx=>x.1.st != some i && (x.1.al == some i) == (x.2 == b)) && (k[b]?).isSome
 | .put b=>(match it.out with | .v _=>true|_=>false) && k.zipIdx.all (λx=>x.1.al != some i && (x.1.st == some i) == (x.2 == b)) && (match k[b]? with|some e=>(match e.al with|none=>true|some j=>dB o j)|none=>false)
def Kind.isPass:Kind->Bool
 | .pass=>true
 | _=>false
def Jr(k:List It)(o:Vk)(it:It):Bool:=
 match o.guard with
 | none=>!it.kind.isPass
 | some (j,want)=>dB o j && (match k[j]? with|some jt=>jt.dst.isSome && (match jt.out with | .v (.bool b)=>(b == want) == !it.kind.isPass|_=>false)|none=>false)
def okB(k:List It)(c:List Bl)(i:Nat)(o:Vk)(it:It):Bool:=
 (o.dst == it.dst) && Jr k o it && o.after.all (λe=>!VM .any e || e.on<i) && it.need.all (λb=>dB o b.2 && ((k[b.2]?).bind (·.dst)) == some b.1) && Ad k c i o it it.kind
def yY:List It->Bool
 | []=>true
 | it :: r=>(match it.dst with|none=>true|some d=>r.all (λk=>k.dst != some d)) && yY r
def TL(k:List Bl)(olds:List (WF × SV)):Bool:=
 olds.all (λx=>(match x.2.blk with|none=>true|some b=>match k[b]? with|some e=>e.al.isNone|none=>false))
def allB(b:Array Vk)(k:List It)(c:List Bl)(olds:List (WF × SV))(n:Nat):Bool:=
 b.size == k.length && yY k && TL c olds && k.all (λit=>match it.dst with|none=>true|some d=>d<n) &&
 (VB k.length).all (λi=>match b[i]?,k[i]? with|some o,some it=>okB k c i o it|_,_=>false)
theorem JJ:∀ {k:List It},yY k=true->∀(i j:Nat) (it b:It) (d:WF),k[i]? = some it->k[j]? = some b->it.dst=some d->b.dst=some d->i=j
 | [],_,i,_,_,_,_,h,_,_,_=>by simp at h
 | x :: r,h,i,j,it,b,d,hi,hj,di,dj=>by
  simp only[yY,UN]at h;match i,j with
  | 0,0=>rfl
  | 0,j+1 =>
   simp only[Vl,UP.injEq]at hi;simp only[Vf]at hj;subst hi;rw[di]at h;have:=Va.1 h.1 b (VQ hj);rw[dj]at this;simp at this
  | i+1,0 =>
   simp only[Vl,UP.injEq]at hj;simp only[Vf]at hi;subst hj;rw[dj]at h;have:=Va.1 h.1 it (VQ hi);rw[di]at this;simp at this
  | i+1,j+1 =>
   simp only[Vf]at hi hj;rw[JJ h.2 i j it b d hi hj di dj]
theorem oC{e:Bl}{i:Nat}(k:i<L.size)(h:e.live L=true):e.live (L.setIfInBounds i true)=true:=by rw[iD k,h,XX]
theorem Ac.put{a:Act}{i:Nat}{it:It}(h:Ac its bl a0 L μ a)(hd:yY its=true)(p:i<L.size)(n:its[i]? = some it)(hμ:∀(b:Nat) (e:Bl),bl[b]? = some e->e.live L=true->μ' b=μ b)
 (r:∀d,it.dst=some d->d<a0.tmps.size) (o:∀d,it.dst=some d->∀b,it.out.blk=some b->∃e:Bl,bl[b]? = some e/\e.live (L.setIfInBounds i true)=true)
 (v:Uv) (hv:∀d,it.dst=some d->v=it.out.at μ'):Ac its bl a0 (L.setIfInBounds i true) μ' (a.put it.dst v):=by
 have m:∀(j:Nat) (f:It) (d:WF),its[j]? = some f->on L j=true->f.dst=some d->a.tmps[d]? = some (f.out.at μ')/\∀b,f.out.blk=some b->∃e:Bl,bl[b]? = some e/\e.live (L.setIfInBounds i true)=true:=λj f d g ho c=>by
  obtain⟨s,q⟩:=h.got j f d g ho c;refine⟨?_,λb l=>?_⟩
  ·rw[s]
   congr 1
   refine SV.at_congr λb u=>?_
   obtain⟨e,k,o⟩:=q b u;rw[hμ b e k o]
  ·obtain⟨e,k,o⟩:=q b l;exact⟨e,k,oC p o⟩
 cases k:it.dst with
 | none =>
  show Ac its bl a0 _ μ' a;refine⟨h.defers,h.size,λj f d g ho c=>?_,λt q=>h.rest t λj f g ho=>q j f g (by rw[dD p,ho,XX])⟩;rw[dD p]at ho;by_cases l:i=j
  ·subst l;rw[n]at g;obtain rfl:it=f:=UP.inj g;rw[k]at c;cases c
  ·exact m j f d g (by simpa[l]using ho) c
 | some d0 =>
  have u:=r d0 k;refine⟨h.defers,?_,λj f d g ho c=>?_,λt q=>?_⟩
  ·show(a.tmps.setIfInBounds d0 v).size=_;rw[Vz];exact h.size
  ·show(a.tmps.setIfInBounds d0 v)[d]? = _/\_;rw[WL];rw[dD p]at ho;by_cases l:i=j
   ·subst l;rw[n]at g;obtain rfl:it=f:=UP.inj g;rw[k]at c;obtain rfl:d0=d:=UP.inj c;rw[yCk rfl,yCk (by rw[h.size];exact u),hv d0 k];exact⟨rfl,o d0 k⟩
   ·have o:d0≠d:=λs=>l (JJ hd i j it f d0 n g k (s ▸ c))
    rw[yCl o];exact m j f d g (by simpa[l]using ho) c
  ·show(a.tmps.setIfInBounds d0 v)[t]? = _;have o:d0≠t:=λl=>q i it n (by rw[dD p];simp) (by rw[k,l])
   rw[WL,yCl o];exact h.rest t λj f g ho=>q j f g (by rw[dD p,ho,XX])
structure Inv(ops:Array Vk)(its:List It)(bl:List Bl)(a0:Act)(w0:Ut)(k0:Nat)(X:List Nat)(μ0:Nat->Nat)(L:Array Bool)(a:Act)(w:Ut):Prop where
 size:L.size=its.length
 cl:∀(i:Nat) (o:Vk),ops[i]? = some o->on L i=true->∀e∈o.after,VM .any e=true->on L e.on=true
 all:∃μ,(∀(b:Nat) (e:Bl),bl[b]? = some e->e.al=none->μ b=μ0 b)/\Ac its bl a0 L μ a/\Wd w0 k0 X bl L μ w/\∀(b:Nat) (e:Bl),bl[b]? = some e->e.put L=true->e.live L=true
theorem BD{o:Vk}(h:o.guard=none)(y:Nat->Option Bool):V5 o y=true:=by unfold V5;rw[h]
theorem jT{p:Bl × Nat->Bool}(h:bl.zipIdx.all p=true)(b:Nat)(e:Bl)(k:bl[b]? = some e):p (e,b)=true:=
 Va.1 h (e,b) (by rw[YK];exact k)
theorem two{s t:Option Nat}{i c b:Nat}(h:(s != some i && (t == some i) == (c == b))=true):s≠some i/\(t=some i↔c=b):=by
 rw[UN]at h;refine⟨by simpa using h.1,?_⟩;have k:(t == some i)=(c == b):=by simpa using h.2
 constructor
 ·intro d;rw[d]at k;simpa using k.symm
 ·intro d;rw[d]at k;simpa using k
theorem step{i:Nat}{o:Vk}{it:It}{a:Act}(hd:yY its=true)(ho:ops[i]? = some o)(S:its[i]? = some it)(hu:okB its bl i o it=true)(Y:∀d,it.dst=some d->d<a0.tmps.size)
 (holds:∀(t:WF) (s:SV),(t,s)∈olds->a0.tmps[t]? = some (s.at μ0)/\∀b,s.blk=some b->∃e:Bl,bl[b]? = some e/\e.al=none)
 (l:∀(j:Nat) (W:Vk) (H:It),ops[j]? = some W->its[j]? = some H->W.dst=H.dst) (F:ops.size=its.length) (B:Cert P Q w0 k0 X ops i its bl olds o it) (h7:on L i=false) (K:∀e∈o.after,VM .any e=true->on L e.on=true) (h:Inv ops its bl a0 w0 k0 X μ0 L a w) :
 wpOp P ops Q i (Inv ops its bl a0 w0 k0 X μ0 (L.setIfInBounds i true)) a w:=by
 obtain⟨hr,h8,μ,hμ,hA,hW,hO⟩:=h;have E:i<L.size:=by rw[hr];exact(UG.1 S).1
 simp only[okB,UN]at hu;obtain⟨⟨⟨⟨ht,Z⟩,k2⟩,hq⟩,g⟩:=hu;have C:o.dst=it.dst:=by simpa using ht
 have r:∀j,dB o j=true->on L j=true:=λj J=>by
  obtain⟨e,R,m⟩:=Xs.1 J;simp only[UN,beq_iff_eq]at m;rw[<-m.2];exact K e R m.1
 have h9:V5 o (yielded ops a.tmps) = !it.kind.isPass:=by
  unfold V5;unfold Jr at Z;cases N:o.guard with
  | none=>rw[N]at Z;dsimp only at Z⊢;rw[Z]
  | some jw =>
   obtain⟨j,q⟩:=jw;rw[N]at Z;dsimp only at Z⊢;rw[UN]at Z;cases J:its[j]? with
   | none=>rw[J]at Z;cases Z.2
   | some H =>
    rw[J]at Z;obtain⟨h1,A⟩:=Z;dsimp only at A;rw[UN]at A;obtain⟨d,I⟩:=Vu.1 A.1;have M:j<its.length:=(UG.1 J).1;have D:ops[j]? = some (ops[j]'(by rw[F];exact M)):=UZ _;have G:=(hA.got j H d J (r j h1) I).1;have O:yielded ops a.tmps j=match H.out.at μ with | .bool b=>some b|_=>none:=by
     unfold yielded;rw[D];show(match (ops[j]'(by rw[F];exact M)).dst.bind (a.tmps[·]?) with|some (.bool b)=>some b|_=>none)=_;rw[l j _ H D J,I];show(match a.tmps[d]? with|some (.bool b)=>some b|_=>none)=_;rw[G];cases H.out.at μ<;>rfl
    rw[O];have l:=A.2;cases n:H.out with
    | p b x=>rw[n]at l;cases l
    | s b x y=>rw[n]at l;cases l
    | t b x y z=>rw[n]at l;cases l
    | v x =>
     rw[n]at l;cases x with
     | bool b =>
      show(some b == some q)=_;dsimp only at l;have:(b == q) = !it.kind.isPass:=by simpa using l
      rw[<-this];cases b<;>cases q<;>rfl
     | _=>cases l
 have hK:Known ops i its olds it.need μ a:=by
  refine⟨λt j H hm J=>?_,λt s hm M=>?_⟩
  ·have h1:=Va.1 hq (t,j) hm;simp only[UN,J]at h1;have A:H.dst=some t:=by simpa using h1.2
   have G:=(hA.got j H t J (r j h1.1) A).1;show a.tmps.getD t WJ=_;rw[UJ,G];rfl
  ·obtain⟨A,G⟩:=holds t s hm;have O:=hA.rest t (λj H J U I=>by
    have l:=Va.1 M (H,j) (by rw[YK];exact J);dsimp only at l;rw[I]at l;cases D:ops[j]? with
    | none=>rw[D]at l;simp at l
    | some W =>
     rw[D]at l;have q:dB W i=true:=by simpa using l
     obtain⟨e',N,F⟩:=Xs.1 q;simp only[UN,beq_iff_eq]at F;have:=h8 j W D U e' N F.1;rw[F.2,h7]at this;cases this)
   show a.tmps.getD t WJ=_;rw[UJ,O,A];show s.at μ0=s.at μ;refine SV.at_congr λb m=>?_
   obtain⟨e,R,q⟩:=G b m;rw[hμ b e R q]
 have hR:Reads ops i bl μ w:=λb e m q M=>by
  have:=(hW.has b e m (by
   unfold Bl.live;rcases q with q|⟨I,j,l,q,hd⟩
   ·rw[q];rfl
   ·rw[q];show on L j=true;rw[ho]at l;obtain rfl:=UP.inj l;exact r j hd)).1
  unfold Bl.now Bl.put at this;unfold readB at M;cases hs:e.st with
  | none=>rw[hs]at this;exact this
  | some s =>
   rw[hs]at this M;dsimp only at M;cases l:ops[s]? with
   | none=>rw[l]at M;cases M
   | some os =>
    rw[l]at M;have I:on L s=false:=by
     cases U:on L s with
     | false=>rfl
     | true =>
      obtain⟨e',N,F⟩:=Xs.1 M;simp only[UN,beq_iff_eq]at F;have:=h8 s os l U e' N F.1;rw[F.2,h7]at this;cases this
    rw[show(Option.map (on L) (some s)).getD false=on L s from rfl,I]at this;exact this
 have h0:∀b,Jd its bl o it b=true->∃e:Bl,bl[b]? = some e/\e.live L=true:=λb m=>by
  unfold Jd at m;rw[Bool.or_eq_true]at m;rcases m with A|A
  ·cases R:bl[b]? with
   | none=>rw[R]at A;cases A
   | some e =>
    rw[R]at A;dsimp only at A;refine⟨e,rfl,?_⟩;unfold Bl.live;cases q:e.al with
    | none=>rfl
    | some j=>rw[q]at A;exact r j A
  ·obtain⟨x,hx,G⟩:=List.any_eq_true.1 A;rw[UN]at G;cases J:its[x.2]? with
   | none=>rw[J]at G;cases G.2
   | some H =>
    rw[J]at G;dsimp only at G;rw[UN]at G;obtain⟨d,l⟩:=Vu.1 G.2.1;exact(hA.got x.2 H d J (r x.2 G.1) l).2 b (by simpa using G.2.2)
 have I:∀(j:Nat) (W:Vk),ops[j]? = some W->on (L.setIfInBounds i true) j=true->∀e∈W.after,VM .any e=true->on (L.setIfInBounds i true) e.on=true:=λj W D U e R m=>by
  rw[dD E]at U⊢;by_cases l:i=j
  ·subst l;rw[ho]at D;obtain rfl:o=W:=UP.inj D;rw[K e R m,XX]
  ·rw[h8 j W D (by simpa[l]using U) e R m,XX]
 have H:(L.setIfInBounds i true).size=its.length:=by rw[Vz];exact hr
 have hC:=B μ a w (Inv ops its bl a0 w0 k0 X μ0 (L.setIfInBounds i true)) hK hR hW.bel;unfold wpOp;rw[ho];dsimp only;rw[h9];cases hk:it.kind with
 | pass =>
  rw[hk]at hC g;simp only[Ad,UN]at g;have G:∀(b:Nat) (e:Bl),bl[b]? = some e->e.al≠some i/\e.st≠some i:=λb e m=>by simpa using Va.1 g.1 e (VQ m)
  have l:∀(b:Nat) (e:Bl),bl[b]? = some e->e.live (L.setIfInBounds i true)=e.live L/\e.put (L.setIfInBounds i true)=e.put L:=λb e m =>
   ⟨by rw[iD E,show(e.al == some i)=false by simpa using(G b e m).1,Xa],by rw[kD E,show(e.st == some i)=false by simpa using(G b e m).2,Xa]⟩
  show Inv ops its bl a0 w0 k0 X μ0 (L.setIfInBounds i true) (a.put o.dst WJ) w;refine⟨H,I,μ,hμ,?_,hW.same l,λb e m=>by rw[(l b e m).1,(l b e m).2];exact hO b e m⟩;rw[C];have n:it.out=.v WJ:=hC;refine hA.put hd E S (λ_ _ _ _=>rfl) Y (λ_ _ b K=>?_) _ (λ_ _=>by rw[n];rfl);rw[n]at K;cases K
 | stay =>
  rw[hk]at hC g;simp only[Ad,UN]at g;show o.wp P a w _ Q\/_;left;refine hC ?_;have G:∀(b:Nat) (e:Bl),bl[b]? = some e->e.al≠some i/\e.st≠some i:=λb e m=>by simpa using Va.1 g.1 e (VQ m)
  have l:∀(b:Nat) (e:Bl),bl[b]? = some e->e.live (L.setIfInBounds i true)=e.live L/\e.put (L.setIfInBounds i true)=e.put L:=λb e m =>
   ⟨by rw[iD E,show(e.al == some i)=false by simpa using(G b e m).1,Xa],by rw[kD E,show(e.st == some i)=false by simpa using(G b e m).2,Xa]⟩
  refine⟨H,I,μ,hμ,?_,hW.same l,λb e m=>by rw[(l b e m).1,(l b e m).2];exact hO b e m⟩;rw[C];refine hA.put hd E S (λ_ _ _ _=>rfl) Y (λ_ _ b K=>?_) _ (λ_ _=>rfl);have A:=g.2;rw[K]at A;obtain⟨e,R,hl⟩:=h0 b A;exact⟨e,R,oC E hl⟩
 | call =>
  rw[hk]at hC g;simp only[Ad,UN]at g;show o.wp P a w _ Q\/_;left;refine hC λw' F=>?_
  have G:∀(b:Nat) (e:Bl),bl[b]? = some e->e.al≠some i/\e.st≠some i:=λb e m=>by simpa using Va.1 g.1 e (VQ m)
  have l:∀(b:Nat) (e:Bl),bl[b]? = some e->e.live (L.setIfInBounds i true)=e.live L/\e.put (L.setIfInBounds i true)=e.put L:=λb e m =>
   ⟨by rw[iD E,show(e.al == some i)=false by simpa using(G b e m).1,Xa],by rw[kD E,show(e.st == some i)=false by simpa using(G b e m).2,Xa]⟩
  refine⟨H,I,μ,hμ,?_,(hW.call F).same l,λb e m=>by rw[(l b e m).1,(l b e m).2];exact hO b e m⟩;rw[C];refine hA.put hd E S (λ_ _ _ _=>rfl) Y (λ_ _ b K=>?_) _ (λ_ _=>rfl);have A:=g.2;rw[K]at A;obtain⟨e,R,hl⟩:=h0 b A;exact⟨e,R,oC E hl⟩
 | make b =>
  rw[hk]at hC g;simp only[Ad,UN]at g;obtain⟨⟨n,hz⟩,G⟩:=g;obtain⟨e,l⟩:=Vu.1 G;have ha:e.al=some i:=(two (jT hz b e l)).2.2 rfl;have F:∀(c:Nat) (f:Bl),bl[c]? = some f->f.st≠some i:=λc f B=>(two (jT hz c f B)).1
  have O:∀(c:Nat) (f:Bl),bl[c]? = some f->c≠b->f.al≠some i:=λc f B T h=>T ((two (jT hz c f B)).2.1 h)
  have K:e.live L=false:=by unfold Bl.live;rw[ha];exact h7
  have hpt:e.put L=false:=by
   cases hp:e.put L with
   | false=>rfl
   | true=>have:=hO b e l hp;rw[K]at this;cases this
  have hn:it.out.blk=some b:=by
   cases N:it.out.blk with
   | none=>rw[N]at n;cases n
   | some c =>
    rw[N]at n;rw[show c=b by simpa using n]
  show o.wp P a w _ Q\/_;left;refine hC e l λk w' hm=>?_
  have hμb:∀(c:Nat) (f:Bl),bl[c]? = some f->f.live L=true->upd μ b k c=μ c:=λc f B hl=>by
   unfold upd;rw[yCl];rintro rfl;rw[l]at B;obtain rfl:e=f:=UP.inj B;rw[K]at hl;cases hl
  refine⟨H,I,upd μ b k,λc f B q=>?_,?_,hW.make E l ha O F hpt hm,λc f B=>?_⟩
  ·rw[hμb c f B (by unfold Bl.live;rw[q];rfl)];exact hμ c f B q
  ·rw[C];refine hA.put hd E S hμb Y (λ_ _ c V=>?_) _ (λ_ _=>rfl);rw[hn]at V;have h1:b=c:=UP.inj V;subst h1;exact⟨e,l,by rw[iD E,ha];simp⟩
  ·rw[kD E,show(f.st == some i)=false by simpa using F c f B,Xa];exact λhp=>oC E (hO c f B hp)
 | put b =>
  rw[hk]at hC g;simp only[Ad,UN]at g;obtain⟨⟨n,hz⟩,G⟩:=g;cases l:bl[b]? with
  | none=>rw[l]at G;cases G
  | some e =>
   rw[l]at G;dsimp only at G;have hs:e.st=some i:=(two (jT hz b e l)).2.2 rfl;have O:∀(c:Nat) (f:Bl),bl[c]? = some f->f.al≠some i:=λc f B=>(two (jT hz c f B)).1
   have F:∀(c:Nat) (f:Bl),bl[c]? = some f->c≠b->f.st≠some i:=λc f B T h=>T ((two (jT hz c f B)).2.1 h)
   have K:e.live L=true:=by
    unfold Bl.live;cases q:e.al with
    | none=>rfl
    | some j =>
     have A:=G;rw[q]at A;exact r j A
   show o.wp P a w _ Q\/_;left;have hw:e.put L=false:=by unfold Bl.put;rw[hs];exact h7
   have A:e.now L=e.before:=by unfold Bl.now;rw[hw];rfl
   refine hC e l (hW.has b e l K).2.1 (A ▸ (hW.has b e l K).1) λw' hy=>?_
   refine⟨H,I,μ,hμ,?_,hW.put E l hs K hy F O,λc f B hp=>?_⟩
   ·rw[C];refine hA.put hd E S (λ_ _ _ _=>rfl) Y (λd k1 c V=>?_) _ (λd k1=>rfl);cases N:it.out with
    | v x=>rw[N]at V;cases V
    | p x y=>rw[N]at n;cases n
    | s x y z=>rw[N]at n;cases n
    | t x y z u=>rw[N]at n;cases n
   ·rw[iD E,show(f.al == some i)=false by simpa using O c f B,Xa];rw[kD E]at hp;by_cases T:c=b
    ·subst T;rw[l]at B;obtain rfl:e=f:=UP.inj B;exact K
    ·rw[show(f.st == some i)=false by simpa using F c f B T,Xa]at hp;exact hO c f B hp
end RG
namespace RG
open Go Go.RowKit
variable {P:VD}{ops:Array Vk}{Q:X9->Act->Ut->Prop}{w0 w:Ut}{k0:Nat}{X:List Nat}{its:List It}{bl:List Bl}{olds:List (WF × SV)}{a0:Act}{L:Array Bool}{μ μ0:Nat->Nat}
def puts(μ:Nat->Nat):List It->Act->Act
 | [],a=>a
 | it :: r,a=>puts μ r (a.put it.dst (it.out.at μ))
theorem nD(μ:Nat->Nat):∀(k:List It) (a:Act),(puts μ k a).defers=a.defers
 | [],_=>rfl
 | it :: r,a=>by
  rw[puts,nD μ r];cases it.dst<;>rfl
theorem qR(a:Act)(d:Option WF)(v:Uv):(a.put d v).tmps.size=a.tmps.size:=by
 cases d with
 | none=>rfl
 | some d=>exact Vz ..
theorem zN(μ:Nat->Nat):∀(k:List It) (a:Act),(puts μ k a).tmps.size=a.tmps.size
 | [],_=>rfl
 | it :: r,a=>by rw[puts,zN μ r,qR]
theorem nW(a:Act){d:Option WF}(v:Uv)(h:d≠some t):(a.put d v).tmps[t]? = a.tmps[t]?:=by
 cases d with
 | none=>rfl
 | some d =>
  show(a.tmps.setIfInBounds d v)[t]? = _;rw[WL,yCl (λe=>h (by rw[e]))]
theorem lW(μ:Nat->Nat):∀(k:List It) (a:Act) (t:WF),(∀it∈k,it.dst≠some t)->(puts μ k a).tmps[t]? = a.tmps[t]?
 | [],_,_,_=>rfl
 | it :: r,a,t,h=>by
  rw[puts,lW μ r _ t (λx hx=>h x (Vd _ hx)),nW a _ (h it Vo)]
theorem rV(μ:Nat->Nat):∀(k:List It) (a:Act) (i:Nat) (it:It) (d:WF),yY k=true->k[i]? = some it->it.dst=some d->d<a.tmps.size->(puts μ k a).tmps[d]? = some (it.out.at μ)
 | [],_,i,_,_,_,h,_,_=>by simp at h
 | x :: r,a,0,it,d,hB,h,hd,hs=>by
  obtain rfl:x=it:=by simpa using h
  simp only[yY,UN,hd]at hB;rw[puts,lW μ r _ d (λy b=>by simpa using Va.1 hB.1 y b),hd];show(a.tmps.setIfInBounds d _)[d]? = _;rw[WL,yCk rfl,yCk hs]
 | x :: r,a,i+1,it,d,hB,h,hd,hs=>by
  simp only[yY,UN]at hB;rw[puts];exact rV μ r _ i it d hB.2 (by simpa using h) hd (by rw[qR];exact hs)
theorem Act.ext'{a b:Act}(k:a.tmps=b.tmps)(c:a.defers=b.defers):a=b:=by
 cases a;cases b;subst k;subst c;rfl
theorem Ac.done{a:Act}(h:Ac its bl a0 L μ a)(g:yY its=true)(c:∀it∈its,∀d,it.dst=some d->d<a0.tmps.size)(b:∀i,i<its.length->on L i=true):a=puts μ its a0:=by
 refine Act.ext' ?_ (by rw[nD];exact h.defers);apply Array.ext_getElem?;intro t;by_cases e:∃(i:Nat) (it:It),its[i]? = some it/\it.dst=some t
 ·obtain⟨i,it,k,hd⟩:=e;rw[(h.got i it t k (b i (UG.1 k).1) hd).1,rV μ its a0 i it t g k hd (c it (VQ k) t hd)]
 ·rw[h.rest t (λi it k _ hd=>e ⟨i,it,k,hd⟩),lW μ its a0 t (λit f hd=>?_)];obtain⟨i,k⟩:=WS f;exact e ⟨i,it,k,hd⟩
def unl(L:Array Bool):Nat:=L.toList.countP (λb=>!b)
theorem count_set:∀(l:List Bool) (i:Nat),l[i]? = some false->(l.set i true).countP (λb=>!b)+1=l.countP (λb=>!b)
 | [],i,h=>by simp at h
 | x :: r,0,h=>by
  obtain rfl:x=false:=by simpa using h
  simp
 | x :: r,i+1,h=>by
  have:=count_set r i (by simpa using h);rw[Uw,yBa,yBa];omega
theorem iO{i:Nat}(h:L.getD i true=false):unl (L.setIfInBounds i true)+1=unl L:=by
 unfold unl;rw[Array.toList_setIfInBounds];refine count_set _ _ ?_;rw[Vt];rw[UJ]at h;cases hh:L[i]? with
 | none=>rw[hh]at h;cases h
 | some b=>rw[hh]at h;rw[show b=false from h]
theorem gU(h:unl L=0)(i:Nat)(k:i<L.size):on L i=true:=by
 have b:=List.countP_eq_zero.1 h;have c:=b L[i] (by simp);unfold on;rw[UJ,UZ k];simpa using c
structure Reg(P:VD)(ops:Array Vk)(Q:X9->Act->Ut->Prop)(w0:Ut)(k0:Nat)(X:List Nat)(its:List It)(bl:List Bl)(olds:List (WF × SV))(a0:Act)(μ0:Nat->Nat):Prop where
 chk:allB ops its bl olds a0.tmps.size=true
 old:∀(t:WF) (s:SV),(t,s)∈olds->a0.tmps[t]? = some (s.at μ0)
 cert:∀(i:Nat) (o:Vk) (it:It),ops[i]? = some o->its[i]? = some it->Cert P Q w0 k0 X ops i its bl olds o it
theorem Reg.step{i:Nat}{o:Vk}{a:Act}(R:Reg P ops Q w0 k0 X its bl olds a0 μ0)(ho:ops[i]? = some o)(u:on L i=false)(l:∀e∈o.after,VM .any e=true->on L e.on=true)(h:Inv ops its bl a0 w0 k0 X μ0 L a w):
 wpOp P ops Q i (Inv ops its bl a0 w0 k0 X μ0 (L.setIfInBounds i true)) a w:=by
 have y:=R.chk;simp only[allB,UN,beq_iff_eq]at y;obtain⟨⟨⟨⟨g,hd⟩,n⟩,r⟩,f⟩:=y;have B:i<its.length:=by rw[<-g];exact(UY.1 ho).1
 obtain⟨it,k⟩:∃it,its[i]? = some it:=⟨its[i],UI B⟩
 have x:=Va.1 f i (VS.2 B);rw[ho,k]at x;refine RG.step (olds:=olds) hd ho k x (λd v=>?_) (λt s A=>?_) (λj D E q m=>?_) g (R.cert i o it ho k) u l h
 ·have:=Va.1 r it (VQ k);rw[v]at this;simpa using this
 ·have C:=Va.1 n (t,s) A;refine⟨R.old t s A,λb p=>?_⟩;have c:=C;dsimp only at c;rw[p]at c;dsimp only at c;cases z:bl[b]? with
  | none=>rw[z]at c;cases c
  | some e=>rw[z]at c;exact⟨e,rfl,by simpa using c⟩
 ·have c:=Va.1 f j (VS.2 (UG.1 m).1);rw[q,m]at c;simp only[okB,UN]at c;simpa using c.1.1.1.1
theorem Reg.back{i:Nat}{o:Vk}(R:Reg P ops Q w0 k0 X its bl olds a0 μ0)(ho:ops[i]? = some o):i<its.length/\∀e∈o.after,VM .any e=true->e.on<i:=by
 have f:=R.chk;simp only[allB,UN,beq_iff_eq]at f;obtain⟨⟨⟨⟨d,hd⟩,g⟩,j⟩,k⟩:=f;have b:i<its.length:=by rw[<-d];exact(UY.1 ho).1
 have c:=Va.1 k i (VS.2 b);rw[ho,UI b]at c;simp only[okB,UN]at c;refine⟨b,λe m l=>?_⟩;have:=WR.1 c.1.1.2 e m;simpa[l]using this
theorem Reg.size(R:Reg P ops Q w0 k0 X its bl olds a0 μ0):ops.size=its.length:=by
 have k:=R.chk;simp only[allB,UN,beq_iff_eq]at k;exact k.1.1.1.1
theorem Reg.full{a:Act}(R:Reg P ops Q w0 k0 X its bl olds a0 μ0)(h:Inv ops its bl a0 w0 k0 X μ0 L a w)(d:U7 .any ops L=[]):∀i,i<its.length->on L i=true:=by
 intro i;induction i using yBr with
 | ind i ih =>
  intro c;have ho:ops[i]? = some (ops[i]'(by rw[R.size];exact c)):=UZ _;cases k:on L i with
  | true=>rfl
  | false =>
   have:i∈U7 .any ops L:=mem_ready.2 ⟨?_,_,ho,λe g f=>?_⟩
   ·rw[d]at this;cases this
   ·unfold on at k;rw[UJ,UZ (by rw[h.size];exact c)]at k⊢;exact k
   ·have b:=(R.back ho).2 e g f;exact ih e.on b (Nat.lt_trans b c)
def ad(ks:List Nat)(b:Nat):Nat:=ks.getD b 0
structure St(w0:Ut)(k0:Nat)(X:List Nat)(cs:List (List Uv))(ks:List Nat)(w:Ut):Prop where
 bel:BelX k0 X w0 w
 le:k0<=w.heap.size
 len:ks.length=cs.length
 has:∀(b:Nat) (c:List Uv),cs[b]? = some c->w.rangeAt (ad ks b) 0 c/\w.there (ad ks b) 0 c.length/\ad ks b<w.heap.size/\(k0<=ad ks b\/ad ks b∈X)
 inj:∀(b c:Nat),b<cs.length->c<cs.length->b≠c->ad ks b≠ad ks c
theorem St.drew{cs:List (List Uv)}{ks:List Nat}(h:St w0 k0 X cs ks w):St w0 k0 X cs ks w.drew:=⟨h.bel.drew,h.le,h.len,h.has,h.inj⟩
def Bl.fin(e:Bl):List Uv:=if e.st.isSome=true then e.after else e.before
def mR(k:List Bl)(n:Nat):Bool:=k.zipIdx.all (λx=>x.1.al.isNone == decide (x.2<n)) && decide (n<=k.length)
theorem zJ{u:Array Vk}{cs:List (List Uv)}{ks:List Nat}(q:St w0 k0 X cs ks w)(x:mR bl cs.length=true)(s:(bl.map (·.before)).take cs.length=cs):
 Inv u its bl a0 w0 k0 X (ad ks) (UM its.length false) a0 w:=by
 simp only[mR,UN]at x;have g:∀i,on (UM its.length false) i=false:=λi=>by
  unfold on;rw[UJ,Xu];by_cases h:i<its.length
  ·rw[yCk h];rfl
  ·rw[yCl h];rfl
 have k:∀(b:Nat) (e:Bl),bl[b]? = some e->e.live (UM its.length false)=true->b<cs.length:=λb e l n=>by
  have p:=jT x.1 b e l;unfold Bl.live at n;cases m:e.al with
  | none=>simpa[m]using p
  | some j=>rw[m]at n;have:on (UM its.length false) j=true:=n;rw[g]at this;cases this
 have m:∀e:Bl,e.put (UM its.length false)=false:=λe=>by
  unfold Bl.put;cases e.st with
  | none=>rfl
  | some j=>exact g j
 have p:∀(b:Nat) (e:Bl),bl[b]? = some e->b<cs.length->cs[b]? = some e.before:=λb e l r=>by
  rw[<-s,WI,yCk r,Vy,l];rfl
 refine⟨UO,(λi o _ h=>by rw[g]at h;cases h),ad ks,λ_ _ _ _=>rfl,⟨rfl,rfl,λi it d a ho=>?_,λ_ _=>rfl⟩,⟨q.bel,q.le,λb e l n=>?_,λb c e f l z y hf t=>q.inj b c (k b e l y) (k c f z hf) t⟩,λb e l v=>?_⟩
 ·rw[g]at ho;cases ho
 ·unfold Bl.now;rw[m e];exact q.has b e.before (p b e l (k b e l n))
 ·rw[m e]at v;cases v
theorem Inv.done{a:Act}{cs:List (List Uv)}{ks:List Nat}(R:Reg P ops Q w0 k0 X its bl olds a0 (ad ks))(h:Inv ops its bl a0 w0 k0 X (ad ks) L a w)(n:ks.length=cs.length)(B:mR bl cs.length=true)(k:∀i,i<its.length->on L i=true)
 (p:∀e∈bl,∀j,e.al=some j\/e.st=some j->j<its.length) (s:∀e∈bl,e.fin.length=e.before.length)
 (I:∀(new:List Nat) (w':Ut),new.length=bl.length-cs.length->St w0 k0 X (bl.map Bl.fin) (ks++new) w'->Q .normal (puts (ad (ks++new)) its a0) w'):Q .normal a w:=by
 obtain⟨D,-,μ,hμ,E,A,N⟩:=h;have J:=R.chk;simp only[allB,UN,beq_iff_eq]at J;obtain⟨⟨⟨⟨u,hd⟩,z⟩,y⟩,C⟩:=J;have M:=B;simp only[mR,UN,decide_eq_true_eq]at B;have f:∀(b:Nat) (e:Bl),bl[b]? = some e->e.live L=true:=λb e m=>by
  unfold Bl.live;cases g:e.al with
  | none=>rfl
  | some j=>exact k j (p e (VQ m) j (U6 g))
 have v:∀(b:Nat) (e:Bl),bl[b]? = some e->e.now L=e.fin:=λb e m=>by
  unfold Bl.now Bl.put Bl.fin;cases g:e.st with
  | none=>rfl
  | some j =>
   have:=k j (p e (VQ m) j (U2 g));simp[this]
 have g:∀b,b<bl.length->ad (ks++(VB (bl.length-cs.length)).map (λj=>μ (cs.length+j))) b=μ b:=λb m=>by
  unfold ad;rw[VW];by_cases o:b<cs.length
  ·rw[UX (by rw[n];exact o)];obtain⟨e,l⟩:∃e,bl[b]? = some e:=⟨bl[b],UI m⟩
   have t:=jT B.1 b e l;have q:e.al=none:=by simpa[o]using t
   rw[hμ b e l q];unfold ad;rw[VW]
  ·rw[U4 (by rw[n];omega),Vy,n,List.getElem?_range oM];show μ (cs.length+(b-cs.length))=μ b
   congr 1
   omega
 have q:=E.done hd (λit H d o=>by
  have:=Va.1 y it H;rw[o]at this;simpa using this) k
 have F:puts μ its a0=puts (ad (ks++(VB (bl.length-cs.length)).map (λj=>μ (cs.length+j)))) its a0:=by
  have key:∀it∈its,∀d,it.dst=some d->it.out.at μ=it.out.at (ad (ks++(VB (bl.length-cs.length)).map (λj=>μ (cs.length+j)))):=λit H d o=>by
   obtain⟨i,G⟩:=WS H;have K:=(E.got i it d G (k i (UG.1 G).1) o).2;refine SV.at_congr λb m=>?_
   obtain⟨e,l,-⟩:=K b m;rw[g b (UG.1 l).1]
  clear E q z C y hd u D R k p I;generalize a0=G;induction its generalizing G with
  | nil=>rfl
  | cons it r ih =>
   rw[puts,puts];have t:G.put it.dst (it.out.at μ)=G.put it.dst (it.out.at (ad (ks++(VB (bl.length-cs.length)).map (λj=>μ (cs.length+j))))):=by
    cases o:it.dst with
    | none=>rfl
    | some d=>rw[key it Vo d o]
   rw[t];exact ih (λx hx=>key x (Vd _ hx)) _
 rw[q,F];refine I _ w (by simp) ⟨A.bel,A.le,?_,λb c p=>?_,λb c m p G=>?_⟩
 ·simp only[UB,US,List.length_range];omega
 ·rw[Vy]at p;cases l:bl[b]? with
  | none=>rw[l]at p;cases p
  | some e =>
   rw[l]at p;obtain rfl:e.fin=c:=UP.inj p;have t:=A.has b e l (f b e l);rw[v b e l]at t;rw[g b (UG.1 l).1,s e (VQ l)];exact t
 ·rw[US]at m p;rw[g b m,g c p];exact A.inj b c _ _ (UI m) (UI p) (f b _ (UI m)) (f c _ (UI p)) G
theorem region_draws'{cs:List (List Uv)}{ks:List Nat}(y:P.follows .mixedOrders=true)(s:St w0 k0 X cs ks w)(R:Reg P ops Q w0 k0 X its bl olds a0 (ad ks))(q:mR bl cs.length=true)(r:(bl.map (·.before)).take cs.length=cs)(hE:(∀e∈bl,∀j,e.al=some j\/e.st=some j->j<its.length)/\∀e∈bl,e.fin.length=e.before.length)
 (t:∀(new:List Nat) (w':Ut),new.length=bl.length-cs.length->St w0 k0 X (bl.map Bl.fin) (ks++new) w'->Q .normal (puts (ad (ks++new)) its a0) w'):(V3 id ops true).wp P Q a0 w:=by
 obtain⟨l,c⟩:=hE;have key:∀(k:Nat) (L:Array Bool) (a:Act) (w:Ut),unl L=k->Inv ops its bl a0 w0 k0 X (ad ks) L a w->wpAny P .any ops Q k L a w:=by
  intro k;induction k with
  | zero =>
   intro L a w u g;have f:∀i,i<its.length->on L i=true:=λi n=>gU u i (by rw[g.size];exact n)
   refine⟨?_,g.done R s.len q f l c t⟩;apply List.eq_nil_iff_forall_not_mem.2;intro i n;obtain⟨d,o,ho,-⟩:=mem_ready.1 n;have m:=f i (R.back ho).1;unfold on at m;rw[UJ]at d m;cases hh:L[i]? with
   | none=>rw[hh]at d;cases d
   | some b=>rw[hh]at d m;rw[show b=false from d]at m;cases m
  | succ k ih =>
   intro L a w u g;refine⟨λx=>g.done R s.len q (R.full g x) l c t,λi n=>?_⟩;obtain⟨d,o,ho,f⟩:=mem_ready.1 n;have m:on L i=false:=by
    unfold on;rw[UJ]at d⊢;cases hh:L[i]? with
    | none=>rfl
    | some b=>rw[hh]at d;exact d
   exact X8 (λv w' p=>ih _ v w' (by have:=iO d;omega) p) (R.step ho m f g)
 refine Z5 y (key _ _ a0 _ ?_ ?_)
 ·unfold unl;rw[XT,List.countP_replicate];simp
 ·rw[R.size];exact zJ s.drew q r
theorem region_text'{cs:List (List Uv)}{ks:List Nat}(p:St w0 k0 X cs ks w)(R:Reg P ops Q w0 k0 X its bl olds a0 (ad ks))(o:mR bl cs.length=true)(n:(bl.map (·.before)).take cs.length=cs)(hE:(∀e∈bl,∀j,e.al=some j\/e.st=some j->j<its.length)/\∀e∈bl,e.fin.length=e.before.length)
 (g:∀(new:List Nat) (w':Ut),new.length=bl.length-cs.length->St w0 k0 X (bl.map Bl.fin) (ks++new) w'->Q .normal (puts (ad (ks++new)) its a0) w'):(V3 id ops false).wp P Q a0 w:=by
 obtain⟨f,k⟩:=hE;have key:∀(m i:Nat) (L:Array Bool) (a:Act) (w:Ut),i+m=its.length->(∀j,j<its.length->on L j=decide (j<i))->Inv ops its bl a0 w0 k0 X (ad ks) L a w->wpOps P ops Q (yBQ i m) a w:=by
  intro m;induction m with
  | zero =>
   intro i L a w u c d;exact d.done R p.len o (λj b=>by rw[c j b];simp;omega) f k g
  | succ m ih =>
   intro i L a w u c d;rw[List.range'_succ,wpOps_cons];have ho:ops[i]? = some (ops[i]'(by rw[R.size];omega)):=UZ _;refine X8 (λr w' l=>ih (i+1) _ r w' oM (λj b=>?_) l) (R.step ho (by rw[c i oM];simp) (λe s t=>?_) d)
   ·rw[dD (by rw[d.size];omega),c j b];by_cases g:j<i
    ·simp[g];omega
    ·by_cases q:i=j
     ·subst q;simp
     ·have:¬j<i+1:=oM;simp[g,q,this]
   ·have g:=(R.back ho).2 e s t;rw[c e.on oM];simpa using g
 refine wp_region ?_;rw[List.range_eq_range',R.size];refine key its.length 0 (UM its.length false) a0 w oM (λj b=>?_) (zJ p o n);unfold on;rw[UJ,Xu,yCk b];simp
end RG
namespace RG
open Go Go.RowKit
variable {P:VD}{Q:X9->Act->Ut->Prop}{its:List It}{bl:List Bl}{olds:List (WF × SV)}{ops:Array Vk}{i:Nat}{o:Vk}{it:It}{w0:Ut}{k0:Nat}{X:List Nat}
theorem dZ(d:it.kind=.stay)(k:∀(μ:Nat->Nat) (a:Act) (w:Ut),Known ops i its olds it.need μ a->BelX k0 X w0 w->(U9 a.eval o).run P w=.ok (.value (it.out.at μ)) w):Cert P Q w0 k0 X ops i its bl olds o it:=by
 intro μ a w K c _ b;rw[d];intro h;unfold VT;rw[k μ a w c b];exact h
theorem oI(s:it.kind=.stay)(b off:Nat)(e:Bl)(u:bl[b]? = some e)(m:e.al=none)(g:readB ops i e=true)(T:Vb)(t:WF)(ho:o.op=.load T (.tmp t))(cs:List Uv)(c:it.out=.v (.agg cs.toArray))
 (hx:∀(μ:Nat->Nat) (a:Act),Known ops i its olds it.need μ a->a.eval (.tmp t)=(SV.p b off).at μ) (k:(e.before.drop off).take cs.length=cs)
 (n:(P.underlying T).map (·.isRow)=some true) (x:(P.info? T).map (·.size)=some cs.length):Cert P Q w0 k0 X ops i its bl olds o it:=by
 intro μ a w K r hR _;rw[s];intro h;rw[c]at h;obtain⟨d,n,hd⟩:=UA.1 n;refine wp_load_mid T (.tmp t) ho (μ b) off (hx μ a r) cs d (λj v f=>?_) n hd x h;have p:=hR b e u (U6 m) g (off+j) v ?_
 ·rw[UF]at p;exact p
 ·rw[<-k]at f;have l:j<cs.length:=by
   have q:=(UG.1 f).1;rw[k]at q;exact q
  rw[WI,yCk l,Zz]at f;exact f
theorem tB(g:it.kind=.call)(f:Xl)(args:Array Uv)(v:Uv)(c:it.out=.v v)(b:∀(μ:Nat->Nat) (a:Act) (w:Ut),Known ops i its olds it.need μ a->BelX k0 X w0 w->(U9 a.eval o).run P w=.ok (.enter f args) w)
 (j:∀w,BelX k0 X w0 w->UK P f args w (rZ w λe w'=>e=v)):Cert P Q w0 k0 X ops i its bl olds o it:=by
 intro μ a w K d _ k;rw[g];intro h;rw[c]at h;unfold VT;rw[b μ a w d k,WU];refine(j w k).mono ?_;rintro e w' ⟨m,rfl,l,rfl⟩;exact h w' l
theorem Ai(b:Nat)(g:it.kind=.make b)(e:Bl)(j:bl[b]? = some e)(t:Vb)(c:∀(μ:Nat->Nat) (a:Act) (w:Ut),Known ops i its olds it.need μ a->BelX k0 X w0 w->(U9 a.eval o).run P w=.ok (.value (it.out.at (upd μ b w.heap.size))) (w.alloc (.cells e.before.toArray t))):Cert P Q w0 k0 X ops i its bl olds o it:=by
 intro μ a w K f _ d;rw[g];intro e' k h;rw[j]at k;obtain rfl:e=e':=UP.inj k;unfold VT;rw[c μ a w f d];exact h _ _ (Made.alloc w e.before t)
theorem JX(b:Nat)(m:it.kind=.put b)(e:Bl)(p:bl[b]? = some e)(T:Vb)(x y:XM)(ho:o.op=.store T x y)(d:o.dst=none)(k:e.after.length=e.before.length)
 (hx:∀(μ:Nat->Nat) (a:Act),Known ops i its olds it.need μ a->a.eval x=(SV.p b 0).at μ) (r:∀(μ:Nat->Nat) (a:Act),Known ops i its olds it.need μ a->a.eval y=.agg e.after.toArray)
 (q:(P.info? T).map (·.size)=some e.after.length) (l:e.after.all (·.oneCell')=true):Cert P Q w0 k0 X ops i its bl olds o it:=by
 intro μ a w K g _ _;rw[m];intro e' c j n h;rw[p]at c;obtain rfl:e=e':=UP.inj c;have f:=PutTo.whole j n k;refine wp_store_mid T x y ho (μ b) 0 e.after.toArray (hx μ a g) (r μ a g) ?_ ?_ ?_ ?_
 ·rw[VE,k];exact j
 ·rw[VE];exact q
 ·exact all_oneCell_toArray (λv hv=>Va.1 l v hv)
 ·have:=h _ f;rw[d]at this⊢;exact this
theorem Known.op{k:List (WF × Nat)}{μ:Nat->Nat}{a:Act}(h:Known ops i its olds k μ a)(t:WF)(j:Nat)(d:(t,j)∈k){b:It}(c:its[j]? = some b):a.eval (.tmp t)=b.out.at μ:=h.1 t j b d c
theorem Known.old{k:List (WF × Nat)}{μ:Nat->Nat}{a:Act}(h:Known ops i its olds k μ a)(t:WF)(s:SV)(b:(t,s)∈olds)(hf:Fp ops its i t=true):a.eval (.tmp t)=s.at μ:=h.2 t s b hf
theorem len1{l:List Nat}(h:l.length=1):∃k,l=[k]:=List.length_eq_one_iff.1 h
theorem len2{l:List Nat}(h:l.length=2):∃k j,l=[k,j]:=by
 match l,h with
 | [k,j],_=>exact⟨k,j,rfl⟩
end RG
namespace RG
open Go Go.RowKit
variable {P:VD}{ops:Array Vk}{Q:X9->Act->Ut->Prop}{w0 w:Ut}{k0:Nat}{X:List Nat}{its:List It}{bl:List Bl}{olds:List (WF × SV)}{a0:Act}{L:Array Bool}{μ μ0:Nat->Nat}{i:Nat}{o:Vk}{it:It}
def Certs(P:VD)(Q:X9->Act->Ut->Prop)(c:Ut)(e:Nat)(X:List Nat)(b:Array Vk)(k:List It)(d:List Bl)(olds:List (WF × SV)):Nat->List Vk->List It->Prop
 | _,[],_=>True
 | _,_ :: _,[]=>False
 | i,o :: os,it :: is=>Cert P Q c e X b i k d olds o it/\Certs P Q c e X b k d olds (i+1) os is
theorem Certs.get:∀ {k:List Vk}{b:List It}{n:Nat},Certs P Q w0 k0 X ops its bl olds n k b->∀(i:Nat) (o:Vk) (it:It),k[i]? = some o->b[i]? = some it->Cert P Q w0 k0 X ops (n+i) its bl olds o it
 | [],_,_,_,i,_,_,h,_=>by simp at h
 | _ :: _,[],_,h,_,_,_,_,_=>h.elim
 | o :: k,it :: b,_,h,0,o',it',ho,hi=>by
  obtain rfl:o=o':=by simpa using ho
  obtain rfl:it=it':=by simpa using hi
  exact h.1
 | o :: k,it :: b,n,h,i+1,o',it',ho,hi=>by
  have:=Certs.get h.2 i o' it' (by simpa using ho) (by simpa using hi);rw[show n+(i+1)=n+1+i by omega];exact this
def Olds(a0:Act)(k:Nat->Nat):List (WF × SV)->Prop
 | []=>True
 | x :: r=>a0.tmps[x.1]? = some (x.2.at k)/\Olds a0 k r
theorem Olds.get:∀ {l:List (WF × SV)},Olds a0 μ0 l->∀(t:WF) (s:SV),(t,s)∈l->a0.tmps[t]? = some (s.at μ0)
 | [],_,_,_,h=>by cases h
 | x :: r,h,t,s,hm=>by
  rcases V0.1 hm with e|e
  ·subst e;exact h.1
  ·exact Olds.get h.2 t s e
theorem Reg.mk'(chk:allB ops its bl olds a0.tmps.size=true)(old:Olds a0 μ0 olds)(k:Certs P Q w0 k0 X ops its bl olds 0 ops.toList its):Reg P ops Q w0 k0 X its bl olds a0 μ0:=
 ⟨chk,λt s b=>old.get t s b,λi o it ho c=>by have:=k.get i o it (by rw[Vt];exact ho) c;rwa[UF]at this⟩
theorem yL(g:it.kind=.call)(f:Xl)(t1:WF)(v1 v:Uv)(k:it.out=.v v)(b:∀(a:Act) (w:Ut),(U9 a.eval o).run P w=.ok (.enter f #[a.eval (.tmp t1)]) w)
 (j:∀(μ:Nat->Nat) (a:Act),Known ops i its olds it.need μ a->a.eval (.tmp t1)=v1) (c:∀w,UK P f #[v1] w (rZ w λe w'=>e=v)):Cert P Q w0 k0 X ops i its bl olds o it:=
 tB g f #[v1] v k (λμ a w d _=>by rw[b,j μ a d]) (λw _=>c w)
theorem Nj{b k:Nat}(c:it.out=.p b 0):it.out.at (upd μ b k)=jZ k:=by
 rw[c];show yBz (some ⟨upd μ b k b,0,none⟩)=_;unfold upd;rw[yCk rfl]
theorem qG(b:Nat)(c:it.kind=.make b)(k:it.out=.p b 0)(e:Bl)(f:bl[b]? = some e)(T:Vb)(ho:o.op=.alloc T)(d:∀w:Ut,(yAE T true (.tuple #[])).run P w=.ok (jZ w.heap.size) (w.alloc (.cells e.before.toArray T))):Cert P Q w0 k0 X ops i its bl olds o it:=by
 refine Ai b c e f T λμ a w g _=>?_
 unfold U9;rw[ho];rw[Nj k];show((yAE T true (.tuple #[])) >>= λv=>pure (Xq v)).run P w=_;rw[UW,d];rfl
theorem aI{e:Func}{a:Act}{cs:List (List Uv)}{ks:List Nat}(g:St w0 k0 X cs ks w)(t:WF)(T:Vb)(i:e.results=#[.cell t T])(b:Nat)(c:List Uv)(f:cs[b]? = some c)(m:a.tmps[t]? = some (.pointer (some ⟨ad ks b,0,none⟩)))
 (k:(P.underlying T).map (·.isRow)=some true) (l:(P.info? T).map (·.size)=some c.length):(results e a.tmps).run P w=.ok (.agg c.toArray) w:=by
 obtain⟨d,k,hd⟩:=UA.1 k;have j:=Y2 (P:=P) w (ad ks b) 0 T c d (g.has b c f).1 k hd l;have n:a.tmps.getD t WJ=.pointer (some ⟨ad ks b,0,none⟩):=by rw[UJ,m];rfl
 unfold results;rw[i];simp only[Yf,Zo,Zu,n,asAddr];simp[UW,j]
theorem St.begin(w:Ut):St w w.heap.size [] [] [] w:=⟨BelX.refl _ _ _,Uy _,rfl,λb c h=>by simp at h,λb c h=>by simp at h⟩
end RG
namespace RG
open Go Go.RowKit
variable {P:VD}{ops:Array Vk}{Q:X9->Act->Ut->Prop}{w0 w:Ut}{k0:Nat}{X:List Nat}{its:List It}{bl:List Bl}{olds:List (WF × SV)}{a0:Act}{i:Nat}{o:Vk}{it:It}
theorem dE(k:it.kind=.pass)(h:it.out=.v WJ):Cert P Q w0 k0 X ops i its bl olds o it:=by
 intro μ a w K _ _ _;rw[k];exact h
theorem aQ(f:it.kind=.stay)(op:BinOp)(T e:Vb)(t1 t2:WF)(v1 v2 v:Uv)(ho:o.op=.binOp op T (.tmp t1) (.tmp t2) e)(k:it.out=.v v)
 (d:∀(μ:Nat->Nat) (a:Act),Known ops i its olds it.need μ a->a.eval (.tmp t1)=v1) (g:∀(μ:Nat->Nat) (a:Act),Known ops i its olds it.need μ a->a.eval (.tmp t2)=v2)
 (c:∀w,(eqGuard op T (.tmp t1) (.tmp t2) v1 v2).run P w=.ok () w) (j:∀w,(binOp op T v1 v2).run P w=.ok v w):Cert P Q w0 k0 X ops i its bl olds o it:=by
 refine dZ f λμ a w b _=>?_
 unfold U9;rw[ho,k];dsimp only;rw[d μ a b,g μ a b,UW,UW,c];dsimp only[Z1];rw[j];rfl
theorem jC{k:Func}{a:Act}(t:WF)(b:k.results=#[.tmp t])(v:Uv)(d:a.tmps[t]? = some v):(results k a.tmps).run P w=.ok v w:=by
 have c:a.tmps.getD t WJ=v:=by rw[UJ,d];rfl
 unfold results;rw[b];simp only[Yf,Zo,Zu,c];simp[UW]
theorem cQ{f:Func}{a:Act}{cs:List (List Uv)}{ks:List Nat}(m:St w0 k0 X cs ks w)(t u:WF)(T:Vb)(l:f.results=#[.cell t T,.tmp u])(b:Nat)(c:List Uv)(o:cs[b]? = some c)(j:a.tmps[t]? = some (.pointer (some ⟨ad ks b,0,none⟩)))(v:Uv)(k:a.tmps[u]? = some v)
 (e:(P.underlying T).map (·.isRow)=some true) (p:(P.info? T).map (·.size)=some c.length):(results f a.tmps).run P w=.ok (.tuple #[.agg c.toArray,v]) w:=by
 obtain⟨d,e,hd⟩:=UA.1 e;have i:=Y2 (P:=P) w (ad ks b) 0 T c d (m.has b c o).1 e hd p;have n:a.tmps.getD t WJ=.pointer (some ⟨ad ks b,0,none⟩):=by rw[UJ,j];rfl
 have g:a.tmps.getD u WJ=v:=by rw[UJ,k];rfl
 unfold results;rw[l];simp only[Yf,Zo,Zu,n,g,asAddr];simp[UW,i]
end RG
namespace RG
open Go Go.RowKit
variable {P:VD}{ops:Array Vk}{Q:X9->Act->Ut->Prop}{w0 w:Ut}{k0:Nat}{X:List Nat}{its:List It}{bl:List Bl}{olds:List (WF × SV)}{a0 a:Act}{i:Nat}{o:Vk}{it:It}{μ:Nat->Nat}
structure Sl(a:Act)(n:Nat):Prop where
 size:a.tmps.size=n
 defers:a.defers=[]
theorem Sl.puts{n:Nat}(h:Sl a n):Sl (puts μ its a) n:=⟨by rw[zN];exact h.size,by rw[nD];exact h.defers⟩
theorem A8{v:Uv}(h:a.tmps[t]? = some v):a.eval (.tmp t)=v:=by
 show a.tmps.getD t WJ=v;rw[UJ,h];rfl
theorem results_none{k:Func}{tmps:Array Uv}(b:k.results=#[]):(results k tmps).run P w=.ok (.tuple #[]) w:=by
 unfold results;rw[b];simp
theorem Hz{c:Code}{n:Nat}(b:a.tmps[0]? = some v0)(k:a.tmps.size=n)(hd:a.defers=[])(h:∀a,Sl a n->a.tmps[0]? = some v0->c.wp P Q a w):c.wp P Q a w:=h a ⟨k,hd⟩ b
theorem Ov{c:Code}{v1:Uv}{n:Nat}(d:a.tmps[0]? = some v0)(b:a.tmps[1]? = some v1)(k:a.tmps.size=n)(hd:a.defers=[])(h:∀a,Sl a n->a.tmps[0]? = some v0->a.tmps[1]? = some v1->c.wp P Q a w):c.wp P Q a w:=h a ⟨k,hd⟩ d b
theorem Td{c:Code}{v1 v2:Uv}{n:Nat}(d:a.tmps[0]? = some v0)(b:a.tmps[1]? = some v1)(e:a.tmps[2]? = some v2)(k:a.tmps.size=n)(hd:a.defers=[])(h:∀a,Sl a n->a.tmps[0]? = some v0->a.tmps[1]? = some v1->a.tmps[2]? = some v2->c.wp P Q a w):c.wp P Q a w:=h a ⟨k,hd⟩ d b e
theorem mI(b:Nat)(g:it.kind=.make b)(e:Bl)(l:bl[b]? = some e)(T E:Vb)(t1 t2:WF)(n:Nat)(k:it.out=.s b n n)(ho:o.op=.makeSlice T (.tmp t1) (.tmp t2))
 (f:∀(μ:Nat->Nat) (a:Act),Known ops i its olds it.need μ a->a.eval (.tmp t1)=iZ n) (j:∀(μ:Nat->Nat) (a:Act),Known ops i its olds it.need μ a->a.eval (.tmp t2)=iZ n)
 (d:∀w:Ut,(Xx T (iZ n) (iZ n)).run P w=.ok (sZ w.heap.size n n) (w.alloc (.cells e.before.toArray E))):Cert P Q w0 k0 X ops i its bl olds o it:=by
 refine Ai b g e l E λμ a w c _=>?_
 have m:it.out.at (upd μ b w.heap.size)=sZ w.heap.size n n:=by
  rw[k];show VA (some ⟨upd μ b w.heap.size b,0,none⟩) n n=_;unfold upd;rw[yCk rfl]
 unfold U9;rw[ho];dsimp only;rw[f μ a c,j μ a c,m,UW,d];rfl
theorem fR(c:it.kind=.stay)(t:WF)(s:SV)(v:Uv)(k:it.out=.v v)(hx:∀(μ:Nat->Nat) (a:Act),Known ops i its olds it.need μ a->a.eval (.tmp t)=s.at μ)
 (hE:∀(a:Act) (w:Ut),(U9 a.eval o).run P w=(U9 (λ_=>a.eval (.tmp t)) o).run P w) (d:∀(μ:Nat->Nat) (w:Ut),(U9 (λ_=>s.at μ) o).run P w=.ok (.value v) w):Cert P Q w0 k0 X ops i its bl olds o it:=by
 refine dZ c λμ a w b _=>?_
 rw[hE,hx μ a b,d,k];rfl
theorem D8(q:it.kind=.call)(b:Nat)(e:Bl)(y:bl[b]? = some e)(l:e.al=none)(g:readB ops i e=true)(s:e.before≠[])(f:Xl)(args:(Nat->Nat)->Array Uv)(v:Uv)(d:it.out=.v v)(k:∀(μ:Nat->Nat) (a:Act) (w:Ut),Known ops i its olds it.need μ a->(U9 a.eval o).run P w=.ok (.enter f (args μ)) w)
 (u:∀(μ:Nat->Nat) (w:Ut),μ b<w.heap.size->w.rangeAt (μ b) 0 e.before->UK P f (args μ) w (rZ w λr w'=>r=v)):Cert P Q w0 k0 X ops i its bl olds o it:=by
 intro μ a w K n hR _;rw[q];intro h;rw[d]at h;have m:=hR b e y (U6 l) g;have j:μ b<w.heap.size:=by
  cases c:e.before with
  | nil=>exact absurd c s
  | cons x r =>
   have p:=m 0 x (by rw[c];rfl);exact WB λz=>by
    have t:w.heap[μ b]? = none:=Wu oM;simp[V1,t]at p
 unfold VT;rw[k μ a w n,WU];refine(u μ w j m).mono ?_;rintro r w' ⟨p,rfl,c,rfl⟩;exact h w' c
theorem rU{k o:Nat}{cs:List Uv}(h:w.rangeAt k 0 C)(b:∀j,j<cs.length->C[o+j]? = cs[j]?):w.rangeAt k o cs:=λj v hv=>by
 have c:=(UG.1 hv).1;have:=h (o+j) v (by rw[b j c];exact hv);rwa[UF]at this
theorem bD(b:it.kind=.stay)(T:Vb)(t u:WF)(ho:o.op=.indexAddr T (.tmp t) (.tmp u))(s:SV)(iv:Uv)(hx:∀(μ:Nat->Nat) (a:Act),Known ops i its olds it.need μ a->a.eval (.tmp t)=s.at μ)(c:∀(μ:Nat->Nat) (a:Act),Known ops i its olds it.need μ a->a.eval (.tmp u)=iv)
 (hf:∀(μ:Nat->Nat) (w:Ut),(Vj T (s.at μ) iv).run P w=.ok (it.out.at μ) w):Cert P Q w0 k0 X ops i its bl olds o it:=by
 refine dZ b λμ a w k _=>?_
 unfold U9;rw[ho];dsimp only;rw[hx μ a k,c μ a k,UW,hf];rfl
theorem eN(b:it.kind=.stay)(T:Vb)(t:WF)(iv:Uv)(ho:o.op=.indexAddr T (.tmp t) (.const iv))(s:SV)(hx:∀(μ:Nat->Nat) (a:Act),Known ops i its olds it.need μ a->a.eval (.tmp t)=s.at μ)
 (hf:∀(μ:Nat->Nat) (w:Ut),(Vj T (s.at μ) iv).run P w=.ok (it.out.at μ) w):Cert P Q w0 k0 X ops i its bl olds o it:=by
 refine dZ b λμ a w k _=>?_
 unfold U9;rw[ho];dsimp only;rw[hx μ a k];show((Vj T (s.at μ) iv) >>= λv=>pure (Xq v)).run P w=_;rw[UW,hf];rfl
theorem aP(e:it.kind=.stay)(op:BinOp)(T b:Vb)(t1:WF)(v1 v2 v:Uv)(ho:o.op=.binOp op T (.tmp t1) (.const v2) b)(k:it.out=.v v)
 (g:∀(μ:Nat->Nat) (a:Act),Known ops i its olds it.need μ a->a.eval (.tmp t1)=v1)
 (d:∀w,(eqGuard op T (.tmp t1) (.const v2) v1 v2).run P w=.ok () w) (f:∀w,(binOp op T v1 v2).run P w=.ok v w):Cert P Q w0 k0 X ops i its bl olds o it:=by
 refine dZ e λμ a w c _=>?_
 unfold U9;rw[ho,k];dsimp only;rw[g μ a c];show(((eqGuard op T (.tmp t1) (.const v2) v1 v2) >>= λ_=>binOp op T v1 v2) >>= λv=>pure (Xq v)).run P w=_;rw[UW,UW,d];dsimp only[Z1];rw[f];rfl
theorem GX(e:it.kind=.stay)(S T:Vb)(t:WF)(v b:Uv)(ho:o.op=.convert S T (.tmp t))(k:it.out=.v b)(hx:∀(μ:Nat->Nat) (a:Act),Known ops i its olds it.need μ a->a.eval (.tmp t)=v)(c:∀w,(convert S T v).run P w=.ok b w):Cert P Q w0 k0 X ops i its bl olds o it:=by
 refine dZ e λμ a w d _=>?_
 unfold U9;rw[ho,k];dsimp only;rw[hx μ a d,UW,c];rfl
theorem Na(e:it.kind=.stay)(op:UnOp)(T:Vb)(t:WF)(v b:Uv)(ho:o.op=.unOp op T (.tmp t))(k:it.out=.v b)(hx:∀(μ:Nat->Nat) (a:Act),Known ops i its olds it.need μ a->a.eval (.tmp t)=v)(c:∀w,(Op.unary op v).run P w=.ok b w):Cert P Q w0 k0 X ops i its bl olds o it:=by
 refine dZ e λμ a w d _=>?_
 unfold U9;rw[ho,k];dsimp only;rw[hx μ a d,UW,c];rfl
theorem eH(l:it.kind=.stay)(k off:Nat)(c:k<k0)(g:k ∉ X)(T:Vb)(t:WF)(ho:o.op=.load T (.tmp t))(cs:List Uv)(b:it.out=.v (.agg cs.toArray))
 (hx:∀(μ:Nat->Nat) (a:Act),Known ops i its olds it.need μ a->a.eval (.tmp t)=oZ k off) (m:w0.rangeAt k off cs)
 (e:(P.underlying T).map (·.isRow)=some true) (q:(P.info? T).map (·.size)=some cs.length):Cert P Q w0 k0 X ops i its bl olds o it:=by
 intro μ a w K f _ p;rw[l];intro h;rw[b]at h;obtain⟨d,e,hd⟩:=UA.1 e;refine wp_load_mid T (.tmp t) ho k off (hx μ a f) cs d (λj v n=>?_) e hd q h;rw[U0 (w:=w0) (a:=⟨k,off+j,none⟩) (p.block k c g)];exact m j v n
theorem fE{T:Vb}{k off:Nat}{v:Uv}(e:w.cell? ⟨k,off,none⟩=some v)(c:(P.underlying T).map (·.isRow)=some false):(yAv T (oZ k off)).run P w=.ok v w:=by
 obtain⟨d,c,hd⟩:=UA.1 c;have b:(isAgg T).run P w=.ok false w:=by
  unfold isAgg;rw[UW,Yn c w];cases d<;>simp_all
 simp[yAv,Yy,loadVar,UW,b,e]
theorem yK(l:it.kind=.stay)(b off:Nat)(e:Bl)(m:bl[b]? = some e)(f:e.al=none)(d:readB ops i e=true)(T:Vb)(t:WF)(ho:o.op=.load T (.tmp t))(v:Uv)(c:it.out=.v v)
 (hx:∀(μ:Nat->Nat) (a:Act),Known ops i its olds it.need μ a->a.eval (.tmp t)=(SV.p b off).at μ) (k:e.before[off]? = some v)
 (n:(P.underlying T).map (·.isRow)=some false):Cert P Q w0 k0 X ops i its bl olds o it:=by
 intro μ a w K j hR _;rw[l];intro h;rw[c]at h;have g:=hR b e m (U6 f) d off v k;rw[UF]at g;unfold VT U9;rw[ho];dsimp only;rw[hx μ a j];show o.upon P a K Q (((yAv T (.pointer (some ⟨μ b,off,none⟩))) >>= λv=>pure (Xq v)).run P w);rw[UW,fE g n];exact h
theorem wK{T:Vb}{k off:Nat}{v u:Uv}(e:w.cell? ⟨k,off,none⟩=some u)(hf:w.frozen? ⟨k,off,none⟩=false)(g:v.oneCell'=true)(hv:v.cells=#[v])(d:(P.info? T).map (·.size)=some 1):(Y6 T (oZ k off) v).run P w=.ok () (w.setCells k off [v]):=by
 have:=run_storeCells_cells (P:=P) k off [v] 0 w (λj c=>by
  obtain rfl:j=0:=by simpa using c
  simp[e]) (λj c=>by
  obtain rfl:j=0:=by simpa using c
  simpa using hf) (λx hx=>by
  obtain rfl:x=v:=by simpa using hx
  exact g)
 cases b:P.info? T with
 | none=>simp[b]at d
 | some inf =>
  have f:inf.size=1:=by simp[b]at d;omega
  simp only[Xm]at this;simp[Y6,Yy,storeVar,sizeOf,typeInfo,b,hv,f,this]
theorem GW(b off:Nat)(q:it.kind=.put b)(e:Bl)(s:bl[b]? = some e)(T:Vb)(x y:XM)(v:Uv)(ho:o.op=.store T x y)(f:o.dst=none)
 (hx:∀(μ:Nat->Nat) (a:Act),Known ops i its olds it.need μ a->a.eval x=(SV.p b off).at μ) (z:∀(μ:Nat->Nat) (a:Act),Known ops i its olds it.need μ a->a.eval y=v) (k:off<e.before.length) (c:e.after=e.before.set off v)
 (t:(P.info? T).map (·.size)=some 1) (p:v.oneCell'=true) (hv:v.cells=#[v]):Cert P Q w0 k0 X ops i its bl olds o it:=by
 intro μ a w K l _ _;rw[q];intro e' d m r h;rw[s]at d;obtain rfl:e=e':=UP.inj d;have g:PutTo (μ b) e.before.length e.after w (w.setCells (μ b) off [v]):=PutTo.store m r (by simp only[Vg,WO];omega) (λj=>by
  rw[c,List.getElem?_set];by_cases n:off=j
  ·subst n;rw[yCk rfl,yCk k,yCk (by simp)];simp
  ·rw[yCl n,yCl (by simp only[Vg,WO];omega)])
 have c:=m off k;rw[UF]at c;obtain⟨u,n⟩:=Vu.1 c.1;unfold VT U9;rw[ho];dsimp only;rw[hx μ a l,z μ a l];show o.upon P a K Q (((Y6 T (.pointer (some ⟨μ b,off,none⟩)) v) >>= λ_=>pure Next.skip).run P w);rw[UW,wK n c.2 p hv t];have:=h _ g;rw[f]at this;show K (a.put o.dst WJ) _;rw[f];exact this
theorem fA(b off:Nat)(p:it.kind=.put b)(e:Bl)(s:bl[b]? = some e)(T:Vb)(x y:XM)(vs:List Uv)(ho:o.op=.store T x y)(f:o.dst=none)
 (hx:∀(μ:Nat->Nat) (a:Act),Known ops i its olds it.need μ a->a.eval x=(SV.p b off).at μ) (u:∀(μ:Nat->Nat) (a:Act),Known ops i its olds it.need μ a->a.eval y=.agg vs.toArray) (d:off+vs.length<=e.before.length)
 (c:∀j,e.after[j]? = if off<=j/\j<off+vs.length then vs[j-off]? else e.before[j]?)
 (t:(P.info? T).map (·.size)=some vs.length) (n:vs.all (·.oneCell')=true):Cert P Q w0 k0 X ops i its bl olds o it:=by
 intro μ a w K l _ _;rw[p];intro e' k m q h;rw[s]at k;obtain rfl:e=e':=UP.inj k;have g:=PutTo.store m q d c;refine wp_store_mid T x y ho (μ b) off vs.toArray (hx μ a l) (u μ a l) ?_ ?_ ?_ ?_
 ·intro j r;have:=m (off+j) (by rw[VE]at r;omega);rwa[UF]at this
 ·rw[VE];exact t
 ·exact all_oneCell_toArray (λv hv=>Va.1 n v hv)
 ·have:=h _ g;rw[f]at this⊢;exact this
theorem Bi(b:Nat)(n:it.kind=.put b)(e:Bl)(s:bl[b]? = some e)(f:Xl)(args:(Nat->Nat)->Array Uv)(v:Uv)(g:it.out=.v v)(d:∀(μ:Nat->Nat) (a:Act) (w:Ut),Known ops i its olds it.need μ a->BelX k0 X w0 w->(U9 a.eval o).run P w=.ok (.enter f (args μ)) w)
 (q:∀(μ:Nat->Nat) (w:Ut),BelX k0 X w0 w->w.there (μ b) 0 e.before.length->w.rangeAt (μ b) 0 e.before->UK P f (args μ) w (Ret λr w'=>PutTo (μ b) e.before.length e.after w w'/\r=v)):Cert P Q w0 k0 X ops i its bl olds o it:=by
 intro μ a w K j _ k;rw[n];intro e' c l p h;rw[s]at c;obtain rfl:e=e':=UP.inj c;rw[g]at h;unfold VT;rw[d μ a w j k,WU];refine(q μ w k l p).mono ?_;rintro r w' ⟨t,rfl,m,rfl⟩;exact h w' m
theorem St.lent{k:Nat}(e:k<w.heap.size)(f:w.rangeAt k 0 C)(j:w.there k 0 C.length):St w w.heap.size [k] [C] [k] w:=by
 refine⟨BelX.refl _ _ _,Uy _,rfl,λb c h=>?_,λb c g d i=>?_⟩
 ·cases b with
  | zero =>
   obtain rfl:C=c:=by simpa using h
   exact⟨f,j,e,U2 Vo⟩
  | succ b=>simp at h
 ·simp only[Vg,WO]at g d;omega
theorem St.putTo{k:Nat}{C:List Uv}{cs:List (List Uv)}{ks:List Nat}{n:Nat}(h:St w0 w0.heap.size [k] (C :: cs) (k :: ks) w)(f:C.length=n):PutTo k n C w0 w:=by
 obtain⟨d,e,-,-⟩:=h.has 0 C rfl;refine⟨h.bel.os,h.bel.tape,h.bel.output,h.bel.size,λj c b=>h.bel.block j c (by simpa using b),d,?_⟩;rw[<-f];exact e
def rep(C:List Uv)(o:Nat)(vs:List Uv):List Uv:=C.take o++(vs++C.drop (o+vs.length))
theorem cU{o:Nat}(h:o+vs.length<=C.length):(rep C o vs).length=C.length:=by
 unfold rep;rw[UB,UB,WN,ZQ];omega
theorem rep_at{o:Nat}(h:o+vs.length<=C.length)(j:Nat):(rep C o vs)[j]? = if o<=j/\j<o+vs.length then vs[j-o]? else C[j]?:=by
 unfold rep;have k:(C.take o).length=o:=by rw[WN];omega
 by_cases b:j<o
 ·rw[UX (by rw[k];exact b),WI,yCk b,yCl oM]
 ·rw[U4 (by rw[k];omega),k];by_cases c:j<o+vs.length
  ·rw[UX oM,yCk ⟨oM,c⟩]
  ·rw[U4 oM,yCl oM,Zz]
   congr 1
   omega
theorem OB{cs:List Uv}{o:Nat}(h:∀j,j<cs.length->C[o+j]? = cs[j]?)(b:o+cs.length<=C.length):(C.drop o).take cs.length=cs:=by
 apply List.ext_getElem?;intro j;by_cases k:j<cs.length
 ·rw[WI,yCk k,Zz,h j k]
 ·rw[WE (by rw[WN,ZQ];omega),WE oM]
theorem yZ(b:Nat)(p:it.kind=.put b)(e:Bl)(u:bl[b]? = some e)(f:Xl)(t1 t2 j:WF)(s1:SV)(v2 g v:Uv)(c:it.out=.v v)(k:∀(a:Act) (w:Ut),(U9 a.eval o).run P w=.ok (.enter f #[a.eval (.tmp t1),a.eval (.tmp t2),a.eval (.tmp j)]) w)
 (m:∀(μ:Nat->Nat) (a:Act),Known ops i its olds it.need μ a->a.eval (.tmp t1)=s1.at μ) (s:∀(μ:Nat->Nat) (a:Act),Known ops i its olds it.need μ a->a.eval (.tmp t2)=v2) (l:∀(μ:Nat->Nat) (a:Act),Known ops i its olds it.need μ a->a.eval (.tmp j)=g)
 (t:∀(μ:Nat->Nat) (w:Ut),w.there (μ b) 0 e.before.length->w.rangeAt (μ b) 0 e.before->UK P f #[s1.at μ,v2,g] w (Ret λr w'=>PutTo (μ b) e.before.length e.after w w'/\r=v)):Cert P Q w0 k0 X ops i its bl olds o it:=
 Bi b p e u f (λμ=>#[s1.at μ,v2,g]) v c (λμ a w d _=>by rw[k,m μ a d,s μ a d,l μ a d]) (λμ w _ n q=>t μ w n q)
theorem CL(m:it.kind=.call)(b:Nat)(e:Bl)(s:bl[b]? = some e)(g:e.al=none)(d:readB ops i e=true)(n:e.before≠[])(f:Xl)(t1 t2:WF)(s1:SV)(v2 v:Uv)(c:it.out=.v v)(k:∀(a:Act) (w:Ut),(U9 a.eval o).run P w=.ok (.enter f #[a.eval (.tmp t1),a.eval (.tmp t2)]) w)
 (l:∀(μ:Nat->Nat) (a:Act),Known ops i its olds it.need μ a->a.eval (.tmp t1)=s1.at μ) (p:∀(μ:Nat->Nat) (a:Act),Known ops i its olds it.need μ a->a.eval (.tmp t2)=v2)
 (q:∀(μ:Nat->Nat) (w:Ut),μ b<w.heap.size->w.rangeAt (μ b) 0 e.before->UK P f #[s1.at μ,v2] w (rZ w λr w'=>r=v)):Cert P Q w0 k0 X ops i its bl olds o it:=
 D8 m b e s g d n f (λμ=>#[s1.at μ,v2]) v c (λμ a w j=>by rw[k,l μ a j,p μ a j]) q
end RG
namespace RG
open Go Go.RowKit
variable {P:VD}{ops:Array Vk}{Q:X9->Act->Ut->Prop}{w0 w:Ut}{k0:Nat}{X:List Nat}{its:List It}{bl:List Bl}{olds:List (WF × SV)}{a:Act}{i:Nat}{o:Vk}{it:It}
theorem uE(e:it.kind=.stay)(T:Vb)(t:WF)(b v c:Uv)(ho:o.op=.slice T (.tmp t) (some (.const b)) none none)(k:it.out=.v c)(hx:∀(μ:Nat->Nat) (a:Act),Known ops i its olds it.need μ a->a.eval (.tmp t)=v)
 (hf:∀w:Ut,(Xw T v (some b) none none).run P w=.ok c w):Cert P Q w0 k0 X ops i its bl olds o it:=by
 refine dZ e λμ a w d _=>?_
 unfold U9;rw[ho,k];dsimp only;rw[hx μ a d];show((Xw T v (some b) none none) >>= λv=>pure (Xq v)).run P w=_;rw[UW,hf];rfl
theorem CJ(d:it.kind=.stay)(T:Vb)(t:WF)(v b:Uv)(ho:o.op=.sliceToArrayPointer T (.tmp t))(k:it.out=.v b)(hx:∀(μ:Nat->Nat) (a:Act),Known ops i its olds it.need μ a->a.eval (.tmp t)=v)
 (hf:∀w:Ut,(Instr.arrayAt T v).run P w=.ok b w):Cert P Q w0 k0 X ops i its bl olds o it:=by
 refine dZ d λμ a w c _=>?_
 unfold U9;rw[ho,k];dsimp only;rw[hx μ a c,UW,hf];rfl
theorem bM(g:it.kind=.stay)(k off:Nat)(c:k<k0)(f:k ∉ X)(T:Vb)(t:WF)(ho:o.op=.load T (.tmp t))(v:Uv)(b:it.out=.v v)
 (hx:∀(μ:Nat->Nat) (a:Act),Known ops i its olds it.need μ a->a.eval (.tmp t)=oZ k off) (j:w0.cell? ⟨k,off,none⟩=some v)
 (m:(P.underlying T).map (·.isRow)=some false):Cert P Q w0 k0 X ops i its bl olds o it:=by
 refine dZ g λμ a w d l=>?_
 have e:w.cell? ⟨k,off,none⟩=some v:=by
  rw[U0 (w:=w0) (a:=⟨k,off,none⟩) (l.block k c f)];exact j
 unfold U9;rw[ho,b];dsimp only;rw[hx μ a d,UW,fE e m];rfl
theorem kK(g:it.kind=.call)(f:Xl)(t1 t2:WF)(v1 v2 v:Uv)(b:it.out=.v v)(k:∀(a:Act) (w:Ut),(U9 a.eval o).run P w=.ok (.enter f #[a.eval (.tmp t1),a.eval (.tmp t2)]) w)
 (d:∀(μ:Nat->Nat) (a:Act),Known ops i its olds it.need μ a->a.eval (.tmp t1)=v1) (j:∀(μ:Nat->Nat) (a:Act),Known ops i its olds it.need μ a->a.eval (.tmp t2)=v2)
 (l:∀w,BelX k0 X w0 w->UK P f #[v1,v2] w (rZ w λe w'=>e=v)):Cert P Q w0 k0 X ops i its bl olds o it:=
 tB g f #[v1,v2] v b (λμ a w c _=>by rw[k,d μ a c,j μ a c]) l
theorem uF(g:it.kind=.call)(f:Xl)(t1:WF)(v1 v:Uv)(k:it.out=.v v)(b:∀(a:Act) (w:Ut),(U9 a.eval o).run P w=.ok (.enter f #[a.eval (.tmp t1)]) w)
 (j:∀(μ:Nat->Nat) (a:Act),Known ops i its olds it.need μ a->a.eval (.tmp t1)=v1)
 (c:∀w,BelX k0 X w0 w->UK P f #[v1] w (rZ w λe w'=>e=v)):Cert P Q w0 k0 X ops i its bl olds o it:=
 tB g f #[v1] v k (λμ a w d _=>by rw[b,j μ a d]) c
theorem St.init{cs:List (List Uv)}{c:List Uv}{ks:List Nat}{k:Nat}(h:St w0 k0 X (cs++[c]) (ks++[k]) w):St w0 k0 X cs ks w:=by
 have l:ks.length=cs.length:=by have:=h.len;simp only[UB,Vg,WO]at this;omega
 have d:∀b,b<cs.length->ad (ks++[k]) b=ad ks b:=λb e=>by
  unfold ad;rw[VW,VW,UX oM]
 refine⟨h.bel,h.le,l,λb g e=>?_,λb g e j i=>?_⟩
 ·have f:=(UG.1 e).1;have:=h.has b g (by rw[UX f];exact e);rwa[d b f]at this
 ·have:=h.inj b g (by rw[UB];omega) (by rw[UB];omega) i;rwa[d b e,d g j]at this
theorem fY{b:Func}{a:Act}(t u:WF)(c:b.results=#[.tmp t,.tmp u])(v k:Uv)(g:a.tmps[t]? = some v)(e:a.tmps[u]? = some k):(results b a.tmps).run P w=.ok (.tuple #[v,k]) w:=by
 have f:a.tmps.getD t WJ=v:=by rw[UJ,g];rfl
 have d:a.tmps.getD u WJ=k:=by rw[UJ,e];rfl
 unfold results;rw[c];simp only[Yf,Zo,Zu,f,d];simp[UW]
end RG
namespace RG
open Go Go.RowKit
variable {P:VD}{ops:Array Vk}{Q:X9->Act->Ut->Prop}{w0 w:Ut}{k0 n:Nat}{X:List Nat}{its:List It}{bl:List Bl}{os:List (WF × SV)}{a:Act}{i:Nat}{o:Vk}{it:It}{μ:Nat->Nat}{need:List (WF × Nat)}
def src(c:Array Vk)(k:List It)(d:List (WF × SV))(b:List (WF × Nat))(i:Nat)(t:WF):Option SV:=
 match b.find? (λx=>x.1 == t) with
 | some x=>(k[x.2]?).map (·.out)
 | none=>match d.find? (λx=>x.1 == t) with
  | some x=>bif Fp c k i t then some x.2 else none
  | none=>none
theorem mT{s:SV}(h:src ops its os need i t=some s)(K:Known ops i its os need μ a):a.eval (.tmp t)=s.at μ:=by
 unfold src at h;cases k:need.find? (λx=>x.1 == t) with
 | some x =>
  rw[k]at h;dsimp only at h;have b:=WW k;have c:x.1=t:=by simpa using Ym k
  obtain⟨e,d,rfl⟩:=UA.1 h;exact K.op t x.2 (by rw[<-c];exact b) d
 | none =>
  rw[k]at h;dsimp only at h;cases ho:os.find? (λx=>x.1 == t) with
  | none=>rw[ho]at h;cases h
  | some x =>
   rw[ho]at h;dsimp only at h;have b:=WW ho;have c:x.1=t:=by simpa using Ym ho
   cases hf:Fp ops its i t with
   | false=>rw[hf]at h;cases h
   | true =>
    rw[hf]at h;obtain rfl:x.2=s:=UP.inj h;exact K.old t x.2 (by rw[<-c];exact b) hf
theorem sx{f:(Nat->Nat)->Uv}(h:∀μ:Nat->Nat,(src ops its os need i t).map (λs=>s.at μ)=some (f μ):=by intro _;kernel_rfl):∀(μ:Nat->Nat) (a:Act),Known ops i its os need μ a->a.eval (.tmp t)=f μ:=λμ _ K=>by
 obtain⟨s,k,b⟩:=UA.1 (h μ);rw[mT k K];exact b
def ro(c:Array Vk)(b:List It)(d:List (WF × SV))(k:List (WF × Nat))(i:Nat)(μ:Nat->Nat):XM->Uv
 | .tmp t=>match src c b d k i t with|some s=>s.at μ|none=>WJ
 | .const v=>v
 | .global g=>jZ g
 | .func f=>.func (.func f) #[] #[]
def seen(c:Array Vk)(b:List It)(d:List (WF × SV))(k:List (WF × Nat))(i:Nat)(o:Vk):Bool:=
 (match o.op with | .select _ _=>false|_=>true) && o.op.operands.all (λx=>match x with | .tmp t=>(src c b d k i t).isSome|_=>true)
theorem oD(h:seen ops its os need i o=true)(K:Known ops i its os need μ a):U9 a.eval o=U9 (ro ops its os need i μ) o:=by
 simp only[seen,UN]at h;refine execOp_congr o (λcs b d=>?_) (λx hx=>?_)
 ·rw[d]at h;exact absurd h.1 (by simp)
 ·have c:=WR.1 h.2 x hx;cases x with
  | tmp t =>
   dsimp only at c;obtain⟨s,k⟩:=Vu.1 c;rw[mT k K];show _=(match src ops its os need i t with|some s=>s.at μ|none=>WJ);rw[k]
  | const v=>rfl
  | global g=>rfl
  | func f=>rfl
theorem st(h:∀(μ:Nat->Nat) (w:Ut),((seen ops its os it.need i o,it.kind),(U9 (ro ops its os it.need i μ) o).run P w)=((true,Kind.stay),.ok (.value (it.out.at μ)) w):=by intro _ _;kernel_rfl):Cert P Q w0 k0 X ops i its bl os o it:=by
 intro μ a w K d _ c;have k:=h μ w;simp only[We.injEq]at k;rw[k.1.2];intro b;unfold VT;rw[oD k.1.1 d,k.2];exact b
theorem se{v c:Uv}(e:c=v)(h:∀(μ:Nat->Nat) (w:Ut),((seen ops its os it.need i o,it.kind,it.out),(U9 (ro ops its os it.need i μ) o).run P w)=((true,Kind.stay,SV.v v),.ok (.value c) w):=by intro _ _;kernel_rfl):Cert P Q w0 k0 X ops i its bl os o it:=by
 intro μ a w K f _ d;have b:=h μ w;simp only[We.injEq]at b;rw[b.1.2.1];intro k;rw[b.1.2.2]at k;unfold VT;rw[oD b.1.1 f,b.2,e];exact k
theorem mk(b:Nat)(T:Vb)(h:∀(μ:Nat->Nat) (w:Ut),((seen ops its os it.need i o,it.kind),(U9 (ro ops its os it.need i μ) o).run P w)=((true,Kind.make b),.ok (.value (it.out.at (upd μ b w.heap.size))) (w.alloc (.cells (((bl[b]?).map (·.before)).getD []).toArray T))):=by intro _ _;kernel_rfl):Cert P Q w0 k0 X ops i its bl os o it:=by
 intro μ a w K d _ c;have k:=h μ w;simp only[We.injEq]at k;rw[k.1.2];intro e f g;unfold VT;rw[oD k.1.1 d,k.2,f];exact g _ _ (Made.alloc w e.before T)
theorem clB{f:Xl}{v:Uv}(h:∀(μ:Nat->Nat) (w:Ut),((seen ops its os it.need i o,it.kind,it.out),(U9 (ro ops its os it.need i μ) o).run P w)=((true,Kind.call,SV.v v),.ok (.enter f args) w))
 (g:∀w,BelX k0 X w0 w->UK P f args w (rZ w λe w'=>e=v)):Cert P Q w0 k0 X ops i its bl os o it:=by
 intro μ a w K d _ b;have k:=h μ w;simp only[We.injEq]at k;rw[k.1.2.1];intro c;rw[k.1.2.2]at c;unfold VT;rw[oD k.1.1 d,k.2,WU];refine(g w b).mono ?_;rintro e w' ⟨l,rfl,j,rfl⟩;exact c w' j
theorem cl{f:Xl}{v:Uv}(k:∀w,UK P f args w (rZ w λe w'=>e=v))(h:∀(μ:Nat->Nat) (w:Ut),((seen ops its os it.need i o,it.kind,it.out),(U9 (ro ops its os it.need i μ) o).run P w)=((true,Kind.call,SV.v v),.ok (.enter f args) w):=by intro _ _;kernel_rfl):Cert P Q w0 k0 X ops i its bl os o it:=
 clB h (λw _=>k w)
theorem cm(b:Nat){f:Xl}{c:List Uv}(v:∀w,BelX k0 X w0 w->UK P f args w (Ret λe w'=>∃k,Made w k c w'/\e=it.out.at (λ_=>k)))
 (h:∀(μ:Nat->Nat) (w:Ut),((seen ops its os it.need i o,it.kind,(bl[b]?).map (·.before),it.out.blk),(U9 (ro ops its os it.need i μ) o).run P w)=((true,Kind.make b,some c,some b),.ok (.enter f args) w)):Cert P Q w0 k0 X ops i its bl os o it:=by
 intro μ a w K m _ g;have l:=h μ w;simp only[We.injEq]at l;obtain⟨⟨n,u,j,s⟩,t⟩:=l;rw[u];intro e x p;rw[x]at j;obtain rfl:e.before=c:=UP.inj j;unfold VT;rw[oD n m,t,WU];refine(v w g).mono ?_;rintro r w' ⟨z,rfl,k,y,rfl⟩;have q:it.out.at (upd μ b k)=it.out.at (λ_=>k):=SV.at_congr λB d=>by
  rw[s]at d;obtain rfl:=UP.inj d;unfold upd;rw[yCk rfl]
 have:=p k w' y;rw[q]at this;exact this
def Bm(k:Array Vk)(i:Nat)(o:Vk)(c:List Bl)(b:Nat):Bool:=match c[b]? with
 | some e=>(match e.al with|none=>true|some j=>dB o j) && readB k i e
 | none=>false
def Seen(c:List Bl)(k:List Nat)(μ:Nat->Nat)(w:Ut):Prop:=∀b∈k,∀e:Bl,c[b]? = some e->e.before≠[]->w.rangeAt (μ b) 0 e.before/\μ b<w.heap.size
theorem LM{f:List Nat}(ho:ops[i]? = some o)(h:f.all (Bm ops i o bl)=true)(hR:Reads ops i bl μ w):Seen bl f μ w:=λb m e l d=>by
 have k:=Va.1 h b m;unfold Bm at k;rw[l]at k;dsimp only at k;rw[UN]at k;have g:=hR b e l (by
  cases c:e.al with
  | none=>exact U6 rfl
  | some j=>rw[c]at k;exact U2 ⟨o,j,ho,rfl,k.1⟩) k.2
 refine⟨g,?_⟩;cases c:e.before with
 | nil=>exact absurd c d
 | cons x r =>
  have p:=g 0 x (by rw[c];rfl);exact WB λq=>by
   have n:w.heap[μ b]? = none:=Wu oM;simp[V1,n]at p
theorem cr(d:List Nat){f:Xl}{args:(Nat->Nat)->Array Uv}{v:Uv}(q:∀(μ:Nat->Nat) (w:Ut),BelX k0 X w0 w->Seen bl d μ w->UK P f (args μ) w (rZ w λe w'=>e=v))
 (h:∀(μ:Nat->Nat) (w:Ut),((seen ops its os it.need i o,it.kind,it.out,d.all (Bm ops i o bl),ops[i]?),(U9 (ro ops its os it.need i μ) o).run P w)=((true,Kind.call,SV.v v,true,some o),.ok (.enter f (args μ)) w)):Cert P Q w0 k0 X ops i its bl os o it:=by
 intro μ a w K g hR k;have b:=h μ w;simp only[We.injEq]at b;obtain⟨⟨l,p,j,m,s⟩,n⟩:=b;rw[p];intro c;rw[j]at c;unfold VT;rw[oD l g,n,WU];refine(q μ w k (LM s m hR)).mono ?_;rintro e w' ⟨t,rfl,r,rfl⟩;exact c w' r
def ldv(k:Array Vk)(c:List It)(f:List Bl)(d:List (WF × SV))(i:Nat)(o:Vk)(it:It)(T:Vb)(n:Nat):Option SV:=
 match it.kind,o.op with
 | .stay,.load T' (.tmp t)=>match src k c d it.need i t with
  | some (.p b off)=>match f[b]? with
   | some e=>bif T' == T && e.al.isNone && readB k i e && (off+n).ble e.before.length then some (.v (.agg ((e.before.drop off).take n).toArray)) else none
   | none=>none
  | _=>none
 | _,_=>none
theorem ld{T:Vb}{n:Nat}(m:(P.underlying T).map (·.isRow)=some true)(l:(P.info? T).map (·.size)=some n)(h:ldv ops its bl os i o it T n=some it.out:=by kernel_rfl):Cert P Q w0 k0 X ops i its bl os o it:=by
 unfold ldv at h;split at h
 ·rename_i T' t hk ho
  split at h
  ·rename_i b off hs
   split at h
   ·rename_i e hb
    cases c:(T' == T && e.al.isNone && readB ops i e && (off+n).ble e.before.length) with
    | false=>rw[c]at h;cases h
    | true =>
     rw[c]at h;have j:=h;simp only[UN,beq_iff_eq,Option.isNone_iff_eq_none,yB8]at c;obtain⟨⟨⟨rfl,d⟩,g⟩,f⟩:=c;have k:((e.before.drop off).take n).length=n:=by rw[WN,ZQ];omega
     refine oI hk b off e hb d g T' t ho ((e.before.drop off).take n) (UP.inj j).symm (λ_ _ K=>mT hs K) ?_ m (by rw[k];exact l);rw[k]
   ·cases h
  ·cases h
 ·cases h
def ptv(c:Array Vk)(k:List It)(f:List Bl)(d:List (WF × SV))(i:Nat)(o:Vk)(it:It)(T:Vb)(n:Nat):Option (List Uv):=
 match it.kind,o.op,o.dst with
 | .put b,.store T' (.tmp x) (.tmp y),none=>match src c k d it.need i x,src c k d it.need i y with
  | some (.p b' off),some (.v (.agg vs))=>match f[b]? with
   | some e=>bif T' == T && b' == b && vs.size == n && (off+n).ble e.before.length && vs.toList.all (·.oneCell') then some (rep e.before off vs.toList) else none
   | none=>none
  | _,_=>none
 | _,_,_=>none
theorem pt{T:Vb}{n:Nat}(m:(P.info? T).map (·.size)=some n)(h:((ptv ops its bl os i o it T n).isSome,ptv ops its bl os i o it T n)=(true,match it.kind with | .put b=>(bl[b]?).map (·.after)|_=>none):=by kernel_rfl):Cert P Q w0 k0 X ops i its bl os o it:=by
 simp only[We.injEq]at h;obtain⟨k,h⟩:=h;rw[h]at k;unfold ptv at h;split at h
 ·rename_i b T' x y hk ho hdn
  rw[hk]at h k;dsimp only at h k;cases g:bl[b]? with
  | none=>rw[g]at k;cases k
  | some e =>
   rw[g]at h;split at h
   ·rename_i b' off vs hx hy
    dsimp only at h;cases f:(T' == T && b' == b && vs.size == n && (off+n).ble e.before.length && vs.toList.all (·.oneCell')) with
    | false=>rw[f]at h;cases h
    | true =>
     rw[f]at h;have l:some (rep e.before off vs.toList)=some e.after:=h;simp only[UN,beq_iff_eq,yB8]at f;obtain⟨⟨⟨⟨rfl,rfl⟩,q⟩,d⟩,p⟩:=f;have c:vs.toList.length=n:=by rw[UL];exact q
     refine fA b' off hk e g T' (.tmp x) (.tmp y) vs.toList ho hdn (λ_ _ K=>mT hx K) (λ_ _ K=>?_) (by rw[c];exact d) (λj=>?_) (by rw[c];exact m) p
     ·rw[Array.toArray_toList];exact mT hy K
     ·rw[<-UP.inj l,rep_at (by rw[c];exact d)]
   ·cases h
 ·rw[<-h]at k;cases k
def aft(pu:List (Nat × Nat × List Uv))(b:Nat)(c:List Uv):List Uv:=match pu.find? (λx=>x.1 == b) with|some x=>x.2.2|none=>c
def sto(pu:List (Nat × Nat × List Uv))(b:Nat):Option Nat:=(pu.find? (λx=>x.1 == b)).map (·.2.1)
def olB(pu:List (Nat × Nat × List Uv)):Nat->List (List Uv)->List Bl
 | _,[]=>[]
 | b,c :: r=>⟨c,aft pu b c,none,sto pu b⟩ :: olB pu (b+1) r
def mkB(pu:List (Nat × Nat × List Uv)):Nat->List (Nat × List Uv)->List Bl
 | _,[]=>[]
 | b,c :: r=>⟨c.2,aft pu b c.2,some c.1,sto pu b⟩ :: mkB pu (b+1) r
def bls(cs:List (List Uv))(mk:List (Nat × List Uv))(pu:List (Nat × Nat × List Uv)):List Bl:=olB pu 0 cs++mkB pu cs.length mk
theorem qY(pu:List (Nat × Nat × List Uv)):∀(cs:List (List Uv)) (b:Nat),(olB pu b cs).length=cs.length
 | [],_=>rfl
 | c :: r,b=>by rw[olB,Vg,qY pu r,Vg]
theorem EY(pu:List (Nat × Nat × List Uv)):∀(cs:List (Nat × List Uv)) (b:Nat),(mkB pu b cs).length=cs.length
 | [],_=>rfl
 | c :: r,b=>by rw[mkB,Vg,EY pu r,Vg]
theorem wY(pu:List (Nat × Nat × List Uv)):∀(cs:List (List Uv)) (b:Nat),(olB pu b cs).map (·.before)=cs
 | [],_=>rfl
 | c :: r,b=>by rw[olB,X4,wY pu r]
theorem xF(pu:List (Nat × Nat × List Uv)):∀(cs:List (Nat × List Uv)) (b:Nat),(mkB pu b cs).map (·.before)=cs.map (·.2)
 | [],_=>rfl
 | c :: r,b=>by rw[mkB,X4,xF pu r,X4]
theorem EQ(pu:List (Nat × Nat × List Uv)):∀(cs:List (List Uv)) (b j:Nat) (e:Bl),(olB pu b cs)[j]? = some e->e.al=none/\e.after=aft pu (b+j) e.before/\e.st=sto pu (b+j)
 | [],_,_,_,h=>by simp[olB]at h
 | c :: r,b,0,e,h=>by
  rw[olB,Vl]at h;obtain rfl:=UP.inj h;exact⟨rfl,rfl,rfl⟩
 | c :: r,b,j+1,e,h=>by
  rw[olB,Vf]at h;have:=EQ pu r (b+1) j e h;rwa[show b+1+j=b+(j+1) by omega]at this
theorem EZ(pu:List (Nat × Nat × List Uv)):∀(cs:List (Nat × List Uv)) (b j:Nat) (e:Bl),(mkB pu b cs)[j]? = some e->(∃x∈cs,e.al=some x.1)/\e.after=aft pu (b+j) e.before/\e.st=sto pu (b+j)
 | [],_,_,_,h=>by simp[mkB]at h
 | c :: r,b,0,e,h=>by
  rw[mkB,Vl]at h;obtain rfl:=UP.inj h;exact⟨⟨c,Vo,rfl⟩,rfl,rfl⟩
 | c :: r,b,j+1,e,h=>by
  rw[mkB,Vf]at h;obtain⟨⟨x,hx,k⟩,d⟩:=EZ pu r (b+1) j e h;refine⟨⟨x,Vd _ hx,k⟩,?_⟩;rwa[show b+1+j=b+(j+1) by omega]at d
variable {cs cs':List (List Uv)}{mk:List (Nat × List Uv)}{pu:List (Nat × Nat × List Uv)}{ks:List Nat}
theorem Bp:(bls cs mk pu).length=cs.length+mk.length:=by rw[bls,UB,qY,EY]
theorem yO:(bls cs mk pu).map (·.before)=cs++mk.map (·.2):=by rw[bls,Wx,wY,xF]
theorem vM{b:Nat}{e:Bl}(h:(bls cs mk pu)[b]? = some e):e.after=aft pu b e.before/\e.st=sto pu b/\((b<cs.length/\e.al=none)\/(cs.length<=b/\∃x∈mk,e.al=some x.1)):=by
 unfold bls at h;by_cases k:b<cs.length
 ·rw[UX (by rw[qY];exact k)]at h;have:=EQ pu cs 0 b e h;rw[UF]at this;exact⟨this.2.1,this.2.2,U6 ⟨k,this.1⟩⟩
 ·rw[U4 (by rw[qY];omega),qY]at h;have:=EZ pu mk cs.length (b-cs.length) e h;rw[show cs.length+(b-cs.length)=b by omega]at this;exact⟨this.2.1,this.2.2,U2 ⟨oM,this.1⟩⟩
theorem Aj:mR (bls cs mk pu) cs.length=true:=by
 simp only[mR,UN,decide_eq_true_eq];refine⟨Va.2 λx hx=>?_,by rw[Bp];omega⟩;rw[YK]at hx;rcases(vM hx).2.2 with⟨b,k⟩|⟨b,y,-,k⟩
 ·rw[k];simp[b]
 ·rw[k];simp;omega
def inB(m:Nat)(mk:List (Nat × List Uv))(pu:List (Nat × Nat × List Uv)):Bool:=mk.all (λx=>x.1.blt m) && pu.all (λx=>x.2.1.blt m)
theorem FN(h:inB its.length mk pu=true)(l:pu.map (λx=>x.2.2.length)=pu.map (λx=>(((cs++mk.map (·.2))[x.1]?).getD []).length)):
 (∀e∈bls cs mk pu,∀j,e.al=some j\/e.st=some j->j<its.length)/\∀e∈bls cs mk pu,e.fin.length=e.before.length:=by
 simp only[inB,UN]at h;refine⟨λe f j k=>?_,λe f=>?_⟩
 ·obtain⟨b,c⟩:=WS f;obtain⟨i,g,m⟩:=vM c;rcases k with k|k
  ·rcases m with⟨-,d⟩|⟨-,x,hx,d⟩
   ·rw[d]at k;cases k
   ·rw[d]at k;obtain rfl:=UP.inj k;have:=Va.1 h.1 x hx;exact Xt (VX this)
  ·rw[g]at k;unfold sto at k;obtain⟨x,hx,rfl⟩:=UA.1 k;have:=Va.1 h.2 x (WW hx);exact Xt (VX this)
 ·obtain⟨b,c⟩:=WS f;obtain⟨i,g,-⟩:=vM c;unfold Bl.fin;rw[g,i];unfold sto aft;cases d:pu.find? (λx=>x.1 == b) with
  | none=>rfl
  | some x =>
   show x.2.2.length=_;have n:=WW d;have hx:x.1=b:=by simpa using Ym d
   have m:=ZH.1 l x n;rw[m,<-yO (pu:=pu),hx,Vy,c];rfl
def lk(k:List It)(b:List (WF × SV))(t:WF):Option SV:=
 match k.find? (λit=>it.dst == some t) with
 | some it=>some it.out
 | none=>(b.find? (λx=>x.1 == t)).map (·.2)
structure M(w0:Ut)(k0:Nat)(X:List Nat)(n:Nat)(cs:List (List Uv))(ks:List Nat)(os:List (WF × SV))(a:Act)(w:Ut):Prop where
 st:St w0 k0 X cs ks w
 sl:Sl a n
 os:Olds a (ad ks) os
def All:Nat->(List Nat->Prop)->Prop
 | 0,f=>f []
 | n+1,f=>∀k:Nat,All n λl=>f (k :: l)
theorem All.get:∀ {n:Nat}{f:List Nat->Prop},All n f->∀l:List Nat,l.length=n->f l
 | 0,f,h,l,hl=>by rw[List.length_eq_zero_iff.1 hl];exact h
 | n+1,f,h,[],hl=>by simp at hl
 | n+1,f,h,k :: l,hl=>All.get (h k) l (by simpa using hl)
theorem Ni{s:SV}{new:List Nat}(h:∀b,s.blk=some b->b<ks.length):s.at (ad (ks++new))=s.at (ad ks):=SV.at_congr λb k=>by
 unfold ad;rw[VW,VW,UX (h b k)]
theorem Olds.mk'{μ:Nat->Nat}:∀ {l:List (WF × SV)},(∀x∈l,a.tmps[x.1]? = some (x.2.at μ))->Olds a μ l
 | [],_=>trivial
 | x :: r,h=>⟨h x Vo,Olds.mk' λy k=>h y (Vd _ k)⟩
theorem M.next{d:List (WF × SV)}{new:List Nat}{w':Ut}(h:M w0 k0 X n cs ks os a w)(k:allB ops its (bls cs mk pu) os n=true)(m:(d.map λx=>lk its os x.1)=d.map λx=>some x.2)
 (C:St w0 k0 X cs' (ks++new) w'):M w0 k0 X n cs' (ks++new) d (puts (ad (ks++new)) its a) w':=by
 refine⟨C,h.sl.puts,Olds.mk' λx hx=>?_⟩;have f:=ZH.1 m x hx;simp only[allB,UN,beq_iff_eq]at k;obtain⟨⟨⟨⟨v,hd⟩,l⟩,q⟩,u⟩:=k;unfold lk at f;cases hf:its.find? (λit=>it.dst == some x.1) with
 | some it =>
  rw[hf]at f;have i:=WW hf;have g:it.dst=some x.1:=by simpa using Ym hf
  obtain⟨j,o⟩:=WS i;have c:=Va.1 q it i;rw[g]at c;have:=rV (ad (ks++new)) its a j it x.1 hd o g (by rw[h.sl.size];simpa using c);rw[this,<-UP.inj f]
 | none =>
  rw[hf]at f;obtain⟨y,t,g⟩:=UA.1 f;have i:=WW t;have p:y.1=x.1:=by simpa using Ym t
  have D:=h.os.get y.1 y.2 i;rw[lW _ its a x.1 (λit r s=>by
   have:=List.find?_eq_none.1 hf it r;rw[s]at this;simp at this),<-p,D,<-g]
  congr 1
  refine(Ni λb E=>?_).symm;have c:=Va.1 l y i;rw[E]at c;dsimp only at c;cases o:(bls cs mk pu)[b]? with
  | none=>rw[o]at c;cases c
  | some e =>
   rw[o]at c;rcases(vM o).2.2 with⟨A,-⟩|⟨-,z,-,B⟩
   ·rw[h.st.len];exact A
   ·dsimp only at c;rw[B]at c;simp at c
theorem M.reg(h:M w0 k0 X n cs ks os a w)(k:allB ops its (bls cs mk pu) os n=true)(b:Certs P Q w0 k0 X ops its (bls cs mk pu) os 0 ops.toList its):Reg P ops Q w0 k0 X its (bls cs mk pu) os a (ad ks):=
 Reg.mk' (by rw[h.sl.size];exact k) h.os b
theorem CO:((bls cs mk pu).map (·.before)).take cs.length=cs:=by rw[yO,List.take_left'];rfl
theorem M.tx(h:M w0 k0 X n cs ks os a w)(k:List It)(mk:List (Nat × List Uv))(pu:List (Nat × Nat × List Uv))(c:List (List Uv))(b:List (WF × SV))
 (e:(allB ops k (bls cs mk pu) os n && inB k.length mk pu,(bls cs mk pu).map Bl.fin,b.map λx=>lk k os x.1)=(true,c,b.map λx=>some x.2))
 (p:pu.map (λx=>x.2.2.length)=pu.map (λx=>(((cs++mk.map (·.2))[x.1]?).getD []).length))
 (o:Certs P Q w0 k0 X ops k (bls cs mk pu) os 0 ops.toList k)
 (i:All mk.length λnew=>∀d w',M w0 k0 X n c (ks++new) b d w'->Q .normal d w'):(V3 id ops false).wp P Q a w:=by
 simp only[We.injEq,UN]at e;obtain⟨⟨d,m⟩,g,j⟩:=e;refine region_text' h.st (h.reg d o) Aj CO (FN m p) λnew w' f l=>?_
 rw[Bp,WH]at f;exact i.get new f _ _ (h.next d j (g ▸ l))
theorem M.dr(h:M w0 k0 X n cs ks os a w)(q:P.follows .mixedOrders=true)(k:List It)(mk:List (Nat × List Uv))(pu:List (Nat × Nat × List Uv))(c:List (List Uv))(b:List (WF × SV))
 (e:(allB ops k (bls cs mk pu) os n && inB k.length mk pu,(bls cs mk pu).map Bl.fin,b.map λx=>lk k os x.1)=(true,c,b.map λx=>some x.2))
 (p:pu.map (λx=>x.2.2.length)=pu.map (λx=>(((cs++mk.map (·.2))[x.1]?).getD []).length))
 (o:Certs P Q w0 k0 X ops k (bls cs mk pu) os 0 ops.toList k)
 (i:All mk.length λnew=>∀d w',M w0 k0 X n c (ks++new) b d w'->Q .normal d w'):(V3 id ops true).wp P Q a w:=by
 simp only[We.injEq,UN]at e;obtain⟨⟨d,m⟩,g,j⟩:=e;refine region_draws' q h.st (h.reg d o) Aj CO (FN m p) λnew w' f l=>?_
 rw[Bp,WH]at f;exact i.get new f _ _ (h.next d j (g ▸ l))
theorem Nh:(bls cs [] []).map Bl.fin=cs:=by
 have h:∀(cs:List (List Uv)) (b:Nat),(olB [] b cs).map Bl.fin=cs:=λcs=>by
  induction cs with
  | nil=>intro _;rfl
  | cons c r ih=>intro b;rw[olB,X4,ih];rfl
 rw[bls,Wx,h];exact XC _
theorem M.tx0(h:M w0 k0 X n cs ks os a w)(k:List It)(b:List (WF × SV))(d:(allB ops k (bls cs [] []) os n,b.map λx=>lk k os x.1)=(true,b.map λx=>some x.2))
 (e:Certs P Q w0 k0 X ops k (bls cs [] []) os 0 ops.toList k) (f:∀c w',M w0 k0 X n cs ks b c w'->Q .normal c w'):(V3 id ops false).wp P Q a w:=by
 simp only[We.injEq]at d;refine h.tx k [] [] cs b (by simp only[d.1,d.2,Nh];rfl) rfl e (λc w' g=>f c w' ?_);rwa[XC]at g
theorem M.t(h:M w0 k0 X n cs ks os a w)(k:List It)(mk:List (Nat × List Uv))(pu:List (Nat × Nat × List Uv))(c:List (List Uv))(b:List (WF × SV))(e:Certs P Q w0 k0 X ops k (bls cs mk pu) os 0 ops.toList k)(g:All mk.length λnew=>∀d w',M w0 k0 X n c (ks++new) b d w'->Q .normal d w')(i:(allB ops k (bls cs mk pu) os n && inB k.length mk pu,(bls cs mk pu).map Bl.fin,b.map λx=>lk k os x.1)=(true,c,b.map λx=>some x.2):=by kernel_rfl)(f:pu.map (λx=>x.2.2.length)=pu.map (λx=>(((cs++mk.map (·.2))[x.1]?).getD []).length):=by kernel_rfl):(V3 id ops false).wp P Q a w:=h.tx k mk pu c b i f e g
theorem M.d(h:M w0 k0 X n cs ks os a w)(k:List It)(mk:List (Nat × List Uv))(pu:List (Nat × Nat × List Uv))(c:List (List Uv))(b:List (WF × SV))(e:Certs P Q w0 k0 X ops k (bls cs mk pu) os 0 ops.toList k)(g:All mk.length λnew=>∀d w',M w0 k0 X n c (ks++new) b d w'->Q .normal d w')(i:(allB ops k (bls cs mk pu) os n && inB k.length mk pu,(bls cs mk pu).map Bl.fin,b.map λx=>lk k os x.1)=(true,c,b.map λx=>some x.2):=by kernel_rfl)(f:pu.map (λx=>x.2.2.length)=pu.map (λx=>(((cs++mk.map (·.2))[x.1]?).getD []).length):=by kernel_rfl)(j:P.follows .mixedOrders=true:=by kernel_rfl):(V3 id ops true).wp P Q a w:=h.dr j k mk pu c b i f e g
theorem M.u(h:M w0 k0 X n cs ks os a w)(k:List It)(b:List (WF × SV))(d:Certs P Q w0 k0 X ops k (bls cs [] []) os 0 ops.toList k)(e:∀c w',M w0 k0 X n cs ks b c w'->Q .normal c w')(f:(allB ops k (bls cs [] []) os n,b.map λx=>lk k os x.1)=(true,b.map λx=>some x.2):=by kernel_rfl):(V3 id ops false).wp P Q a w:=h.tx0 k b f d e
theorem M.at(h:M w0 k0 X n cs ks os a w){s:SV}(c:(os.find? (λx=>x.1 == t)).map (·.2)=some s:=by kernel_rfl):a.tmps[t]? = some (s.at (ad ks)):=by
 obtain⟨y,b,rfl⟩:=UA.1 c;have k:y.1=t:=by simpa using Ym b
 rw[<-k];exact h.os.get y.1 y.2 (WW b)
theorem St.made{w w':Ut}{cs:List (List Uv)}{ks:List Nat}(h:St w w.heap.size [] cs ks w'){b:Nat}{c:List Uv}(d:cs[b]? = some c):Made w (ad ks b) c w':=by
 obtain⟨f,g,e,k⟩:=h.has b c d;exact⟨h.bel.below,k.elim id (λh=>absurd h U1),e,f,g⟩
theorem M.av(h:M w0 k0 X n cs ks os a w){v:Uv}(k:(os.find? (λx=>x.1 == t)).map (·.2)=some (.v v):=by kernel_rfl):a.tmps[t]? = some v:=h.at k
theorem M.ev(h:M w0 k0 X n cs ks os a w){v:Uv}(k:(os.find? (λx=>x.1 == t)).map (·.2)=some (.v v):=by kernel_rfl):a.eval (.tmp t)=v:=A8 (h.at k)
theorem M.enter{c:Code}(k:List (WF × SV))(n:Nat)(h:(k.map λx=>a.tmps[x.1]?,a.tmps.size,a.defers)=(k.map λx=>some (x.2.at (ad [])),n,[]))(b:∀a,M w w.heap.size [] n [] [] k a w->c.wp P Q a w):c.wp P Q a w:=by
 simp only[We.injEq]at h;exact b a ⟨St.begin w,⟨h.2.1,h.2.2⟩,Olds.mk' λx hx=>ZH.1 h.1 x hx⟩
theorem M.drop{i w:Ut}{n:Nat}{X:List Nat}{cs cs2:List (List Uv)}{ks ks2:List Nat}{g:List (WF × SV)}{a:Act}(h:M i j X n (cs++cs2) (ks++ks2) g a w)(m:ks.length=cs.length)
 (ho:g.all (λx=>match x.2.blk with|none=>true|some b=>b.blt cs.length)=true):M i j X n cs ks g a w:=by
 have k:∀b,b<cs.length->ad (ks++ks2) b=ad ks b:=λb d=>by
  unfold ad;rw[VW,VW,UX oM]
 refine⟨⟨h.st.bel,h.st.le,m,λb c d=>?_,λb c d l f=>?_⟩,h.sl,Olds.mk' λx hx=>?_⟩
 ·have e:=(UG.1 d).1;have:=h.st.has b c (by rw[UX e];exact d);rwa[k b e]at this
 ·have:=h.st.inj b c (by rw[UB];omega) (by rw[UB];omega) f;rwa[k b d,k c l]at this
 ·rw[h.os.get x.1 x.2 hx]
  congr 1
  refine SV.at_congr λb d=>?_
  have e:=Va.1 ho x hx;rw[d]at e;exact k b (Xt (VX e))
abbrev z(n:Nat):List Uv:=VG n (uZ 0)
def It.s(d:WF)(k:List (WF × Nat))(b:SV):It:=⟨some d,k,b,.stay⟩
def It.x(d:WF)(k:List (WF × Nat))(v:Uv):It:=⟨some d,k,.v v,.stay⟩
def It.c(d:WF)(k:List (WF × Nat))(v:Uv):It:=⟨some d,k,.v v,.call⟩
def It.u(k:List (WF × Nat))(b:Nat):It:=⟨none,k,.v WJ,.put b⟩
end RG
namespace RG
open Go Go.RowKit
variable {P:VD}{ops:Array Vk}{Q:X9->Act->Ut->Prop}{w0 w:Ut}{k0 n:Nat}{X ks:List Nat}{cs:List (List Uv)}{os:List (WF × SV)}{a:Act}
inductive Hh where
 | x (v:Uv)
 | c (v:Uv)
 | s (v:SV)
 | m (b:Nat)
 | u (b:Nat)
def nd(k:Array Vk)(i:Nat):List (WF × Nat):=
 match k[i]? with
 | none=>[]
 | some o=>o.op.operands.toList.filterMap λx=>match x with
  | .tmp t=>((VB i).find? λj=>match k[j]? with|some p=>p.dst == some t && dB o j|none=>false).map λj=>(t,j)
  | _=>none
def dt(k:Array Vk)(i:Nat):Option WF:=(k[i]?).bind (·.dst)
def Hh.it(k:Array Vk)(i:Nat):Hh->It
 | .x v=>⟨dt k i,nd k i,.v v,.stay⟩
 | .c v=>⟨dt k i,nd k i,.v v,.call⟩
 | .s v=>⟨dt k i,nd k i,v,.stay⟩
 | .m b=>⟨dt k i,nd k i,.p b 0,.make b⟩
 | .u b=>⟨none,nd k i,.v WJ,.put b⟩
def mkL(k:Array Vk):Nat->List Hh->List It
 | _,[]=>[]
 | i,h :: r=>h.it k i :: mkL k (i+1) r
def kps(k:List It)(b:List (WF × SV))(l:List WF):List (WF × SV):=l.filterMap λt=>(lk k b t).map λs=>(t,s)
theorem M.U(h:M w0 k0 X n cs ks os a w)(k:List Hh)(b:List WF)(d:Certs P Q w0 k0 X ops (mkL ops 0 k) (bls cs [] []) os 0 ops.toList (mkL ops 0 k))(e:∀c w',M w0 k0 X n cs ks (kps (mkL ops 0 k) os b) c w'->Q .normal c w')(f:(allB ops (mkL ops 0 k) (bls cs [] []) os n,(kps (mkL ops 0 k) os b).map λx=>lk (mkL ops 0 k) os x.1)=(true,(kps (mkL ops 0 k) os b).map λx=>some x.2):=by kernel_rfl):(V3 id ops false).wp P Q a w:=h.u _ _ d e f
theorem M.T(h:M w0 k0 X n cs ks os a w)(k:List Hh)(mk:List (Nat × List Uv))(pu:List (Nat × Nat × List Uv))(b:List (List Uv))(c:List WF)(e:Certs P Q w0 k0 X ops (mkL ops 0 k) (bls cs mk pu) os 0 ops.toList (mkL ops 0 k))(f:All mk.length λnew=>∀d w',M w0 k0 X n b (ks++new) (kps (mkL ops 0 k) os c) d w'->Q .normal d w')(i:(allB ops (mkL ops 0 k) (bls cs mk pu) os n && inB (mkL ops 0 k).length mk pu,(bls cs mk pu).map Bl.fin,(kps (mkL ops 0 k) os c).map λx=>lk (mkL ops 0 k) os x.1)=(true,b,(kps (mkL ops 0 k) os c).map λx=>some x.2):=by kernel_rfl)(g:pu.map (λx=>x.2.2.length)=pu.map (λx=>(((cs++mk.map (·.2))[x.1]?).getD []).length):=by kernel_rfl):(V3 id ops false).wp P Q a w:=h.t _ mk pu b _ e f i g
theorem M.D(h:M w0 k0 X n cs ks os a w)(k:List Hh)(mk:List (Nat × List Uv))(pu:List (Nat × Nat × List Uv))(b:List (List Uv))(c:List WF)(e:Certs P Q w0 k0 X ops (mkL ops 0 k) (bls cs mk pu) os 0 ops.toList (mkL ops 0 k))(f:All mk.length λnew=>∀d w',M w0 k0 X n b (ks++new) (kps (mkL ops 0 k) os c) d w'->Q .normal d w')(i:(allB ops (mkL ops 0 k) (bls cs mk pu) os n && inB (mkL ops 0 k).length mk pu,(bls cs mk pu).map Bl.fin,(kps (mkL ops 0 k) os c).map λx=>lk (mkL ops 0 k) os x.1)=(true,b,(kps (mkL ops 0 k) os c).map λx=>some x.2):=by kernel_rfl)(g:pu.map (λx=>x.2.2.length)=pu.map (λx=>(((cs++mk.map (·.2))[x.1]?).getD []).length):=by kernel_rfl)(j:P.follows .mixedOrders=true:=by kernel_rfl):(V3 id ops true).wp P Q a w:=h.d _ mk pu b _ e f i g j
end RG
namespace NT
def IsP(n:Nat):Prop:=2<=n/\∀m,m ∣ n->m=1\/m=n
theorem IsP.cop{p k:Nat}(h:IsP p)(b:0<k)(c:k<p):ZY p k:=by
 unfold ZY;rcases h.2 _ (ZU p k)with e|e
 ·exact e
 ·have:=Yl b (ZK p k);omega
theorem IsP.cop_of{p k:Nat}(h:IsP p)(b:¬p ∣ k):ZY p k:=by
 unfold ZY;rcases h.2 _ (ZU p k)with e|e
 ·exact e
 ·exact absurd (e ▸ ZK p k) b
theorem IsP.euclid{p a b:Nat}(h:IsP p)(hd:p ∣ a*b):p ∣ a\/p ∣ b:=by
 by_cases k:p ∣ a
 ·exact U6 k
 ·exact U2 ((h.cop_of k).dvd_of_dvd_mul_left hd)
/-! the binomials -/
def ch: Nat -> Nat -> Nat
  | _, 0 => 1
  | 0, _ + 1 => 0
  | n + 1, k + 1 => ch n k + ch n (k + 1)
theorem rH(n:Nat):ch n 0=1:=by cases n<;>rfl
theorem rI:∀(n k:Nat),n<k->ch n k=0
 | 0,k+1,_=>rfl
 | n+1,k+1,h=>by
  rw[ch,rI n k oM,rI n (k+1) oM]
theorem FD:∀(n:Nat),ch n n=1
 | 0=>rfl
 | n+1=>by rw[ch,FD n,rI n (n+1) oM]
theorem vF:∀(n k:Nat),(k+1)*ch (n+1) (k+1)=(n+1)*ch n k
 | 0,0=>rfl
 | 0,k+1=>by simp[ch]
 | n+1,0=>by
  have h:=vF n 0;have e:ch (n+1+1) (0+1)=ch (n+1) 0+ch (n+1) (0+1):=rfl;rw[rH]at h;rw[e,rH];omega
 | n+1,k+1=>by
  have b:=vF n k;have c:=vF n (k+1);have e:ch (n+1+1) (k+1+1)=ch (n+1) (k+1)+ch (n+1) (k+1+1):=rfl;have e3:ch (n+1) (k+1)=ch n k+ch n (k+1):=rfl;rw[e,YI,c];have:(k+1+1)*ch (n+1) (k+1)=(n+1)*ch n k+ch (n+1) (k+1):=by
   rw[<-b,XH (k+1) 1,Xj]
  rw[this,e3,XH (n+1) 1,Xj,YI];omega
def sumTo:Nat->(Nat->Nat)->Nat
 | 0,_=>0
 | n+1,f=>sumTo n f+f n
theorem sumTo_congr(f g:Nat->Nat):∀n,(∀k,k<n->f k=g k)->sumTo n f=sumTo n g
 | 0,_=>rfl
 | n+1,h=>by
  rw[sumTo,sumTo,sumTo_congr f g n (λk b=>h k oM),h n oM]
theorem zF(f g:Nat->Nat):∀n,sumTo n (λk=>f k+g k)=sumTo n f+sumTo n g
 | 0=>rfl
 | n+1=>by simp only[sumTo];rw[zF f g n];omega
theorem zD(a:Nat)(f:Nat->Nat):∀n,sumTo n (λk=>a*f k)=a*sumTo n f
 | 0=>rfl
 | n+1=>by simp only[sumTo];rw[zD a f n,YI]
theorem jW(f:Nat->Nat):∀n,sumTo (n+1) f=f 0+sumTo n (λk=>f (k+1))
 | 0=>by simp[sumTo]
 | n+1=>by rw[sumTo,jW f n];simp only[sumTo];omega
theorem zE(p:Nat)(f:Nat->Nat):∀n,(∀k,k<n->p ∣ f k)->p ∣ sumTo n f
 | 0,_=>Nat.dvd_zero p
 | n+1,h=>Nat.dvd_add (zE p f n (λk b=>h k oM)) (h n oM)
theorem NZ(a:Nat):∀n,(a+1)^n=sumTo (n+1) (λk=>ch n k*a^k)
 | 0=>by simp[sumTo,ch]
 | n+1=>by
  rw[V8,NZ a n,YI,XY];rw[jW (λk=>ch (n+1) k*a^k) (n+1)];have e:sumTo (n+1) (λk=>ch (n+1) (k+1)*a^(k+1))
   = sumTo (n+1) (λk=>a*(ch n k*a^k))+sumTo (n+1) (λk=>ch n (k+1)*a^(k+1)):=by
   rw[<-zF];refine sumTo_congr _ _ _ ?_;intro k _;show(ch n k+ch n (k+1))*a^(k+1)=_;rw[XH,V8];have:ch n k*(a^k*a)=a*(ch n k*a^k):=by
    rw[Vv a,XK]
   rw[this]
  rw[e,zD];have c:sumTo (n+1) (λk=>ch n k*a^k)
   = ch n 0*a^0+sumTo n (λk=>ch n (k+1)*a^(k+1)):=jW (λk=>ch n k*a^k) n
  have e3:sumTo (n+1) (λk=>ch n (k+1)*a^(k+1))=sumTo n (λk=>ch n (k+1)*a^(k+1)):=by
   rw[sumTo,rI n (n+1) oM,ZW,Xm]
  have b:ch (n+1) 0*a^0=ch n 0*a^0:=by rw[rH,rH]
  rw[e3,b,Vv _ a];omega
theorem IsP.ch_dvd{p k:Nat}(h:IsP p)(b:k+1<p):p ∣ ch p (k+1):=by
 obtain⟨n,rfl⟩:∃n,p=n+1:=⟨p-1,by have:=h.1;omega⟩
 have e:=vF n k;have hd:(n+1) ∣ (k+1)*ch (n+1) (k+1):=e ▸ Nat.dvd_mul_right _ _;exact(h.cop oM b).dvd_of_dvd_mul_left hd
theorem IsP.frob{p:Nat}(h:IsP p)(a:Nat):(a+1)^p%p=(a^p+1)%p:=by
 obtain⟨n,rfl⟩:∃n,p=n+1:=⟨p-1,by have:=h.1;omega⟩
 rw[NZ,sumTo,jW,FD,rH];obtain⟨c,b⟩:(n+1) ∣ sumTo n (λk=>ch (n+1) (k+1)*a^(k+1)):=
  zE _ _ _ (λk d=>Nat.dvd_mul_right_of_dvd (h.ch_dvd oM) _)
 rw[b];have:1*a^0+(n+1)*c+1*a^(n+1)=(a^(n+1)+1)+(n+1)*c:=by
  rw[YS];omega
 rw[this,Y1]
theorem IsP.fermat{p:Nat}(h:IsP p):∀a,a^p%p=a%p
 | 0=>by
  rw[yBO (by have:=h.1;omega)]
 | a+1=>by
  rw[h.frob,Ze,h.fermat a,<-Ze]
theorem IsP.cancel{p a x y:Nat}(h:IsP p)(d:¬p ∣ a)(e:a*x%p=a*y%p):x%p=y%p:=by
 have key:∀x y,y<=x->a*x%p=a*y%p->x%p=y%p:=by
  intro x y k e;have b:=XR (Nat.sub_mod_eq_zero_of_mod_eq e);rw[<-Nat.mul_sub]at b;obtain⟨c,f⟩:=(h.cop_of d).dvd_of_dvd_mul_left b;have:x=y+p*c:=oM;rw[this,Y1]
 rcases yBP y x with k|k
 ·exact key x y k e
 ·exact(key y x k e.symm).symm
theorem IsP.fermat1{p:Nat}(h:IsP p)(a:Nat)(k:¬p ∣ a):a^(p-1)%p=1:=by
 obtain⟨n,rfl⟩:∃n,p=n+1:=⟨p-1,by have:=h.1;omega⟩
 have e:=h.fermat a;rw[V8,Vv]at e;have:=h.cancel k (x:=a^n) (y:=1) (by rw[e,XY]);rw[Nat.add_sub_cancel,this,UU h.1]
/-! powers that are 1 -/
theorem Mh(b r : Nat)(hr : 1<r)(x y : Nat): b^x%r=1 -> b^y%r=1 -> b^(yA7 x y)%r=1:=by
  induction x, y using yA7.induction with
  | H0 n => intro _ h; rw[Nat.gcd_zero_left]; exact h
  | H1 m n hm ih =>
    intro h1 h2;rw[Nat.gcd_rec];refine ih ?_ h1;have e : b^n=(b^m)^(n/m) * b^(n%m):=by
      rw[<-ZX, <-Yh, YT]
    rw[e, Xz, yAI, h1, Nat.one_pow, UU hr, Xj, yAK]at h2;exact h2
theorem rG:∀n,2<=n->∃r,IsP r/\r ∣ n/\(IsP n\/r*r<=n):=by
 intro n;induction n using yBr with
 | _ n ih =>
  intro s;by_cases j:IsP n
  ·exact⟨n,j,Nat.dvd_refl n,U6 j⟩
  ·have:∃m,m ∣ n/\m≠1/\m≠n:=by
    refine WB λc=>j ⟨s,λm d=>?_⟩
    refine WB λb=>c ⟨m,d,λe=>b (U6 e),λe=>b (U2 e)⟩
   obtain⟨m,⟨k,d⟩,t,u⟩:=this;have o:m≠0:=by intro e;rw[e,ZW]at d;omega
   have p:k≠0:=by intro e;rw[e,Zn]at d;omega
   have q:k≠1:=by intro e;rw[e,XY]at d;omega
   have i:m<n:=by
    have:=Yl oM (⟨k,d⟩:m ∣ n);omega
   have g:k<n:=by
    have:=WX k (show 2<=m by omega);omega
   rcases yBP m k with f|f
   ·obtain⟨r,l,c,_⟩:=ih m i oM;have b:=Yl oM c;refine⟨r,l,Zx c ⟨k,d⟩,U2 ?_⟩;rw[d];exact WP b (UE b f)
   ·obtain⟨r,l,c,_⟩:=ih k g oM;have b:=Yl oM c;refine⟨r,l,Zx c ⟨m,by rw[d,Vv]⟩,U2 ?_⟩;rw[d];exact WP (UE b f) b
/-! what of a prime of n - 1 goes into the primes of n -/
theorem part{n a: Nat}(hq : IsP q)(hr : IsP r)(hrn : r ∣ n)(hn : 1<n)
    (h1 : a^(n-1)%n=1) (hd : q ∣ n-1) (h2 : yA7 (a^((n-1)/q)%n + (n-1)) n=1) : q ∣ r-1:=by
  have hr2:=hr.1;have toR : ∀x y, x%n=y%n -> x%r=y%r:=by
    intro x y e;rw[<-ZA x hrn, e, ZA y hrn]
  have hm : a^(n-1)%r=1:=by
    have:=toR (a^(n-1)) 1 (by rw[h1, UU hn]);rw[this, UU hr2]
  have hra : ¬r ∣ a:=by
    intro hc;have hz : a^(n-1)%r=0:=Yx (Zx hc (by
      have : a^1 ∣ a^(n-1):=yBs a oM;rwa[Y3]at this))
    omega
  have hb : (a^((n-1)/q))^q%r=1:=by
    rw[<-ZX, Nat.div_mul_cancel hd]; exact hm
  have hbr : ¬r ∣ a^((n-1)/q):=by
    intro hc;have : r ∣ (a^((n-1)/q))^q:=Zx hc (by
      have : (a^((n-1)/q))^1 ∣ (a^((n-1)/q))^q:=yBs _ (by have:=hq.1; omega);rwa[Y3]at this)
    have:=Yx this;omega
  have hg:=Mh _ r hr2 q (r-1) hb (hr.fermat1 _ hbr);rcases hq.2 _ (ZU q (r-1))with e|e
  · rw[e, Y3]at hg
    exfalso;have hx : r ∣ a^((n-1)/q)%n + (n-1):=by
      refine XR ?_;have e1 : (a^((n-1)/q)%n)%r=1:=by rw[ZA _ hrn]; exact hg
      have e2 : (n-1 + 1)%r=0:=by
        rw[Nat.sub_add_cancel oM]; exact Yx hrn
      have : (a^((n-1)/q)%n + (n-1))%r=(1 + (n-1))%r:=by
        rw[Ze, e1, Ze 1 (n-1), UU hr2]
      rw[this, yAS, e2]
    have:=Nat.dvd_gcd hx hrn;rw[h2]at this;have:=Yl oM this;omega
  · rw[<-e]; exact ZK _ _
theorem Cc{n f:Nat}(e:1<n)(hf:n<(f+1)*(f+1))
 (k:∀r,IsP r->r ∣ n->f ∣ r-1):IsP n:=by
 obtain⟨r,c,b,h|h⟩:=rG n e
 ·exact h
 ·have:=Yl (by have:=c.1;omega) (k r c b);have d:f+1<=r:=by have:=c.1;omega
  have:=WP d d;omega
/-! trial -/
def trial(n : Nat): Nat -> Nat -> Bool
  | 0, _ => true
  | k + 1, d => (n%d != 0) && trial n k (d + 1)
theorem BE(n:Nat):∀k d,trial n k d=true->∀m,d<=m->m<d+k->¬m ∣ n
 | 0,_,_,m,_,_=>oM
 | k+1,d,h,m,h1,h2=>by
  simp only[trial,UN,bne_iff_ne,ne_eq]at h;rcases VV d m with b|c
  ·exact BE n k (d+1) h.2 m b oM
  ·have:m=d:=oM;subst this;intro hd;exact h.1 (Yx hd)
theorem small{n k:Nat}(g:2<=n)(f:trial n k 2=true)(j:n<(k+2)*(k+2)):IsP n:=by
 obtain⟨r,d,b,h|h⟩:=rG n g
 ·exact h
 ·have e:=d.1;have c:r<2+k:=by
   refine WB λi=>?_
   have:=WP (show k+2<=r by omega) (show k+2<=r by omega);omega
  exact absurd b (BE n k 2 f r e c)
/-! powers, reckoned -/
def pm(n : Nat): Nat -> Nat -> Nat -> Nat -> Nat
  | 0, _, _, acc => acc
  | k + 1, a, e, acc => pm n k (a * a%n) (e/2) (if e%2=1 then acc * a%n else acc)
theorem EM(n:Nat):∀k a e b,e<2^k->b<n->pm n k a e b=b*a^e%n
 | 0,a,e,b,h,ha=>by
  have:e=0:=by simpa using h
  subst this;rw[pm,YS,XY,UU ha]
 | k+1,a,e,b,h,ha=>by
  have g:0<n:=oM;have c:(if e%2=1 then b*a%n else b)<n:=by
   split
   ·exact V6 _ g
   ·exact ha
  rw[pm,EM n k _ _ _ (by rw[V8]at h;omega) c];have d:∀y,y*(a*a%n)^(e/2)%n=y*(a*a)^(e/2)%n:=by
   intro y;rw[Xz,<-yAI,<-Xz]
  rw[d];have f:a^e=a^(e%2)*(a*a)^(e/2):=by
   have:(a*a)=a^2:=by rw[V8,Y3]
   rw[this,<-ZX,<-Yh,Nat.mod_add_div]
  rw[f];split
  ·rename_i h1
   rw[h1,Y3,Xz,yAK,<-Xz,XK]
  ·rename_i h1
   have:e%2=0:=oM;rw[this,YS,Xj]
theorem part'{n a k:Nat}(f:IsP q)(g:IsP r)(b:r ∣ n)(c:1<n)(i:n<2^k)
 (d:pm n k a (n-1) 1=1) (hd:(n-1)%q=0) (e:yA7 (pm n k a ((n-1)/q) 1+(n-1)) n=1):q ∣ r-1:=by
 rw[EM n k a (n-1) 1 oM c,Xj]at d;rw[EM n k a _ 1 (ZB (Z2 _ _) oM) c,Xj]at e;exact part f g b c d (XR hd) e
/-! the two primes -/
theorem x21: IsP 1627771:=small (k:=1275) dC dK dC
theorem x30:IsP 545358713:=small (k:=23352) dC dK dC
theorem x26:IsP 44706919:=small (k:=6686) dC dK dC
theorem x17:IsP 120233:=small (k:=346) dC dK dC
theorem x27:IsP 107590001:=small (k:=10372) dC dK dC
theorem x23:IsP 7240687:=small (k:=2690) dC dK dC
theorem x16:IsP 96557:=small (k:=310) dC dK dC
theorem x39:IsP 297159362677:=
 Cc (f:=1627771) dC dK (λr b hd=>part' (k:=39) (a:=2) x21 b hd dC dK dK dK dK)
theorem c95:IsP 29047611873442575647497758179:=
 Cc (f:=(545358713*297159362677)) dC dK (λr b hd=>Xc dK (part' (k:=95) (a:=2) x30 b hd dC dK dK dK dK) (part' (k:=95) (a:=2) x39 b hd dC dK dK dK dK))
theorem b68:IsP 174723607534414371449:=
 Cc (f:=(44706919*120233)) dC dK (λr b hd=>Xc dK (part' (k:=68) (a:=2) x26 b hd dC dK dK dK dK) (part' (k:=68) (a:=2) x17 b hd dC dK dK dK dK))
theorem c109:IsP 341948486974166000522343609283189:=
 Cc (f:=29047611873442575647497758179) dC dK (λr b hd=>part' (k:=109) (a:=2) c95 b hd dC dK dK dK dK)
theorem pN:IsP 115792089237316195423570985008687907852837564279074904382605163141518161494337:=
 Cc (f:=(174723607534414371449*341948486974166000522343609283189)) dC dK (λr b hd=>Xc dK (part' (k:=256) (a:=2) b68 b hd dC dK dK dK dK) (part' (k:=256) (a:=2) c109 b hd dC dK dK dK dK))
theorem e128:IsP 255515944373312847190720520512484175977:=
 Cc (f:=(107590001*7240687*96557)) dC dK (λr b hd=>Xc dK (Xc dK (part' (k:=128) (a:=2) x27 b hd dC dK dK dK dK) (part' (k:=128) (a:=2) x23 b hd dC dK dK dK dK)) (part' (k:=128) (a:=2) x16 b hd dC dK dK dK dK))
theorem TF:IsP 205115282021455665897114700593932402728804164701536103180137503955397371:=
 Cc (f:=255515944373312847190720520512484175977) dC dK (λr b hd=>part' (k:=237) (a:=2) e128 b hd dC dK dK dK dK)
theorem pP:IsP 115792089237316195423570985008687907853269984665640564039457584007908834671663:=
 Cc (f:=205115282021455665897114700593932402728804164701536103180137503955397371) dC dK (λr b hd=>part' (k:=256) (a:=2) TF b hd dC dK dK dK dK)
end NT
namespace EC
structure Line{P:Nat}[NeZero P](x1 y1 x2 y2 l:Fin P):Prop where
 go:y2=y1+l*(x2-x1)
 on:l*(y1+y2)=x1^2+x1*x2+x2^2
variable {P:Nat}[NeZero P]
theorem Ch(k b d f l c g:Fin P)(m:b^2=k^3+7)(n:f^2=d^3+7)(i:Line k b d f l)(hx:c=l^2-k-d)(j:g=l*(k-c)-b):g^2=c^3+7:=by
 obtain⟨e,h⟩:=i;subst j hx e
 grobner
theorem Nn(k i e d g f j l c m b n:Fin P)(t:Line k i e j g)(s:Line e j d l f)
 (u:c=g^2-k-e) (r:m=g*(k-c)-i) (q:b=f^2-e-d) (p:n=f*(e-b)-j) :
 ((m-l)^2-(c+d)*(c-d)^2)*(b-k)^2=((n-i)^2-(k+b)*(b-k)^2)*(c-d)^2:=by
 obtain⟨o,w⟩:=t;obtain⟨e3,v⟩:=s;subst r p u q e3 o
 grobner
theorem Nm(c f g k l j m e b i d n:Fin P)(t:Line c f g m l)(s:Line g m k e j)
 (u:b=l^2-c-g) (r:i=l*(c-b)-f) (q:d=j^2-g-k) (p:n=j*(g-d)-m) :
 ((i-e)^2-(k+b)*(b-k)^2)*((n-f)*(b-k)-(i-e)*(d-c))+(b-k)^2*(((i-e)*k-e*(b-k))*(d-c)-((n-f)*c-f*(d-c))*(b-k))=0:=by
 obtain⟨o,w⟩:=t;obtain⟨e3,v⟩:=s;subst r p u q e3 o
 grobner (ringSteps:=100000000)
theorem Kc(b i d k g f j e c l:Fin P)(r:Line b i d j g)(q:Line d j k e f)
 (s:k=g^2-b-d) (p:e=g*(b-k)-i) (o:c=f^2-d-k) (n:l=f*(d-c)-j) :
 (9*k^4-8*k*e^2)*(c-b)^2=((l-i)^2-(b+c)*(c-b)^2)*(4*e^2):=by
 obtain⟨m,u⟩:=r;obtain⟨e3,t⟩:=q;subst n o p s m
 grobner (ringSteps:=100000000)
theorem Kb(c f d b i g j k e l:Fin P)(r:Line c f d j i)(q:Line d j b k g)
 (s:b=i^2-c-d) (p:k=i*(c-b)-f) (o:e=g^2-d-b) (n:l=g*(d-e)-j) :
 (3*b^2*(b*(4*k^2)-(9*b^4-8*b*k^2))-2*k^2*(4*k^2))*(e-c)=((l-f)*(c*(4*k^2)-(9*b^4-8*b*k^2))-f*(e-c)*(4*k^2))*(2*k):=by
 obtain⟨m,u⟩:=r;obtain⟨e3,t⟩:=q;subst n o p s m
 grobner (ringSteps:=100000000)
end EC
namespace EC
variable {P:Nat}[NeZero P]
theorem val_zero:(0:Fin P).val=0:=by simp
theorem val_one(h:NT.IsP P):(1:Fin P).val=1:=by
 have k:=h.1;show 1%P=1;exact UU oM
theorem nzd(h:NT.IsP P){a b:Fin P}(e:a*b=0):a=0\/b=0:=by
 have c:a.val*b.val%P=0:=by
  have:=congrArg yBf e;rw[XO,val_zero]at this;exact this
 rcases h.euclid (XR c)with k|k
 ·exact U6 (Yi (by rw[val_zero];exact Y9 k a.isLt))
 ·exact U2 (Yi (by rw[val_zero];exact Y9 k b.isLt))
theorem cI(h:NT.IsP P){a b:Fin P}(c:a≠0)(k:b≠0):a*b≠0:=λe=>(nzd h e).elim c k
theorem cancel(h:NT.IsP P){a b c:Fin P}(d:a≠0)(e:b*a=c*a):b=c:=by
 have f:(b-c)*a=0:=by grobner
 rcases nzd h f with k|k
 ·grobner
 ·exact absurd k d
def inv(a:Fin P):Fin P:=Fin.ofNat P (a.val^(P-2))
theorem inv_mul(h:NT.IsP P){a:Fin P}(k:a≠0):inv a*a=1:=by
 apply Yi;have c:=h.1;have b:¬P ∣ a.val:=λhd=>k (Yi (by rw[val_zero];exact Y9 hd a.isLt))
 rw[XO,val_one h];show a.val^(P-2)%P*a.val%P=1;rw[yBu,<-V8,show(P-2).succ=P-1 by omega];exact h.fermat1 _ b
abbrev Pt(P:Nat):=Option (Fin P × Fin P)
def On:Pt P->Prop
 | none=>True
 | some (x,y)=>y^2=x^3+7
def neg:Pt P->Pt P
 | none=>none
 | some (x,y)=>some (x,-y)
def mV(k b c d:Fin P):Fin P:=if k=c then 3*k^2*inv (2*b) else(d-b)*inv (c-k)
def third(k c b l:Fin P):Pt P:=some (l^2-k-b,l*(k-(l^2-k-b))-c)
def add:Pt P->Pt P->Pt P
 | none,b=>b
 | a,none=>a
 | some (x1,y1),some (x2,y2)=>if x1=x2/\y2 = -y1 then none else third x1 y1 x2 (mV x1 y1 x2 y2)
theorem pU(h:NT.IsP P){x k b:Fin P}(c:k^2=x^3+7)(d:b^2=x^3+7)(ho:¬b = -k):b=k:=by
 have e:(b-k)*(b+k)=0:=by grobner
 rcases nzd h e with e|e
 ·grobner
 ·exact absurd (by grobner) ho
theorem v7{x k:Fin P}(h:NT.IsP P)(b:(2:Fin P)≠0)(ho:¬(x=x/\k = -k)):2*k≠0:=λe=>by
 rcases nzd h e with e|e
 ·exact b e
 ·exact ho ⟨rfl,by rw[e];grobner⟩
theorem bR(h:NT.IsP P)(j:(2:Fin P)≠0){k c b d:Fin P}(f:c^2=k^3+7)(i:d^2=b^3+7)(ho:¬(k=b/\d = -c)):Line k c b d (mV k c b d):=by
 unfold mV;by_cases hx:k=b
 ·subst hx;rw[yCk rfl];have l:=pU h f i (λe=>ho ⟨rfl,e⟩);subst l;have g:=inv_mul h (v7 h j ho);exact⟨by grobner,by grobner⟩
 ·rw[yCl hx];have hd:b-k≠0:=λe=>hx (by grobner)
  have g:=inv_mul h hd;refine⟨by grobner,cancel h hd (by grobner)⟩
theorem Co(h:NT.IsP P)(g:(2:Fin P)≠0){k c b d l m:Fin P}(f:c^2=k^3+7)(i:d^2=b^3+7)(ho:¬(k=b/\d = -c))(L:Line k c b d l)(M:Line k c b d m):l=m:=by
 obtain⟨n,b1⟩:=L;obtain⟨a2,o⟩:=M;by_cases hx:k=b
 ·subst hx;have j:=pU h f i (λe=>ho ⟨rfl,e⟩);subst j;exact cancel h (v7 h g ho) (by grobner)
 ·have hd:b-k≠0:=λe=>hx (by grobner)
  exact cancel h hd (by grobner)
theorem cD(h:NT.IsP P)(g:(2:Fin P)≠0){b k c d l:Fin P}(e:k^2=b^3+7)(f:d^2=c^3+7)(ho:¬(b=c/\d = -k))(L:Line b k c d l):add (some (b,k)) (some (c,d))=third b k c l:=by
 show(if b=c/\d = -k then none else third b k c (mV b k c d))=_;rw[yCl ho,Co h g e f ho (bR h g e f ho) L]
theorem jA{b k c d:Fin P}(ho:b=c/\d = -k):add (some (b,k)) (some (c,d))=none:=by
 show(if b=c/\d = -k then none else third b k c (mV b k c d))=_;rw[yCk ho]
theorem bK(a:Pt P):add a none=a:=by cases a<;>rfl
theorem Line.swap{c k e d l:Fin P}(L:Line c k e d l):Line e d c k l:=by
 obtain⟨a,b⟩:=L;exact⟨by grobner,by grobner⟩
theorem Db{k d c e l:Fin P}(L:Line k d c e l):third k d c l=third c e k l:=by
 obtain⟨a,b⟩:=L;unfold third;have g:l^2-k-c=l^2-c-k:=by grobner
 have f:l*(k-(l^2-k-c))-d=l*(c-(l^2-c-k))-e:=by grobner
 rw[f,g]
theorem add_comm(h:NT.IsP P)(f:(2:Fin P)≠0)(a b:Pt P)(c:On a)(k:On b):add a b=add b a:=by
 rcases a with _|⟨j,g⟩
 ·rw[bK];rfl
 ·rcases b with _|⟨i,l⟩
  ·rfl
  ·by_cases ho:j=i/\l = -g
   ·rw[jA ho,jA ⟨ho.1.symm,by rw[ho.2];grobner⟩]
   ·have d:¬(i=j/\g = -l):=λe=>ho ⟨e.1.symm,by rw[e.2];grobner⟩
    have L:=bR h f c k ho;rw[cD h f c k ho L,cD h f k c d L.swap,Db L]
theorem En(h:NT.IsP P)(i:(2:Fin P)≠0)(a b:Pt P)(c:On a)(k:On b):On (add a b):=by
 rcases a with _|⟨e,d⟩
 ·exact k
 ·rcases b with _|⟨g,f⟩
  ·exact c
  ·by_cases ho:e=g/\f = -d
   ·rw[jA ho];trivial
   ·have L:=bR h i c k ho;rw[cD h i c k ho L];exact Ch e d g f _ _ _ c k L rfl rfl
theorem cE{a:Pt P}(h:On a):On (neg a):=by
 rcases a with _|⟨x,y⟩
 ·trivial
 ·have k:y^2=x^3+7:=h;show(-y)^2=x^3+7
  grobner
theorem neg_neg'(a:Pt P):neg (neg a)=a:=by
 rcases a with _|⟨x,y⟩
 ·rfl
 ·show some (x,- -y)=some (x,y);have:- -y=y:=by grobner
  rw[this]
theorem add_neg(a:Pt P):add a (neg a)=none:=by
 rcases a with _|⟨x,y⟩
 ·rfl
 ·exact jA ⟨rfl,rfl⟩
theorem Line.neg{c k e d l:Fin P}(L:Line c k e d l):Line c (-k) e (-d) (-l):=by
 obtain⟨a,b⟩:=L;exact⟨by grobner,by grobner⟩
theorem neg_add(h:NT.IsP P)(m:(2:Fin P)≠0){a b:Pt P}(i:On a)(g:On b):neg (add a b)=add (neg a) (neg b):=by
 rcases a with _|⟨k,d⟩
 ·rfl
 ·rcases b with _|⟨c,f⟩
  ·rfl
  ·by_cases ho:k=c/\f = -d
   ·rw[jA ho];exact(jA ⟨ho.1,by rw[ho.2]⟩).symm
   ·have L:=bR h m i g ho;have j:¬(k=c/\-f = - -d):=λe=>ho ⟨e.1,by have:=e.2;grobner⟩
    rw[cD h m i g ho L];refine Eq.trans ?_ (cD h m (cE (a:=some (k,d)) i) (cE (a:=some (c,f)) g) j L.neg).symm;generalize mV k d c f=l;unfold third;show some (l^2-k-c,-(l*(k-(l^2-k-c))-d))=some ((-l)^2-k-c,-l*(k-((-l)^2-k-c)) - -d);have o:(-l)^2=l^2:=by grobner
    rw[o];have n:-(l*(k-(l^2-k-c))-d) = -l*(k-(l^2-k-c)) - -d:=by grobner
    rw[n]
theorem Line.back{k d e j l c f:Fin P}(L:Line k d e j l)(i:c=l^2-k-e)(g:f=l*(k-c)-d):Line k (-d) c f (-l):=by
 obtain⟨a,b⟩:=L;subst g i a;exact⟨by grobner,by grobner (ringSteps:=10000000)⟩
theorem Qf{c b k l:Fin P}(d:k=l^2-c-b):(-l)^2-c-k=b:=by
 subst d
 grobner
theorem Qe{d k b c l:Fin P}(a:c=b+l*(k-d)):-l*(d-k) - -b=c:=by
 subst a
 grobner
theorem O7{x y:Fin P}(z:y=0)(k:y^2=x^3+7):x^3+7=0:=by
 grobner
theorem Ci(h:NT.IsP P)(j:(2:Fin P)≠0)(w:∀x:Fin P,x^3+7≠0){b c:Pt P}(g:On b)(m:On c):add (neg b) (add b c)=c:=by
 rcases b with _|⟨d,f⟩
 ·rfl
 ·rcases c with _|⟨n,q⟩
  ·rw[bK];exact jA ⟨rfl,by grobner⟩
  ·have o:=g;have y:=m;by_cases ho:d=n/\q = -f
   ·rw[jA ho,bK,ho.1,ho.2];rfl
   ·have L:=bR h j g m ho;have k:=Ch d f n q _ _ _ g m L rfl rfl;rw[cD h j g m ho L];generalize mV d f n q=l at L k;obtain⟨i,p⟩:∃i,i=l^2-d-n:=⟨_,rfl⟩
    unfold third;rw[<-p]at k⊢;obtain⟨s,t⟩:∃s,s=l*(d-i)-f:=⟨_,rfl⟩
    rw[<-t]at k⊢;have M:=L.back p t;have a:=L.go;have r:¬(d=i/\s = - -f):=λe=>by
     obtain⟨u,v⟩:=e;have z:2*f=0:=by
      grobner
     rcases nzd h z with z|z
     ·exact j z
     ·exact w d (O7 z o)
    refine(cD h j (cE (a:=some (d,f)) g) k r M).trans ?_;unfold third;rw[Qf p,Qe a]
theorem Si(h:NT.IsP P){c k d b e j i l p g:Fin P}(f:d-k≠0)(n:b-c≠0)(o:i-j=p*(d-k))(m:l-e=g*(b-c))
 (hx:((i-j)^2-(d+k)*(d-k)^2)*(b-c)^2=((l-e)^2-(c+b)*(b-c)^2)*(d-k)^2):p^2-d-k=g^2-c-b:=by
 rw[o,m]at hx;clear o m;refine cancel h (cI h (cI h f f) (cI h n n)) ?_
 grobner
theorem Sg(h:NT.IsP P){d k c j l i m p g o X:Fin P}(n:c-k≠0)(u:j-d≠0)(v:m-i=g*(c-k))(s:p-l=o*(j-d))(t:g^2-c-k=X)
 (f:((m-i)^2-(k+c)*(c-k)^2)*((p-l)*(c-k)-(m-i)*(j-d))+(c-k)^2*(((m-i)*k-i*(c-k))*(j-d)-((p-l)*d-l*(j-d))*(c-k))=0):g*(c-X)-m=o*(d-X)-l:=by
 rw[v,s]at f;have w:m=i+g*(c-k):=by clear f t;grobner
 have q:c+k=g^2-X:=by clear f;grobner
 rw[w];obtain⟨a,y⟩:∃a,c-k=a:=⟨_,rfl⟩
 rw[y]at n f⊢;generalize j-d=b at u f;have r:(o*(d-X)-l-(g*(k-X)-i))*(a*a*a*b)=0:=by
  have x:k+c=g^2-X:=by rw[<-q];clear f;grobner
  rw[x]at f
  grobner
 rcases nzd h r with e|e
 ·have x:c=k+a:=by clear f r e q w t v s;grobner
  rw[x]
  grobner
 ·exact absurd e (cI h (cI h (cI h n n) n) u)
theorem Sz(h:NT.IsP P){c k b g d j f n:Fin P}(i:2*d≠0)(l:b-c≠0)(m:f*(2*d)=3*k^2)(o:j-g=n*(b-c))
 (hx:(9*k^4-8*k*d^2)*(b-c)^2=((j-g)^2-(c+b)*(b-c)^2)*(4*d^2)):f^2-k-k=n^2-c-b:=by
 rw[o]at hx;refine cancel h (cI h (cI h i i) (cI h l l)) ?_;have e:9*k^4=(f*(2*d))*(f*(2*d)):=by rw[m];clear hx m;grobner
 rw[e]at hx
 grobner
theorem Sy(h:NT.IsP P){c b g f k n d o X:Fin P}(j:2*k≠0)(r:g-c≠0)(i:d*(2*k)=3*b^2)(q:n-f=o*(g-c))(m:d^2-b-b=X)
 (l:(3*b^2*(b*(4*k^2)-(9*b^4-8*b*k^2))-2*k^2*(4*k^2))*(g-c)=((n-f)*(c*(4*k^2)-(9*b^4-8*b*k^2))-f*(g-c)*(4*k^2))*(2*k)):d*(b-X)-k=o*(c-X)-f:=by
 rw[q]at l;have e:9*b^4-8*b*k^2=X*(4*k^2):=by
  have p:9*b^4=(d*(2*k))*(d*(2*k)):=by rw[i];clear l i;grobner
  rw[p,<-m]
  grobner
 rw[e,<-i]at l;clear e i m;refine cancel h (cI h (cI h (cI h j j) j) r) ?_
 grobner
theorem pJ{a b:Fin P}(h:¬a=b):a-b≠0:=λe=>h (by grobner)
theorem Line.run{b k d c l:Fin P}(L:Line b k d c l):c-k=l*(d-b)/\k-c=l*(b-d):=by
 obtain⟨a,-⟩:=L;exact⟨by grobner,by grobner⟩
theorem Line.at{x y l:Fin P}(L:Line x y x y l):l*(2*y)=3*x^2:=by
 obtain⟨-,b⟩:=L
 grobner
theorem OE{m l d:Fin P}(s:m^2=l^2):(m*d)^2=(l*d)^2:=by grobner
theorem MO{b k:Fin P}(s:(b - -k)^2=(b-k)^2):4*(b*k)=0:=by grobner
theorem TR{m l b c k:Fin P}(r:m^2-c-b=k)(e:k=l^2-b-c):m^2=l^2:=by grobner
theorem QL{x l a b:Fin P}(e:x=l^2-a-b):x=l^2-b-a:=by grobner
theorem QK{g c b d k e l:Fin P}(L:Line g c b d l)(f:e=l*(g-k)-c):e=l*(b-k)-d:=by
 obtain⟨a,-⟩:=L
 grobner
theorem four_ne(h:NT.IsP P)(k:(2:Fin P)≠0):(4:Fin P)≠0:=λe=>by
 have:(2:Fin P)*2=0:=by grobner
 rcases nzd h this with e|e<;>exact k e
theorem Cf{y:Fin P}(e:y = -z):z = -y:=by grobner
theorem Ao(h:NT.IsP P)(q:(2:Fin P)≠0){b d f n i g m l k o c j:Fin P}(E:g^2=i^3+7)(I:d^2=b^3+7)
 (z:Line b d f n m) (y:Line f n i g l) (a:k=m^2-b-f) (w:o=m*(b-k)-d) (u:c=l^2-f-i) (s:j=l*(f-c)-n)
 (D:o^2=k^3+7) (J:j^2=c^3+7) (v:¬(k=i/\g = -o)) (H:¬(b=c/\j = -d)) (hx:¬c=b) :
 add (some (k,o)) (some (i,g))=add (some (b,d)) (some (c,j)):=by
 have p:=bR h q D E v;have r:=bR h q I J H;rw[cD h q D E v p,cD h q I J H r];unfold third;by_cases hd:k=i
 ·have K:=pU h D (hd ▸ E) (λe=>v ⟨hd,e⟩);subst hd K;have t:=v7 (x:=k) h q v;have F:=Sz h t (pJ hx) p.at r.run.1 (Kc b d f k m l n g c j z y a w u s);have G:=Sy h t (pJ hx) p.at r.run.1 rfl (Kb b d f k m l n g c j z y a w u s);rw[G,F]
 ·have F:=Si h (pJ hd) (pJ hx) p.run.2 r.run.1 (Nn b d f i m l n g k o c j z y a w u s);have G:=Sg h (pJ hd) (pJ hx) p.run.2 r.run.1 rfl (Nm b d f i m l n g k o c j z y a w u s);rw[G,F]
theorem add_assoc(h:NT.IsP P)(l:(2:Fin P)≠0)(Y:∀x:Fin P,x^3+7≠0)(a b c:Pt P)(g:On a)(k:On b)(n:On c):add (add a b) c=add a (add b c):=by
 have comm:=λ(a b:Pt P) (g:On a) (k:On b)=>add_comm h l a b g k
 have f:=En h l a b g k;have i:=En h l b c k n;have G:∀ {u v:Pt P},On u->On v->add (neg u) (add u v)=v:=λhu hv=>Ci h l Y hu hv
 by_cases z1:b=neg a
 ·subst z1;rw[add_neg];have:=G k n;rw[neg_neg']at this;exact this.symm
 by_cases Z:c=neg b
 ·subst Z;rw[add_neg,bK,comm _ _ f n,comm a b g k];exact G k g
 by_cases w:c=neg (add a b)
 ·subst w;rw[add_neg];have e:add b (neg (add a b))=neg a:=by
   rw[comm a b g k,neg_add h l k g];have:=G (cE k) (cE g);rw[neg_neg']at this;exact this
  rw[e,add_neg]
 by_cases t:add b c=neg a
 ·rw[t,add_neg];have e:a=neg (add b c):=by rw[t,neg_neg']
  have j:add a b=neg c:=by
   rw[comm a b g k,e,neg_add h l k n];have:=G (cE k) (cE n);rw[neg_neg']at this;exact this
  rw[j,comm _ _ (cE n) n,add_neg]
 rcases a with _|⟨p,s⟩
 ·rfl
 rcases b with _|⟨j,q⟩
 ·rfl
 rcases c with _|⟨A,H⟩
 ·rw[bK,bK]
 have V:¬(p=j/\q = -s):=λe=>z1 (by rw[e.1,e.2];rfl)
 have w2:¬(j=A/\H = -q):=λe=>Z (by rw[e.1,e.2];rfl)
 have D:=bR h l g k V;have J:=bR h l k n w2;have C:=cD h l g k V D;have B:=cD h l k n w2 J;rw[C]at f w⊢;rw[B]at i t⊢;generalize mV p s j q=l1 at D C f w⊢;generalize mV j q A H=l2 at J B i t⊢;unfold third at f i w t C B⊢;obtain⟨I,K⟩:∃I,I=l1^2-p-j:=⟨_,rfl⟩
 obtain⟨F,R⟩:∃F,F=l2^2-j-A:=⟨_,rfl⟩
 rw[<-K]at f w C⊢;rw[<-R]at i t B⊢;obtain⟨L,U⟩:∃L,L=l1*(p-I)-s:=⟨_,rfl⟩
 obtain⟨O,Q⟩:∃O,O=l2*(j-F)-q:=⟨_,rfl⟩
 rw[<-U]at f w C⊢;rw[<-Q]at i t B⊢;have T:¬(I=A/\H = -L):=λe=>w (by rw[e.2,<-e.1];rfl)
 have W:¬(p=F/\O = -s):=λe=>t (by rw[e.2,<-e.1];rfl)
 by_cases hx:F=p
 ·have hy:O=s:=by
   have r:=i;rw[hx]at r;exact pU h g r (λe=>W ⟨hx.symm,e⟩)
  by_cases hd:I=A
  ·exfalso;have X:H=L:=by
    have r:=f;exact pU h r (hd ▸ n) (λe=>T ⟨hd,e⟩)
   have N:=G k n;rw[B,hx,hy]at N;rw[hd,<-X]at C;have S:¬p=j:=λe=>by
    subst e;have r:=pU h g k (λe=>V ⟨rfl,e⟩);subst r;rw[comm _ _ (cE k) g,add_neg]at N;cases N
   have u1:¬(j=p/\s = - -q):=λe=>S e.1.symm
   have M:=bR h l (cE (a:=some (j,q)) k) g u1;have r2:=cD h l (cE (a:=some (j,q)) k) g u1 M;have E:third j (-q) p (mV j (-q) p s)=some (A,H):=r2.symm.trans N;generalize mV j (-q) p s=m at M E;unfold third at E;have r4:m^2-j-p=A:=by injection E with E;injection E
   have k1:=M.run.1;have k2:=D.run.2;rw[hd]at K;have s2:=OE (d:=p-j) (TR r4 K);rw[<-k1,<-k2]at s2;have k3:=MO s2;have r:∀ {x y:Fin P},y^2=x^3+7->y≠0:=λo z=>Y _ (O7 z o)
   rcases nzd h k3 with e|e
   ·exact four_ne h l e
   ·rcases nzd h e with e|e
    ·exact r g e
    ·exact r k e
  ·-- the same,from the other side
   have r:=Ao h l g n J.swap D.swap (QL R) (QK J Q) (QL K) (QK D U) i f (λe=>W ⟨e.1.symm,Cf e.2⟩) (λe=>T ⟨e.1.symm,Cf e.2⟩) hd;rw[comm _ _ f n,comm _ _ g i];exact r.symm
 ·exact Ao h l n g D J K U R Q f i T W hx
structure Cur(P:Nat)[NeZero P]:Prop where
 pr:NT.IsP P
 two:(2:Fin P)≠0
 sev:∀x:Fin P,x^3+7≠0
theorem Cur.y_ne(C:Cur P){a b:Fin P}(h:On (some (a,b))):b≠0:=λe=>C.sev a (O7 e h)
theorem Cur.opp_ne(C:Cur P){a b:Fin P}(h:On (some (a,b))):¬(a=a/\b = -b):=λe=>by
 have k:2*b=0:=by
  have:=e.2
  grobner
 exact cI C.pr C.two (C.y_ne h) k
def Jac(x y z:Fin P):Pt P->Prop
 | none=>z=0
 | some (a,b)=>z≠0/\x=a*z^2/\y=b*z^3
def Pair(x y:Fin P):Pt P->Prop
 | none=>x=0/\y=0
 | some (a,b)=>x=a/\y=b
def dbl(n:Fin P):Fin P:=n+n
def twB(x y:Fin P):Fin P:=dbl (dbl (x*(y*y)))
def twS(x:Fin P):Fin P:=dbl (x*x)+x*x
def twX(x y:Fin P):Fin P:=twS x*twS x-dbl (twB x y)
def twY(x y:Fin P):Fin P:=twS x*(twB x y-twX x y)-dbl (dbl (dbl (y*y*(y*y))))
def twZ(y z:Fin P):Fin P:=dbl (y*z)
theorem Tk{a b l x y:Fin P}(g:l*(2*b)=3*a^2)(c:x=a*z^2)(k:y=b*z^3):twX x y=(l^2-a-a)*twZ y z^2:=by
 subst c k;unfold twX twS twB twZ dbl
 grobner (ringSteps:=100000000)
theorem Tj{a b l x y X:Fin P}(g:l*(2*b)=3*a^2)(d:x=a*z^2)(k:y=b*z^3)(c:twX x y=X*twZ y z^2):twY x y=(l*(a-X)-b)*twZ y z^3:=by
 subst d k;unfold twY;rw[c];unfold twS twB twZ dbl
 grobner (ringSteps:=100000000)
theorem Ti(C:Cur P){b y:Fin P}(d:b≠0)(k:z≠0)(c:y=b*z^3):twZ y z≠0:=λe=>by
 have f:2*b*(z*z*(z*z))=0:=by
  unfold twZ dbl at e;subst c
  grobner
 exact cI C.pr (cI C.pr C.two d) (cI C.pr (cI C.pr k k) (cI C.pr k k)) f
theorem Jac.twice(C:Cur P){x y:Fin P}{p:Pt P}(h:Jac x y z p)(k:On p):Jac (twX x y) (twY x y) (twZ y z) (add p p):=by
 match p,h,k with
 | none,h,_ =>
  have c:=h;show twZ y z=0;subst c;unfold twZ dbl
  grobner
 | some (a,b),h,k =>
  obtain⟨e,d,c⟩:=h;have ho:=C.opp_ne k;have L:=bR C.pr C.two k k ho;rw[cD C.pr C.two k k ho L];have hx:=Tk L.at d c;exact⟨Ti C (C.y_ne k) e c,hx,Tj L.at d c hx⟩
def cN(b k:Fin P):Fin P:=b*(k*k)
def eK(b k:Fin P):Fin P:=b*(k*k)*k
def plX(k b bx c:Fin P):Fin P:=(c-b)*(c-b)-(bx-k)*(bx-k)*(bx-k)-dbl ((bx-k)*(bx-k)*k)
def plY(k b bx c:Fin P):Fin P:=(c-b)*((bx-k)*(bx-k)*k-plX k b bx c)-(bx-k)*(bx-k)*(bx-k)*b
def plZ(k c b bx:Fin P):Fin P:=k*c*(bx-b)
theorem TJ{a b c d l t k e bx f Z:Fin P}(g:d-b=l*(c-a))(j:k=a*t^2)(i:e=b*t^3)(e3:bx=c*t^2)(o:f=d*t^3)(n:Z=t*(bx-k)):plX k e bx f=(l^2-a-c)*Z^2:=by
 have m:d=b+l*(c-a):=by grobner
 subst m j i e3 o n;unfold plX dbl
 grobner (ringSteps:=100000000)
theorem TI{a b c d l t k e bx f Z X:Fin P}(g:d-b=l*(c-a))(o:k=a*t^2)(i:e=b*t^3)(e3:bx=c*t^2)(p:f=d*t^3)(m:Z=t*(bx-k))(n:plX k e bx f=X*Z^2):plY k e bx f=(l*(a-X)-b)*Z^3:=by
 unfold plY;rw[n];have j:d=b+l*(c-a):=by grobner
 subst j o i e3 p m
 grobner (ringSteps:=100000000)
theorem AQ(C : Cur P){a c t : Fin P}{k : Nat}(ht : t ≠ 0)(e : a * t ^ k = c * t ^ k): a = c := by
  have hk : ∀k : Nat, t ^ k ≠ 0 := λk => by
    induction k with
    | zero => intro h; exact ht (by have h2 : (1 : Fin P) = 0 := by { rw [← h]; grind }; calc t = t * 1 := by grobner
                                    _ = 0 := by rw [h2]; grobner)
    | succ k ih => intro h; exact cI C.pr ih ht (by rw [<-h]; grind)
  exact cancel C.pr (hk k) e
theorem Jac.plus(C:Cur P){l n f m o e:Fin P}{p q:Pt P}(h:Jac l n f p)(i:On p)(D:Jac m o e q)(j:On q)(E:f≠0)(F:e≠0):
 (cN l e=cN m f/\eK n e=eK o f/\add p q=add p p) \/
 (¬(cN l e=cN m f/\eK n e=eK o f)/\Jac (plX (cN l e) (eK n e) (cN m f) (eK o f)) (plY (cN l e) (eK n e) (cN m f) (eK o f)) (plZ f e (cN l e) (cN m f)) (add p q)):=by
 match p,q,h,i,D,j with
 | none,_,h,_,_,_=>exact absurd h E
 | some (a,b),none,_,_,h,_=>exact absurd h F
 | some (a,b),some (c,d),h,i,D,j =>
  obtain⟨-,y,B⟩:=h;obtain⟨-,w,A⟩:=D;have u:=cI C.pr E F;have s:cN l e=a*(f*e)^2:=by subst y;unfold cN;clear i j;grobner
  have t:eK n e=b*(f*e)^3:=by subst B;unfold eK;clear i j;grobner
  have e3:cN m f=c*(f*e)^2:=by subst w;unfold cN;clear i j;grobner
  have v:eK o f=d*(f*e)^3:=by subst A;unfold eK;clear i j;grobner
  by_cases r:cN l e=cN m f/\eK n e=eK o f
  ·refine U6 ⟨r.1,r.2,?_⟩;have g:a=c:=AQ C u (by rw[<-s,<-e3];exact r.1);have z:b=d:=AQ C u (by rw[<-t,<-v];exact r.2);rw[g,z]
  ·refine U2 ⟨r,?_⟩;by_cases g:a=c
   ·have hd:d = -b:=WB λz=>r ⟨by rw[s,e3,g],by
     have:=pU C.pr (x:=a) i (by rw[g];exact j) z;rw[t,v,this]⟩
    rw[jA ⟨g,hd⟩];show plZ _ _ _ _=0;rw[s,e3,g];unfold plZ
    grobner
   ·have ho:¬(a=c/\d = -b):=λh=>g h.1
    have L:=bR C.pr C.two i j ho;rw[cD C.pr C.two i j ho L];have z:plZ f e (cN l e) (cN m f)=f*e*(cN m f-cN l e):=rfl;have hx:=TJ L.run.1 s t e3 v z;refine⟨?_,hx,TI L.run.1 s t e3 v z hx⟩;rw[z];refine cI C.pr u (λh=>g ?_);exact AQ C (k:=2) u (by rw[<-s,<-e3];clear i j L hx;grobner)
theorem Jac.zero(C:Cur P){x y:Fin P}{p:Pt P}(h:Jac x y z p)(k:z=0):p=none:=by
 match p,h with
 | none,_=>rfl
 | some (a,b),h=>exact absurd k h.1
theorem Jac.neg{x y:Fin P}{p:Pt P}(h:Jac x y z p):Jac x (0-y) z (neg p):=by
 match p,h with
 | none,h=>exact h
 | some (a,b),h=>exact⟨h.1,h.2.1,by have:=h.2.2;show 0-y = -b*z^3;grobner⟩
theorem inv_zero(C:Cur P):inv (0:Fin P)=0:=by
 apply Yi;have k:=C.pr.1;show(0:Fin P).val^(P-2)%P=_;rw[val_zero];by_cases h:P=2
 ·exact absurd (Yi (by rw[val_zero];show 2%P=0;rw[h])) C.two
 ·rw[yBO oM,YO]
theorem Jac.pair(C:Cur P){x y:Fin P}{p:Pt P}(h:Jac x y z p):Pair (x*(inv z*inv z)) (y*(inv z*inv z)*inv z) p:=by
 match p,h with
 | none,h =>
  have k:=h;subst k;rw[inv_zero C];exact⟨by grobner,by grobner⟩
 | some (a,b),h =>
  have d:=inv_mul C.pr h.1;obtain⟨-,c,k⟩:=h;subst c k;exact⟨by grobner,by grobner⟩
theorem Pair.jac(C:Cur P){x y:Fin P}{p:Pt P}(h:Pair x y p)(d:¬(x=0/\y=0)):Jac x y 1 p:=by
 match p,h with
 | none,h=>exact absurd h d
 | some (a,b),h =>
  obtain⟨c,k⟩:=h;subst c k;refine⟨λe=>?_,by grobner,by grobner⟩;have:=congrArg yBf e;rw[val_zero,val_one C.pr]at this;omega
theorem Pair.nothing(C:Cur P){x y:Fin P}{p:Pt P}(h:Pair x y p)(k:On p)(d:x=0/\y=0):p=none:=by
 match p,h,k with
 | none,_,_=>rfl
 | some (a,b),h,k =>
  obtain⟨e,c⟩:=h;exact absurd (by rw[<-c];exact d.2) (C.y_ne k)
def mul:Nat->Pt P->Pt P
 | 0,_=>none
 | n+1,a=>add (mul n a) a
theorem iQ:On (none:Pt P):=trivial
theorem jL(a:Pt P):add none a=a:=rfl
theorem Cur.on(C:Cur P){a b:Pt P}(c:On a)(k:On b):On (add a b):=En C.pr C.two a b c k
theorem Cur.comm(C:Cur P){a b:Pt P}(c:On a)(k:On b):add a b=add b a:=add_comm C.pr C.two a b c k
theorem Cur.assoc(C:Cur P){a b c:Pt P}(e:On a)(d:On b)(k:On c):add (add a b) c=add a (add b c):=add_assoc C.pr C.two C.sev a b c e d k
theorem Cur.neg_l(C:Cur P){a:Pt P}(k:On a):add (neg a) a=none:=by
 rw[C.comm (cE k) k,add_neg]
theorem Cur.swap(C:Cur P){a b c d:Pt P}(f:On a)(e:On b)(k:On c)(hd:On d):add (add a b) (add c d)=add (add a c) (add b d):=by
 rw[C.assoc f e (C.on k hd),<-C.assoc e k hd,C.comm e k,C.assoc k e hd,<-C.assoc f k (C.on e hd)]
theorem cG(C:Cur P){a:Pt P}(k:On a):∀n,On (mul n a)
 | 0=>iQ
 | n+1=>C.on (cG C k n) k
theorem mul_add(C:Cur P){a:Pt P}(k:On a)(m:Nat):∀n,mul (m+n) a=add (mul m a) (mul n a)
 | 0=>(bK _).symm
 | n+1=>by
  show add (mul (m+n) a) a=add (mul m a) (add (mul n a) a);rw[mul_add C k m n,C.assoc (cG C k m) (cG C k n) k]
def eF:Int->Pt P->Pt P
 | .ofNat n,a=>mul n a
 | .negSucc n,a=>neg (mul (n+1) a)
theorem iN(C:Cur P){a:Pt P}(k:On a):∀n,On (eF n a)
 | .ofNat n=>cG C k n
 | .negSucc n=>cE (cG C k (n+1))
theorem nP(C:Cur P){a:Pt P}(k:On a):∀n,eF (n+1) a=add (eF n a) a
 | .ofNat n=>rfl
 | .negSucc 0=>by
  show(none:Pt P)=add (neg (add none a)) a;rw[jL,C.neg_l k]
 | .negSucc (n+1)=>by
  show neg (mul (n+1) a)=add (neg (add (mul (n+1) a) a)) a;have b:=cG C k (n+1);rw[neg_add C.pr C.two b k,C.assoc (cE b) (cE k) k,C.neg_l k,bK]
theorem rP(C:Cur P){a:Pt P}(k:On a)(n:Int):eF (n-1) a=add (eF n a) (neg a):=by
 have h:=nP C k (n-1);rw[Int.sub_add_cancel]at h;rw[h,C.assoc (iN C k _) k (cE k),add_neg,bK]
theorem BC(C:Cur P){a:Pt P}(k:On a)(m:Int):∀n:Nat,eF (m+n) a=add (eF m a) (eF n a)
 | 0=>by rw[WM,Z0];exact(bK _).symm
 | n+1=>by
  rw[show m+((n+1:Nat):Int)=(m+n)+1 by omega,nP C k,BC C k m n,show((n+1:Nat):Int)=(n:Int)+1 by omega,nP C k,
   C.assoc (iN C k _) (iN C k _) k]
theorem Bz(C:Cur P){a:Pt P}(k:On a):∀n:Nat,eF (-(n:Int)) a=neg (eF n a)
 | 0=>rfl
 | n+1=>by
  have b:eF (((n+1:Nat):Int)) a=add (eF n a) a:=by rw[show((n+1:Nat):Int)=(n:Int)+1 by omega,nP C k]
  rw[b,neg_add C.pr C.two (iN C k _) k,<-Bz C k n,show -((n+1:Nat):Int) = -(n:Int)-1 by omega,rP C k]
theorem Bv(C:Cur P){a:Pt P}(k:On a)(m:Int):∀n:Nat,eF (m-n) a=add (eF m a) (eF (-(n:Int)) a)
 | 0=>by rw[WM,Int.sub_zero];exact(bK _).symm
 | n+1=>by
  rw[show m-((n+1:Nat):Int)=(m-n)-1 by omega,rP C k,Bv C k m n,show -((n+1:Nat):Int) = -(n:Int)-1 by omega,rP C k,
   C.assoc (iN C k _) (iN C k _) (cE k)]
theorem vT(C:Cur P){a:Pt P}(b:On a)(m n:Int):eF (m+n) a=add (eF m a) (eF n a):=by
 rcases Int.le_total 0 n with h|h
 ·obtain⟨k,rfl⟩:=yAz h;exact BC C b m k
 ·obtain⟨k,c⟩:=yAz (show 0<=-n by omega);obtain rfl:n = -(k:Int):=oM;rw[<-Bv C b m k,Int.sub_eq_add_neg]
theorem Bw(a:Pt P):eF 1 a=a:=jL a
theorem Gh(a:Pt P):eF 0 a=none:=rfl
def tot(a:Nat->Pt P):Nat->(Nat->Int)->Pt P
 | 0,_=>none
 | k+1,f=>add (tot a k f) (eF (f k) (a k))
theorem C9(C:Cur P){a:Nat->Pt P}(f:Nat->Int):∀k,(∀i,i<k->On (a i))->On (tot a k f)
 | 0,_=>iQ
 | k+1,h=>C.on (C9 C f k λi b=>h i oM) (iN C (h k oM) _)
theorem eJ{a:Nat->Pt P}{f g:Nat->Int}:∀k,(∀i,i<k->f i=g i)->tot a k f=tot a k g
 | 0,_=>rfl
 | k+1,h=>by
  show add (tot a k f) _=add (tot a k g) _;rw[eJ k (λi b=>h i oM),h k oM]
theorem v8(a:Nat->Pt P){f:Nat->Int}:∀k,(∀i,i<k->f i=0)->tot a k f=none
 | 0,_=>rfl
 | k+1,h=>by
  show add (tot a k f) _=none;rw[v8 a k (λi b=>h i oM),h k oM];rfl
theorem AD(C:Cur P){a:Nat->Pt P}(f g:Nat->Int):∀k,(∀i,i<k->On (a i))->tot a k (λj=>f j+g j)=add (tot a k f) (tot a k g)
 | 0,_=>rfl
 | k+1,h=>by
  have b:∀i,i<k->On (a i):=λi d=>h i oM
  have c:=h k oM;show add (tot a k _) (eF (f k+g k) (a k))=add (add (tot a k f) (eF (f k) (a k))) (add (tot a k g) (eF (g k) (a k)));rw[AD C f g k b,vT C c,C.swap (C9 C f k b) (C9 C g k b) (iN C c _) (iN C c _)]
theorem Ew(C:Cur P){a:Nat->Pt P}(i:Nat)(d:Int):∀k,i<k->(∀i,i<k->On (a i))->tot a k (λj=>if j=i then d else 0)=eF d (a i)
 | k+1,hi,h=>by
  show add (tot a k _) (eF (if k=i then d else 0) (a k))=_;by_cases b:k=i
  ·subst b;rw[yCk rfl,v8 a k (λj c=>yCl oM)];rfl
  ·rw[yCl b,Ew C i d k oM (λj c=>h j oM)];exact bK _
theorem Ll(C:Cur P){a:Nat->Pt P}(f:Nat->Int)(i:Nat)(d:Int)(k:Nat)(c:i<k)(h:∀i,i<k->On (a i)):
 tot a k (λj=>if j=i then f j+d else f j)=add (tot a k f) (eF d (a i)):=by
 rw[<-Ew C i d k c h,<-AD C f _ k h];refine eJ k λj _=>?_
 by_cases b:j=i
 ·rw[yCk b,yCk b]
 ·rw[yCl b,yCl b,Z0]
theorem Gm(C:Cur P){a:Nat->Pt P}(f:Nat->Int)(k:Nat)(h:∀i,i<k->On (a i)):tot a k (λj=>2*f j)=add (tot a k f) (tot a k f):=by
 rw[<-AD C f f k h];exact eJ k λj _=>oM
end EC
namespace EC
theorem LL{P c:Nat}(i:NT.IsP P)(m:P=3*c+1)(l:7<P)(f:(P-7)^c%P≠1)(x:Nat):(x*x*x+7)%P≠0:=λe=>by
 have hx:¬P ∣ x:=λhd=>by
  have k:P ∣ x*x*x:=Nat.dvd_mul_left_of_dvd hd _;have b:P ∣ 7:=(Nat.dvd_add_right k).1 (XR e);have:=Yl dC b;omega
 have k:=i.fermat1 x hx;have b:x*x*x%P=P-7:=by
  have j:x*x*x%P<P:=V6 _ oM;have d:(x*x*x%P+7)%P=0:=by rw[yBv];exact e
  by_cases g:x*x*x%P+7<P
  ·rw[UU g]at d;omega
  ·rw[yAW oM,UU oM]at d;omega
 apply f;rw[<-b,<-yAI];rw[<-k]
 congr 1
 rw[show P-1=3*c by omega,ZX]
 congr 1
 rw[V8,V8,Y3]
theorem P0{P c:Nat}[NeZero P](b:NT.IsP P)(i:P=3*c+1)(f:7<P)(g:(P-7)^c%P≠1):Cur P:=by
 refine⟨b,λe=>?_,λx e=>?_⟩
 ·have:=congrArg yBf e;rw[val_zero]at this;have k:(2:Fin P).val=2%P:=rfl;rw[k,UU oM]at this;omega
 ·have d:x*x*x+7=0:=by rw[<-e];grobner
  have:=congrArg yBf d;rw[val_zero,Fin.val_add,XO,XO]at this;have k:(7:Fin P).val=7%P:=rfl;rw[k,yBu,yBv,Nat.add_mod_mod]at this;exact LL b i f g x.val this
theorem MB:NT.pm 115792089237316195423570985008687907853269984665640564039457584007908834671663 256 (115792089237316195423570985008687907853269984665640564039457584007908834671663-7) 38597363079105398474523661669562635951089994888546854679819194669302944890554 1≠1:=dK
theorem Rf{P c k:Nat}(b:c<2^k)(d:1<P)(h:NT.pm P k (P-7) c 1≠1):(P-7)^c%P≠1:=λe=>h (by rw[NT.EM P k _ c 1 b d,Xj];exact e)
theorem cur:∃(P:Nat) (_:NeZero P),P=115792089237316195423570985008687907853269984665640564039457584007908834671663/\Cur P:=by
 have d:=NT.pP;have e:=MB;have g:115792089237316195423570985008687907853269984665640564039457584007908834671663=3*38597363079105398474523661669562635951089994888546854679819194669302944890554+1:=dK;have k:38597363079105398474523661669562635951089994888546854679819194669302944890554<2^256:=dK;have b:7<115792089237316195423570985008687907853269984665640564039457584007908834671663:=dK;generalize 38597363079105398474523661669562635951089994888546854679819194669302944890554=c at *;generalize 115792089237316195423570985008687907853269984665640564039457584007908834671663=P at *;have f:NeZero P:=⟨oM⟩
 exact⟨P,f,rfl,P0 d g b (Rf k oM e)⟩
end EC
section
open Go.RowKit Go.Sort
structure At4(w:Ut)(k a b c d:Nat):Prop where
 c0:w.cell? ⟨k,0,none⟩=some (uZ a)
 c1:w.cell? ⟨k,1,none⟩=some (uZ b)
 c2:w.cell? ⟨k,2,none⟩=some (uZ c)
 c3:w.cell? ⟨k,3,none⟩=some (uZ d)
 f:∀o,w.frozen? ⟨k,o,none⟩=false
variable {w w1:Ut}{k a b c d:Nat}
theorem At4.lt(h:At4 w k a b c d):k<w.heap.size:=Xf _ _ h.c0
theorem At4.below(h:At4 w k a b c d)(f:Below B w w1)(e:k<B):At4 w1 k a b c d:=
 ⟨by rw[f.cell (p:=⟨k,0,none⟩) e];exact h.c0,by rw[f.cell (p:=⟨k,1,none⟩) e];exact h.c1,by rw[f.cell (p:=⟨k,2,none⟩) e];exact h.c2,by rw[f.cell (p:=⟨k,3,none⟩) e];exact h.c3,
  λo=>by rw[f.frozen (p:=⟨k,o,none⟩) e];exact h.f o⟩
theorem At4.call(h:At4 w k a b c d)(e:kZ w w1):At4 w1 k a b c d:=h.below e h.lt
theorem At4.alloc(h:At4 w k a b c d)(o:Obj):At4 (w.alloc o) k a b c d:=h.call (aC w o)
theorem At4.drewN(h:At4 w k a b c d)(q:Nat):At4 (w.drewN q) k a b c d:=⟨h.c0,h.c1,h.c2,h.c3,h.f⟩
theorem At4.new(w:Ut)(t:Vb)(a b c d:Nat):At4 (w.alloc (.cells #[uZ a,uZ b,uZ c,uZ d] t)) w.heap.size a b c d:=
 ⟨by rw[Ve];rfl,by rw[Ve];rfl,by rw[Ve];rfl,by rw[Ve];rfl,λo=>Wq _ _ _ _⟩
theorem At4.made(w:Ut)(t:Vb)(a b c d:Nat){k:Nat}(e:w.heap.size=k):At4 (w.alloc (.cells #[uZ a,uZ b,uZ c,uZ d] t)) k a b c d:=
 e ▸ At4.new w t a b c d
theorem bH{i:Nat}{o k:Nat}(h:i≠j\/o≠k):(⟨i,o,none⟩:Addr)≠⟨j,k,none⟩:=by
 intro e;simp only[yBq.injEq,and_true]at e;omega
theorem At4.other{o: Nat}(h : At4 w k a b c d)(hj : j ≠ k)(v : Uv): At4 (w.setCell ⟨j, o, none⟩ v) k a b c d :=
  ⟨by rw [UV _ _ _ _ (bH (U6 hj))]; exact h.c0, by rw [UV _ _ _ _ (bH (U6 hj))]; exact h.c1,
   by rw [UV _ _ _ _ (bH (U6 hj))]; exact h.c2, by rw [UV _ _ _ _ (bH (U6 hj))]; exact h.c3, λo => by rw [VK]; exact h.f o⟩
theorem At4.set0(h : At4 w k a b c d)(x : Nat): At4 (w.setCell (aZ k) (uZ (x : Int))) k x b c d :=
  ⟨VU _ _ _ h.c0, by rw [UV _ _ _ _ (bH (U2 dC))]; exact h.c1,
   by rw [UV _ _ _ _ (bH (U2 dC))]; exact h.c2, by rw [UV _ _ _ _ (bH (U2 dC))]; exact h.c3, λo => by rw [VK]; exact h.f o⟩
theorem At4.set1(h : At4 w k a b c d)(x : Nat): At4 (w.setCell ⟨k, 1, none⟩ (uZ (x : Int))) k a x c d :=
  ⟨by rw [UV _ _ _ _ (bH (U2 dC))]; exact h.c0, VU _ _ _ h.c1,
   by rw [UV _ _ _ _ (bH (U2 dC))]; exact h.c2, by rw [UV _ _ _ _ (bH (U2 dC))]; exact h.c3, λo => by rw [VK]; exact h.f o⟩
theorem At4.set2(h : At4 w k a b c d)(x : Nat): At4 (w.setCell ⟨k, 2, none⟩ (uZ (x : Int))) k a b x d :=
  ⟨by rw [UV _ _ _ _ (bH (U2 dC))]; exact h.c0, by rw [UV _ _ _ _ (bH (U2 dC))]; exact h.c1,
   VU _ _ _ h.c2, by rw [UV _ _ _ _ (bH (U2 dC))]; exact h.c3, λo => by rw [VK]; exact h.f o⟩
theorem At4.set3(h : At4 w k a b c d)(x : Nat): At4 (w.setCell ⟨k, 3, none⟩ (uZ (x : Int))) k a b c x :=
  ⟨by rw [UV _ _ _ _ (bH (U2 dC))]; exact h.c0, by rw [UV _ _ _ _ (bH (U2 dC))]; exact h.c1,
   by rw [UV _ _ _ _ (bH (U2 dC))]; exact h.c2, VU _ _ _ h.c3, λo => by rw [VK]; exact h.f o⟩
theorem At4.drew(h:At4 w k a b c d):At4 w.drew k a b c d:=⟨h.c0,h.c1,h.c2,h.c3,h.f⟩
def set4(w:Ut)(k:Nat)(x y z t:Uv):Ut:=(((w.setCell (aZ k) x).setCell ⟨k,1,none⟩ y).setCell ⟨k,2,none⟩ z).setCell ⟨k,3,none⟩ t
theorem At4.self4(h:At4 w k a b c d)(x y z t:Nat):At4 (set4 w k (uZ x) (uZ y) (uZ z) (uZ t)) k x y z t:=(((h.set0 x).set1 y).set2 z).set3 t
theorem At4.other4(h:At4 w k a b c d)(e:j≠k)(x y z t:Uv):At4 (set4 w j x y z t) k a b c d:=(((h.other e x).other e y).other e z).other e t
theorem aL{b:Ut}(h:Below B b w)(k:B<=j)(x y z t:Uv):Below B b (set4 w j x y z t):=
 (((h.setCell (p:=⟨j,0,none⟩) k x).setCell (p:=⟨j,1,none⟩) k y).setCell (p:=⟨j,2,none⟩) k z).setCell (p:=⟨j,3,none⟩) k t
end
section
open Go.RowKit Go.Sort
variable {P:Nat}[NeZero P]{N:Nat}
structure FoldI(w wr:Ut)(g0 g1 g2 a b c d p q r s:Nat):Prop where
 bl:kZ w wr
 pr:At4 wr w.heap.size g0 g1 g2 0
 lo:At4 wr (w.heap.size+1) a b c d
 hi:At4 wr (w.heap.size+1+1) p q r s
 re:At4 wr (w.heap.size+1+1+1) 0 0 0 0
 ha:a<18446744073709551616
 hb:b<18446744073709551616
 hc:c<18446744073709551616
 hd:d<18446744073709551616
 hp:p<18446744073709551616
 hq:q<18446744073709551616
 hr:r<18446744073709551616
 hs:s<18446744073709551616
theorem Jz{a b c d p f g i t k P gk:Nat}(o:P+val f g i 0=top)(m:top<2*P)(l:val a b c d<top)(j:gk=val a b c d+top*val 0 0 0 0)
 (v:t+top*k=val a b c d+val f g i 0) (u:k<=1) (n:t=val p q r s) (e:t<top):(k=0->val a b c d=gk%P)/\(k=1->val p q r s=gk%P):=by
 have e:gk=val a b c d:=by rw[j];rfl
 rw[e];refine⟨λh=>?_,λh=>?_⟩
 ·subst h;rw[UU oM]
 ·subst h;rw[<-n,yAW oM,UU oM];omega
theorem Le{p:Nat}(h:¬(p=0/\q=0/\r=0/\s=0)):0<val p q r s:=by unfold val;omega
theorem GL{x h g P gk:Nat}(k:0<h)(c:P+g=top)(d:top<2*P)(b:gk=x+top*h):x+g*h<gk/\(x+g*h)%P=gk%P:=by
 have e:gk=x+g*h+P*h:=by rw[b,<-c,XH];omega
 rw[e,Y1];have:0<P*h:=Nat.mul_pos oM k;exact⟨oM,rfl⟩
theorem Cv{l t a b c d g h x:Nat}(k:g*h+x=l+18446744073709551616*t)(f:t=val a b c d):val l a b c+top*val d 0 0 0=x+val g 0 0 0*h:=by
 have e:val g 0 0 0=g:=by unfold val;omega
 rw[e];unfold val at *;unfold top;omega
theorem val_mul(b c k h:Nat):val b c k 0*h=b*h+18446744073709551616*(c*h)+340282366920938463463374607431768211456*(k*h):=by
 unfold val;rw[XH,XH,XH,XK,XK];omega
theorem xR{p o i h x a b c d l n k e g f:Nat}(u:j+18446744073709551616*val a b c d=i*h+x)
 (v:p+18446744073709551616*val l r s n=m*h+val a b c d) (t:o+18446744073709551616*val k e g f=q*h+val l r s n) :
 val j p o k+top*val e g f 0=x+val i m q 0*h:=by
 rw[val_mul];unfold val at *;unfold top;omega
theorem xT(g0 g1 g2:Nat)(x y:Uv)(m n P:Nat)(hm:g0<18446744073709551616)(hw:g1<18446744073709551616)(ki:g2<18446744073709551616)
 (hor:(g1=0/\g2=0)\/∃o:Nat,bits .or .u64 (g1:Int) (g2:Int)=(o:Int)/\o≠0) (hP:P+val g0 g1 g2 0=top) (k5:top<2*P) (hx:Four x m) (hy:Four y n) (w:Ut) :
 UK prog 235 #[.agg #[uZ g0,uZ g1,uZ g2,uZ 0],x,y] w (rZ w λe w'=>Four e ((m+top*n)%P)):=by
 obtain⟨a,b,c,d,rfl,ha,hb,hc,hd,em⟩:=hx;obtain⟨p,q,r,s,rfl,hp,hq,hr,hs,en⟩:=hy;go_enter func235,ntmps235;go_wp2;go_loopg [] (val a b c d+top*val p q r s) (λg wr=>∃(a b c d p q r s:Nat),FoldI w wr g0 g1 g2 a b c d p q r s/\g=val a b c d+top*val p q r s/\Hid (g%P=(m+top*n)%P))
 case atStart =>
  have f:=Eg w (.cells #[uZ g0,uZ g1,uZ g2,uZ 0] 120) (.cells #[uZ a,uZ b,uZ c,uZ d] 118) (.cells #[uZ p,uZ q,uZ r,uZ s] 118) (.cells #[uZ 0,uZ 0,uZ 0,uZ 0] 118);refine⟨a,b,c,d,p,q,r,s,⟨f,?_,?_,?_,?_,ha,hb,hc,hd,hp,hq,hr,hs⟩,rfl,?_⟩
  ·exact(((At4.new w 120 g0 g1 g2 0).alloc _).alloc _).alloc _
  ·exact((At4.made (w.alloc _) 118 a b c d (UD _ _)).alloc _).alloc _
  ·exact(At4.made ((w.alloc _).alloc _) 118 p q r s (by simp)).alloc _
  ·exact At4.made (((w.alloc _).alloc _).alloc _) 118 0 0 0 0 (by simp)
  ·rw[em,en];rfl
 case round =>
  obtain⟨a,b,c,d,p,q,r,s,hI,hg,HE⟩:=hrel;clear em en ha hb hc hd hp hq hr hs;obtain⟨bl,pr,lo,hi,re,ha,hb,hc,hd,hp,hq,hr,hs⟩:=hI;have HB:Hid (Below w.heap.size w wr):=bl;clear bl;generalize D:w.heap.size+1+1+1=B at re⊢;generalize E:w.heap.size+1+1=k2 at hi⊢;generalize K:w.heap.size+1=k1 at lo⊢;have H:Hid (w.heap.size+1=k1/\w.heap.size+1+1=k2/\w.heap.size+1+1+1=B):=⟨K,E,D⟩
  generalize L:w.heap.size=C at pr HB⊢;have H0:Hid (w.heap.size=C):=L;have k9:Hid (C<=k1):=by unfold Hid;omega
  have Y:C≠k1:=oM;have ka:C≠k2:=oM;have kv:C≠B:=oM;have n12:k1≠k2:=oM;have V:k1≠B:=oM;have k6:k2≠B:=oM;have z0:=pr.lt;have z1:=lo.lt;have z2:=hi.lt;have z3:=re.lt;clear L K E D;by_cases hz:p=0/\q=0/\r=0/\s=0
  ·obtain⟨rfl,rfl,rfl,rfl⟩:=hz;obtain⟨p0,p1,p2,p3,pf⟩:=id pr;obtain⟨l0,l1,l2,l3,lf⟩:=id lo;obtain⟨L,K,E,D,hf⟩:=id hi;obtain⟨G,r1,r2,r3,rf⟩:=id re;go_wp2_with fail
   refine(qU _ _ _ _ (Four.mk ha hb hc hd rfl) (Four.mk hm hw ki dC rfl) _).mono ?_;rintro e w1 ⟨v,rfl,f,v4,t,k,rfl,⟨R,Z,U,T,rfl,Q,O,S,X,F⟩,hk,N⟩;have z:=Jz hP k5 (mN ha hb hc hd) hg N hk F (F ▸ mN Q O S X);rw[HE.out]at z;have J:Hid _:=z;clear z;clear p0 p1 p2 p3 pf l0 l1 l2 l3 lf L K E D hf G r1 r2 r3 rf N F hg HE;have i:=lo.call f;have j:=re.call f;have z3:=j.lt;have z1:=i.lt;have I:Hid (Below C w w1):=HB.trans (f.mono oM);obtain⟨l0,l1,l2,l3,lf⟩:=id i;obtain⟨G,r1,r2,r3,rf⟩:=id j;have A:k=0\/k=1:=oM;rcases A with rfl|rfl
   ·go_wp2;have u:=((((j.set0 a).set1 b).set2 c).set3 d).alloc (.cells #[uZ R,uZ Z,uZ U,uZ T] 118);refine UH (v:=?v0) ?hr0 rfl ?hR0
    case hr0=>simp[results,Tryz.results235,go_sem,u.c0,u.c1,u.c2,u.c3];rfl
    refine⟨_,rfl,?_,Four.mk ha hb hc hd (J.1 trivial).symm⟩;rw[H0.out];have W:C<=B:=by have:=H.out;have:=H0.out;omega
    have q1:=(((I.setCell (p:=⟨B,0,none⟩) W (uZ a)).setCell (p:=⟨B,1,none⟩) W (uZ b)).setCell (p:=⟨B,2,none⟩) W (uZ c)).setCell (p:=⟨B,3,none⟩) W (uZ d);exact q1.alloc (by simp;omega) _
   ·go_wp2;have u:=((((j.set0 R).set1 Z).set2 U).set3 T).alloc (.cells #[uZ R,uZ Z,uZ U,uZ T] 118);refine UH (v:=?v1) ?hr1 rfl ?hR1
    case hr1=>simp[results,Tryz.results235,go_sem,u.c0,u.c1,u.c2,u.c3];rfl
    refine⟨_,rfl,?_,Four.mk Q O S X (J.2 trivial).symm⟩;rw[H0.out];have W:C<=B:=by have:=H.out;have:=H0.out;omega
    have q1:=(((I.setCell (p:=⟨B,0,none⟩) W (uZ R)).setCell (p:=⟨B,1,none⟩) W (uZ Z)).setCell (p:=⟨B,2,none⟩) W (uZ U)).setCell (p:=⟨B,3,none⟩) W (uZ T);exact q1.alloc (by simp;omega) _
  ·go_upto_region 1 with fail
   go_cut [12] from 10 to 72 (λc wx=>c=.bool true/\wr=wx)
   case first =>
    obtain⟨L,K,E,D,hf⟩:=id hi;go_wp2_with fail
    all_goals (go_meet;exact⟨rfl,rfl⟩)
   case rest =>
    obtain⟨rfl,rfl⟩:=hcut;have h5:=GL (Le hz) hP k5 hg;clear hz;obtain⟨p0,p1,p2,p3,pf⟩:=id pr;obtain⟨l0,l1,l2,l3,lf⟩:=id lo;obtain⟨L,K,E,D,hf⟩:=id hi;rcases hor with⟨rfl,rfl⟩|⟨o,ho,ku⟩
    ·have hor:bits .or .u64 0 0=0:=dK;go_wp2_with fail
     refine(kA g0 _ _ _ _ hm (Four.mk hp hq hr hs rfl) (Four.mk ha hb hc hd rfl) _).mono ?_;rintro e w1 ⟨v,rfl,f,l,v4,t,rfl,hl,⟨R,Z,U,T,rfl,Q,O,S,X,F⟩,N⟩;have i:=(lo.alloc _).call f;have A:=(hi.alloc _).call f;have z:=(pr.alloc _).call f;have j:=(re.alloc _).call f;have u:=(At4.new wr 118 0 0 0 0).call f;have I:Hid (Below C w w1):=(HB.alloc oM _).trans (f.mono (by simp;omega));clear f p0 p1 p2 p3 pf l0 l1 l2 l3 lf L K E D hf lo hi pr re;generalize hn:wr.heap.size=k4 at u z0 z1 z2 z3⊢;clear hn;have m0:C≠k4:=oM;have m1:k1≠k4:=oM;have m2:k2≠k4:=oM;have m3:B≠k4:=oM;have M:Hid (C<k4):=z0;clear z0 z1 z2 z3;have z0:=z.lt;have z1:=i.lt;have z2:=A.lt;have z3:=j.lt;have z4:=u.lt;have G:Hid (g0*val p q r s+val a b c d=l+18446744073709551616*t/\t=val R Z U T):=⟨N.symm,F⟩
     have HL:Hid (_/\_):=h5;clear N F h5 hg;obtain⟨p0,p1,p2,p3,pf⟩:=id z;obtain⟨l0,l1,l2,l3,lf⟩:=id i;obtain⟨L,K,E,D,hf⟩:=id A;obtain⟨t0,t1,t2,t3,tf⟩:=id u;go_wp2;go_region
     go_wp2;obtain⟨q1,q2,q3⟩:=H.out;have W:=H0.out;subst q1 q2 q3 W;go_roundg (val l R Z U+top*val T 0 0 0)
     case measure=>rw[Cv G.1 G.2];exact HL.1
     case rel =>
      refine⟨l,R,Z,U,T,0,0,0,⟨?_,?_,?_,?_,?_,hl,Q,O,S,X,dC,dC,dC⟩,rfl,?_⟩
      ·have s1:=(I.setCell (p:=⟨w.heap.size+1,0,none⟩) (Y4 _) (uZ l))
       exact(aL (aL (aL s1 (XN M.out) _ _ _ _) (Y4 _) _ _ _ _) oM _ _ _ _).drew
      ·exact((((z.other Y.symm _).other4 m0.symm _ _ _ _).other4 Y.symm _ _ _ _).other4 ka.symm _ _ _ _).drew
      ·exact((((i.set0 l).other4 m1.symm _ _ _ _).self4 l R Z U).other4 n12.symm _ _ _ _).drew
      ·exact((((A.other n12 _).other4 m2.symm _ _ _ _).other4 n12 _ _ _ _).self4 T 0 0 0).drew
      ·exact((((j.other V _).other4 m3.symm _ _ _ _).other4 V _ _ _ _).other4 k6 _ _ _ _).drew
      ·unfold Hid;rw[Cv G.1 G.2,<-HE.out];exact HL.2
    ·go_wp2_with fail
     refine(kA g0 _ _ _ _ hm (Four.mk hp hq hr hs rfl) (Four.mk ha hb hc hd rfl) _).mono ?_;rintro e w1 ⟨v,rfl,f,l,v4,t,rfl,hl,⟨R,Z,U,T,rfl,Q,O,S,X,F⟩,N⟩;have i:=(lo.alloc _).call f;have A:=(hi.alloc _).call f;have z:=(pr.alloc _).call f;have j:=(re.alloc _).call f;have u:=(At4.new wr 118 0 0 0 0).call f;have I:Hid (Below C w w1):=(HB.alloc oM _).trans (f.mono (by simp;omega));clear f p0 p1 p2 p3 pf l0 l1 l2 l3 lf L K E D hf lo hi pr re;generalize hn:wr.heap.size=k4 at u z0 z1 z2 z3⊢;clear hn;have m0:C≠k4:=oM;have m1:k1≠k4:=oM;have m2:k2≠k4:=oM;have m3:B≠k4:=oM;have M:Hid (C<k4):=z0;clear z0 z1 z2 z3;have kf:Hid (l+18446744073709551616*val R Z U T=g0*val p q r s+val a b c d):=by unfold Hid;rw[<-F];exact N
     have HL:Hid (_/\_):=h5;clear N F h5 hg;have z0:=z.lt;have z1:=i.lt;have z2:=A.lt;have z3:=j.lt;have z4:=u.lt;obtain⟨p0,p1,p2,p3,pf⟩:=id z;obtain⟨l0,l1,l2,l3,lf⟩:=id i;obtain⟨L,K,E,D,hf⟩:=id A;obtain⟨t0,t1,t2,t3,tf⟩:=id u;go_wp2_with fail
     refine(kA g1 _ _ _ _ hw (Four.mk hp hq hr hs rfl) (Four.mk Q O S X rfl) _).mono ?_;rintro e w2 ⟨v,rfl,J,l',v5,t,rfl,kp,⟨a2,b2,c2,d2,rfl,kn,k8,ko,km,F⟩,N⟩;have h9:=((i.set0 l).other4 m1.symm _ _ _ _).call J;have h7:=((A.other n12 _).other4 m2.symm _ _ _ _).call J;have h8:=((z.other Y.symm _).other4 m0.symm _ _ _ _).call J;have hu:=((j.other V _).other4 m3.symm _ _ _ _).call J;have h6:=((u.other m1 _).self4 R Z U T).call J;have kd:Hid (Below C w w2):=((aL (I.setCell (p:=⟨k1,0,none⟩) k9.out _) (XN M.out) _ _ _ _).trans (J.mono (by simp;omega)))
     clear J p0 p1 p2 p3 pf l0 l1 l2 l3 lf L K E D hf t0 t1 t2 t3 tf i A z j u I z0 z1 z2 z3 z4;have kg:Hid (l'+18446744073709551616*val a2 b2 c2 d2=g1*val p q r s+val R Z U T):=by unfold Hid;rw[<-F];exact N
     clear N F;have z0:=h8.lt;have z1:=h9.lt;have z2:=h7.lt;have z3:=hu.lt;have z4:=h6.lt;obtain⟨p0,p1,p2,p3,pf⟩:=id h8;obtain⟨l0,l1,l2,l3,lf⟩:=id h9;obtain⟨L,K,E,D,hf⟩:=id h7;obtain⟨t0,t1,t2,t3,tf⟩:=id h6;go_wp2_with fail
     refine(kA g2 _ _ _ _ ki (Four.mk hp hq hr hs rfl) (Four.mk kn k8 ko km rfl) _).mono ?_;rintro e w3 ⟨v,rfl,G,h4,v6,t,rfl,kh,⟨a3,b3,c3,d3,rfl,kk,kb,kr,kl,F⟩,N⟩;have ht:=((h9.set1 l').other4 m1.symm _ _ _ _).call G;have hj:=((h7.other n12 _).other4 m2.symm _ _ _ _).call G;have ke:=((h8.other Y.symm _).other4 m0.symm _ _ _ _).call G;have kj:=((hu.other V _).other4 m3.symm _ _ _ _).call G;have kc:=((h6.other m1 _).self4 a2 b2 c2 d2).call G;have kt:Hid (Below C w w3):=((aL (kd.setCell (p:=⟨k1,1,none⟩) k9.out _) (XN M.out) _ _ _ _).trans (G.mono (by simp;omega)))
     clear G p0 p1 p2 p3 pf l0 l1 l2 l3 lf L K E D hf t0 t1 t2 t3 tf h9 h7 h8 hu h6 kd z0 z1 z2 z3 z4;have k7:Hid (h4+18446744073709551616*val a3 b3 c3 d3=g2*val p q r s+val a2 b2 c2 d2):=by unfold Hid;rw[<-F];exact N
     clear N F;have z0:=ke.lt;have z1:=ht.lt;have z2:=hj.lt;have z3:=kj.lt;have z4:=kc.lt;obtain⟨l0,l1,l2,l3,lf⟩:=id ht;obtain⟨L,K,E,D,hf⟩:=id hj;obtain⟨t0,t1,t2,t3,tf⟩:=id kc;go_wp2;go_region
     go_wp2;clear l0 l1 l2 l3 lf L K E D hf t0 t1 t2 t3 tf;obtain⟨q1,q2,q3⟩:=H.out;have W:=H0.out;subst q1 q2 q3 W;go_roundg (val l l' h4 a3+top*val b3 c3 d3 0)
     case measure=>rw[xR kf.out kg.out k7.out];exact HL.1
     case rel =>
      refine⟨l,l',h4,a3,b3,c3,d3,0,⟨?_,?_,?_,?_,?_,hl,kp,kh,kk,kb,kr,kl,dC⟩,rfl,?_⟩
      ·have s1:=(kt.setCell (p:=⟨w.heap.size+1,2,none⟩) (Y4 _) (uZ h4))
       have s2:=(aL s1 (XN M.out) (uZ a3) (uZ b3) (uZ c3) (uZ d3))
       exact(aL (s2.setCell (p:=⟨w.heap.size+1,3,none⟩) (Y4 _) (uZ a3)) oM _ _ _ _).drew
      ·exact((((ke.other Y.symm _).other4 m0.symm _ _ _ _).other Y.symm _).other4 ka.symm _ _ _ _).drew
      ·exact((((ht.set2 h4).other4 m1.symm _ _ _ _).set3 a3).other4 n12.symm _ _ _ _).drew
      ·exact((((hj.other n12 _).other4 m2.symm _ _ _ _).other n12 _).self4 b3 c3 d3 0).drew
      ·exact((((kj.other V _).other4 m3.symm _ _ _ _).other V _).other4 k6 _ _ _ _).drew
      ·unfold Hid;rw[xR kf.out kg.out k7.out,<-HE.out];exact HL.2
end
section
open Go.RowKit Go.Sort
structure At8(w:Ut)(k a b c d e f g h:Nat):Prop where
 c0:w.cell? ⟨k,0,none⟩=some (uZ a)
 c1:w.cell? ⟨k,1,none⟩=some (uZ b)
 c2:w.cell? ⟨k,2,none⟩=some (uZ c)
 c3:w.cell? ⟨k,3,none⟩=some (uZ d)
 c4:w.cell? ⟨k,4,none⟩=some (uZ e)
 c5:w.cell? ⟨k,5,none⟩=some (uZ f)
 c6:w.cell? ⟨k,6,none⟩=some (uZ g)
 c7:w.cell? ⟨k,7,none⟩=some (uZ h)
 fz:∀o,w.frozen? ⟨k,o,none⟩=false
variable {w w1:Ut}{k a b c d e f g h:Nat}
theorem At8.made(w:Ut)(t:Vb)(a b c d e f g h:Nat){k:Nat}(i:w.heap.size=k):At8 (w.alloc (.cells #[uZ a,uZ b,uZ c,uZ d,uZ e,uZ f,uZ g,uZ h] t)) k a b c d e f g h:=by
 subst i;exact⟨by rw[Ve];rfl,by rw[Ve];rfl,by rw[Ve];rfl,by rw[Ve];rfl,by rw[Ve];rfl,by rw[Ve];rfl,by rw[Ve];rfl,by rw[Ve];rfl,λo=>Wq _ _ _ _⟩
theorem mJ{k:Ut}(H:Below B k w)(q:Nat):Below B k (w.drewN q):=⟨H.os,H.tape,H.output,H.size,H.block⟩
end
section
open Go.RowKit Go.Sort
variable {P:Nat}[NeZero P]{N:Nat}
structure Gap(g0 g1 g2 P:Nat):Prop where
 h0:g0<18446744073709551616
 h1:g1<18446744073709551616
 h2:g2<18446744073709551616
 hor:(g1=0/\g2=0)\/∃o:Nat,bits .or .u64 (g1:Int) (g2:Int)=(o:Int)/\o≠0
 hP:P+val g0 g1 g2 0=top
 hP2:top<2*P
 hg:0<val g0 g1 g2 0
theorem yP{k a b c d:Nat}{w W e:Ut}(h:Hid (Below k w W))(pr:At4 W k a b c d)(f:kZ W e):Hid (Below k w e):=h.trans (f.mono (XN pr.lt))
end
section
open Go.RowKit Go.Sort
structure Blk where
 k:Nat
 o:Nat
 a:Nat
 b:Nat
 c:Nat
 d:Nat
structure Blk.at(x:Blk)(w:Ut):Prop where
 c0:w.cell? ⟨x.k,x.o,none⟩=some (uZ (x.a:Int))
 c1:w.cell? ⟨x.k,x.o+1,none⟩=some (uZ (x.b:Int))
 c2:w.cell? ⟨x.k,x.o+2,none⟩=some (uZ (x.c:Int))
 c3:w.cell? ⟨x.k,x.o+3,none⟩=some (uZ (x.d:Int))
 f:∀o,w.frozen? ⟨x.k,o,none⟩=false
structure Kept(w:Ut)(k0:Nat)(l:List Blk)(W:Ut):Prop where
 bl:Below k0 w W
 le:k0<=W.heap.size
 at':∀x∈l,x.at W
variable {w W w1:Ut}{k0:Nat}{l:List Blk}{x:Blk}
theorem Blk.at.lt(h:x.at W):x.k<W.heap.size:=Xf _ _ h.c0
theorem Blk.at.call(h:x.at W)(k:kZ W w1):x.at w1:=
 ⟨by rw[k.cell (p:=⟨x.k,x.o,none⟩) h.lt];exact h.c0,by rw[k.cell (p:=⟨x.k,x.o+1,none⟩) h.lt];exact h.c1,by rw[k.cell (p:=⟨x.k,x.o+2,none⟩) h.lt];exact h.c2,by rw[k.cell (p:=⟨x.k,x.o+3,none⟩) h.lt];exact h.c3,
  λo=>by rw[k.frozen (p:=⟨x.k,o,none⟩) h.lt];exact h.f o⟩
theorem Blk.at.other{i: Nat}(h : x.at W)(hj : j ≠ x.k)(v : Uv): x.at (W.setCell ⟨j, i, none⟩ v) :=
  ⟨by rw [UV _ _ _ _ (bH (U6 hj))]; exact h.c0, by rw [UV _ _ _ _ (bH (U6 hj))]; exact h.c1,
   by rw [UV _ _ _ _ (bH (U6 hj))]; exact h.c2, by rw [UV _ _ _ _ (bH (U6 hj))]; exact h.c3, λo => by rw [VK]; exact h.f o⟩
theorem Kept.call(h:Kept w k0 l W)(k:kZ W w1):Kept w k0 l w1:=
 ⟨h.bl.trans (k.mono h.le),UE h.le k.size,λx hx=>(h.at' x hx).call k⟩
theorem Kept.drew(h:Kept w k0 l W):Kept w k0 l W.drew:=⟨h.bl.drew,h.le,λx hx=>⟨(h.at' x hx).c0,(h.at' x hx).c1,(h.at' x hx).c2,(h.at' x hx).c3,(h.at' x hx).f⟩⟩
theorem Kept.undrew(h:Kept w k0 l W.drew):Kept w k0 l W:=
 ⟨⟨h.bl.os,h.bl.tape,h.bl.output,h.bl.size,h.bl.block⟩,h.le,λx hx=>⟨(h.at' x hx).c0,(h.at' x hx).c1,(h.at' x hx).c2,(h.at' x hx).c3,(h.at' x hx).f⟩⟩
theorem Kept.alloc(h:Kept w k0 l W)(o:Obj):Kept w k0 l (W.alloc o):=h.call (aC W o)
theorem Kept.set{i:Nat}(h:Kept w k0 l W)(b:k0<=j)(k:∀x∈l,j≠x.k)(v:Uv):Kept w k0 l (W.setCell ⟨j,i,none⟩ v):=
 ⟨h.bl.setCell (p:=⟨j,i,none⟩) b v,by simpa using h.le,λx hx=>(h.at' x hx).other (k x hx) v⟩
theorem Kept.set4(h:Kept w k0 l W)(b:k0<=j)(k:∀x∈l,j≠x.k)(p q r s:Uv):Kept w k0 l (Go.Proofs.YtdoammpgchejcaaGreat.set4 W j p q r s):=
 (((h.set b k p).set b k q).set b k r).set b k s
theorem Kept.set4'(h:Kept w k0 l W)(b:k0<=j)(k:∀x∈l,j≠x.k)(p q r s:Uv):
 Kept w k0 l ((((W.setCell (aZ j) p).setCell ⟨j,1,none⟩ q).setCell ⟨j,2,none⟩ r).setCell ⟨j,3,none⟩ s):=h.set4 b k p q r s
theorem Kept.lts(h:Kept w k0 l W):∀x∈l,x.k<W.heap.size:=λx hx=>(h.at' x hx).lt
theorem Kept.head(h:Kept w k0 (x :: l) W):x.at W:=h.at' x (Vo)
theorem Kept.tail(h:Kept w k0 (x :: l) W):Kept w k0 l W:=⟨h.bl,h.le,λy k=>h.at' y (Vd _ k)⟩
theorem At4.blk{k a b c d:Nat}(h:At4 W k a b c d):(Blk.mk k 0 a b c d).at W:=⟨h.c0,h.c1,h.c2,h.c3,h.f⟩
theorem Blk.at.at4{k a b c d:Nat}(h:(Blk.mk k 0 a b c d).at W):At4 W k a b c d:=⟨h.c0,h.c1,h.c2,h.c3,h.f⟩
theorem Kept.mk1(b:Below k0 w W)(k:k0<=W.heap.size):Kept w k0 [] W:=⟨b,k,λ_ h=>by cases h⟩
theorem Kept.cons(h:Kept w k0 l W)(hx:x.at W):Kept w k0 (x :: l) W:=
 ⟨h.bl,h.le,λy b=>by rcases V0.1 b with rfl|k;exact hx;exact h.at' y k⟩
theorem Kept.put{a b c d:Nat}(h:Kept w k0 (⟨j,0,a,b,c,d⟩ :: l) W)(e:k0<=j)(k:∀x∈l,j≠x.k)(x y z t:Nat):
 Kept w k0 (⟨j,0,x,y,z,t⟩ :: l) ((((W.setCell (aZ j) (uZ x)).setCell ⟨j,1,none⟩ (uZ y)).setCell ⟨j,2,none⟩ (uZ z)).setCell ⟨j,3,none⟩ (uZ t)):=
 (h.tail.set4' e k _ _ _ _).cons (h.head.at4.self4 x y z t).blk
end
section
open Go.RowKit Go.Sort
variable {P:Nat}[NeZero P]{N:Nat}
theorem Cq(w:Ut)(t0 t1 t2 q:Vb)(a b c d e f g h i j k l m n o p:Nat):
 Kept w w.heap.size [⟨w.heap.size,0,a,b,c,d⟩,⟨w.heap.size+1,0,e,f,g,h⟩,⟨w.heap.size+1+1,0,i,j,k,l⟩,⟨w.heap.size+1+1+1,0,m,n,o,p⟩]
  ((((w.alloc (.cells #[uZ a,uZ b,uZ c,uZ d] t0)).alloc (.cells #[uZ e,uZ f,uZ g,uZ h] t1)).alloc (.cells #[uZ i,uZ j,uZ k,uZ l] t2)).alloc (.cells #[uZ m,uZ n,uZ o,uZ p] q)):=by
 refine((((Kept.mk1 (Eg w _ _ _ _) (Eg w _ _ _ _).size).cons ?_).cons ?_).cons ?_).cons ?_
 ·exact(At4.made _ q m n o p (by simp)).blk
 ·exact((At4.made _ t2 i j k l (by simp)).alloc _).blk
 ·exact(((At4.made _ t1 e f g h (by simp)).alloc _).alloc _).blk
 ·exact((((At4.made _ t0 a b c d rfl).alloc _).alloc _).alloc _).blk
theorem Mj{k b c P n l:Nat}(hG:Gap k b c P)(d:s+top*0=m+n)(f:l+top*0=s+val k b c 0)(e:l<top):(m+n)%P=s:=by
 have:=hG.hP;rw[<-d,Zn,Xm,UU oM]
theorem Mk{e f g P n l k:Nat}(hG:Gap e f g P)(w:m<P)(x:n<P)(o:s+top*k=m+n)(p:l+top*j=s+val e f g 0)(t:k<=1)(u:j<=1)(i:¬(k=0/\j=0))(q:s<top)(_:l<top):(m+n)%P=l:=by
 have r:=hG.hP;have v:=hG.hP2;have b:k=0\/k=1:=oM;have c:j=0\/j=1:=oM;have:m+n=l+P:=by
  rcases b with h|h<;>rcases c with d|d<;>rw[h]at o<;>rw[d]at p<;>first|omega|(exfalso;exact i ⟨h,d⟩)
 rw[this,yA8,UU oM]
theorem or2(a b:Nat)(e:a<=1)(d:b<=1):∃o:Nat,bits .or .u64 (a:Int) (b:Int)=(o:Int)/\(o=0↔(a=0/\b=0)):=by
 have k:a=0\/a=1:=oM;have c:b=0\/b=1:=oM;rcases k with rfl|rfl<;>rcases c with rfl|rfl
 ·exact⟨0,dK,dC⟩
 ·exact⟨1,dK,dC⟩
 ·exact⟨1,dK,dC⟩
 ·exact⟨1,dK,dC⟩
theorem I8{P n:Nat}(k:m<P)(c:n<P)(b:s+n=m+top*0):(m+P-n)%P=s:=by
 rw[show m+P-n=s+P by omega,yA8,UU oM]
theorem I9{b c d P n l:Nat}(hG:Gap b c d P)(_:m<P)(r:n<P)(o:s+n=m+top*1)(f:l+val b c d 0=s+top*j)(p:j<=1)(q:l<top)(g:s<top):(m+P-n)%P=l:=by
 have i:=hG.hP;have k:j=0\/j=1:=oM;have:m+P-n=l:=by
  rcases k with e|e<;>rw[e]at f<;>omega
 rw[this,UU oM]
theorem sum_any(J O N P:Nat)(x y:Uv)(m n:Nat)(hG:Gap J O N P)(hx:Four x m)(W:Four y n)(hm:m<P)(hn:n<P)(w:Ut):
 UK prog 215 #[.agg #[uZ J,uZ O,uZ N,uZ 0],x,y] w (rZ w λe w'=>Four e ((m+n)%P)):=by
 obtain⟨a,b,c,d,rfl,ha,hb,hc,hd,em⟩:=id hx;obtain⟨p,q,r,s,rfl,hp,hq,hr,hs,en⟩:=id W;clear em en ha hb hc hd hp hq hr hs;go_enter func215,ntmps215;go_wp2_with fail
 have u:=Cq w 120 118 118 118 J O N 0 a b c d p q r s 0 0 0 0;simp only[WM]at u;generalize XB _ _=W0 at u⊢;generalize h3:w.heap.size+1+1+1=k3 at u⊢;generalize h2:w.heap.size+1+1=k2 at u⊢;generalize h1:w.heap.size+1=k1 at u⊢;have S:Hid (w.heap.size<=k3):=by unfold Hid;omega
 generalize h0:w.heap.size=k0 at u S⊢;have H0:Hid (w.heap.size=k0):=h0;have T:k0≠k3:=oM;clear h0 h1 h2 h3;refine(qU _ _ _ _ hx W _).mono ?_;rintro e X ⟨v,rfl,V,v2,t,k,rfl,⟨I,b1,c1,H,rfl,B,i,z,F,M⟩,hk,K⟩;have HE:Hid (val I b1 c1 H+top*k=m+n):=by unfold Hid;rw[<-M];exact K
 clear M K;replace u:=u.call V;have f:=(u.alloc (.cells #[uZ I,uZ b1,uZ c1,uZ H] 118)).cons (At4.made X 118 I b1 c1 H rfl).blk;have m0:=Xk u.head.lt;have m3:=Xk u.tail.tail.tail.head.lt;obtain⟨k5,h7,h4,ht,pf⟩:=f.tail.head.at4;have z0:=f.tail.head.lt;go_wp2_with fail
 refine(qU _ _ _ _ (Four.mk B i z F rfl) (Four.mk hG.h0 hG.h1 hG.h2 dC rfl) _).mono ?_;rintro e w2 ⟨v,rfl,U,v3,t2,j,rfl,⟨a2,Q,c2,L,rfl,C,g,D,A,M⟩,Z,K⟩;have G:Hid (val a2 Q c2 L+top*j=val I b1 c1 H+val J O N 0):=by unfold Hid;rw[<-M];exact K
 replace f:=f.call U;have HG:=mk1 (hG);have Y:=mk2 hm hn;clear hG hm hn hx W m0 T;generalize X.heap.size=k4 at f m3⊢;obtain⟨hu,hi,hw,h9,sf⟩:=f.head.at4;obtain⟨hl,h8,hg,h6,rf⟩:=f.tail.tail.tail.tail.head.at4;have z4:=f.head.lt;have z3:=f.tail.tail.tail.tail.head.lt;obtain⟨o,ho,E⟩:=or2 k j hk Z;by_cases R:k=0/\j=0
 ·obtain⟨rfl,rfl⟩:=R;obtain rfl:o=0:=E.2 ⟨rfl,rfl⟩;clear E;replace ho:bits .or .u64 0 0=0:=ho;go_wp2;have l:=(f.tail.tail.tail.tail.head.at4.self4 I b1 c1 H).alloc (.cells #[uZ a2,uZ Q,uZ c2,uZ L] 118);unfold set4 at l;refine UH (v:=?v0) ?hr0 rfl ?hR0
  case hr0=>simp[results,Tryz.results215,go_sem,l.c0,l.c1,l.c2,l.c3];rfl
  refine⟨_,rfl,?_,Four.mk B i z F (Mj HG.out HE.out G.out (mN C g D A))⟩;rw[H0.out];exact(aL f.bl S.out _ _ _ _).alloc (by simpa[set4]using f.le) _
 ·have h5:¬o=0:=λh=>R (E.1 h)
  go_wp2;have l:=(f.tail.tail.tail.tail.head.at4.self4 a2 Q c2 L).alloc (.cells #[uZ a2,uZ Q,uZ c2,uZ L] 118);unfold set4 at l;refine UH (v:=?v1) ?hr1 rfl ?hR1
  case hr1=>simp[results,Tryz.results215,go_sem,l.c0,l.c1,l.c2,l.c3];rfl
  refine⟨_,rfl,?_,Four.mk C g D A (Mk HG.out Y.1 Y.2 HE.out G.out hk Z R (mN B i z F) (mN C g D A))⟩;rw[H0.out];exact(aL f.bl S.out _ _ _ _).alloc (by simpa[set4]using f.le) _
theorem nM(K O N P:Nat)(x y:Uv)(m n:Nat)(hG:Gap K O N P)(hx:Four x m)(hy:Four y n)(hm:m<P)(hn:n<P)(w:Ut):
 UK prog 221 #[.agg #[uZ K,uZ O,uZ N,uZ 0],x,y] w (rZ w λe w'=>Four e ((m+P-n)%P)):=by
 obtain⟨a,b,c,d,rfl,ha,hb,hc,hd,em⟩:=id hx;obtain⟨p,q,r,s,rfl,hp,hq,hr,hs,en⟩:=id hy;clear em en ha hb hc hd hp hq hr hs;go_enter func221,ntmps221;go_wp2_with fail
 have g:=Cq w 120 118 118 118 K O N 0 a b c d p q r s 0 0 0 0;simp only[WM]at g;generalize XB _ _=W0 at g⊢;generalize h3:w.heap.size+1+1+1=k3 at g⊢;generalize h2:w.heap.size+1+1=k2 at g⊢;generalize h1:w.heap.size+1=k1 at g⊢;have V:Hid (w.heap.size<=k3):=by unfold Hid;omega
 generalize h0:w.heap.size=k0 at g V⊢;have H0:=mk1 (h0);refine(sK _ _ _ _ hx hy _).mono ?_;rintro e w1 ⟨v,rfl,X,v2,t,k,rfl,⟨C,b1,c1,B,rfl,z,i,u,A,T⟩,hk,Q⟩;have HE:Hid (val C b1 c1 B+n=m+top*k):=by unfold Hid;rw[<-T];exact Q
 replace g:=g.call X;have f:=(g.alloc (.cells #[uZ C,uZ b1,uZ c1,uZ B] 118)).cons (At4.made w1 118 C b1 c1 B rfl).blk;have m0:=Xk g.head.lt;have m3:=Xk g.tail.tail.tail.head.lt;have M:=mk1 (hG);have L:=mk2 hm hn;have Q4:=mk1 (g.le);have U:k=0\/k=1:=oM;obtain⟨J,G,I,F,rf⟩:=g.tail.tail.tail.head.at4;have Z:=g.tail.tail.tail.head.lt;rcases U with rfl|rfl
 ·clear f;go_wp2;have l:=(g.tail.tail.tail.head.at4.self4 C b1 c1 B).alloc (.cells #[uZ C,uZ b1,uZ c1,uZ B] 118);unfold set4 at l;refine UH (v:=?v0) ?hr0 rfl ?hR0
  case hr0=>simp[results,Tryz.results221,go_sem,l.c0,l.c1,l.c2,l.c3];rfl
  refine⟨_,rfl,?_,Four.mk z i u A (I8 L.1 L.2 HE.out)⟩;rw[H0.out];exact(aL g.bl V.out _ _ _ _).alloc (by simpa[set4]using g.le) _
 ·clear g J G I F rf Z;obtain⟨hi,h5,h4,h8,pf⟩:=f.tail.head.at4;have z0:=f.tail.head.lt;go_wp2_with fail
  refine(sK _ _ _ _ (Four.mk z i u A rfl) (Four.mk M.h0 M.h1 M.h2 dC rfl) _).mono ?_;rintro e w2 ⟨v,rfl,W,v3,t2,j,rfl,⟨a2,Y,c2,R,rfl,E,o,H,D,T⟩,hj,Q⟩;have S:Hid (val a2 Y c2 R+val K O N 0=val C b1 c1 B+top*j):=by unfold Hid;rw[<-T];exact Q
  replace f:=f.call W;obtain⟨h9,h7,hg,h6,sf⟩:=f.head.at4;obtain⟨J,G,I,F,rf⟩:=f.tail.tail.tail.tail.head.at4;have z4:=f.head.lt;have Z:=f.tail.tail.tail.tail.head.lt;go_wp2;have l:=(f.tail.tail.tail.tail.head.at4.other4 m3.symm (uZ a2) (uZ Y) (uZ c2) (uZ R)).self4 a2 Y c2 R;unfold set4 at l;refine UH (v:=?v1) ?hr1 rfl ?hR1
  case hr1=>simp[results,Tryz.results221,go_sem,l.c0,l.c1,l.c2,l.c3];rfl
  refine⟨_,rfl,?_,Four.mk E o H D (I9 M.out L.1 L.2 HE.out S.out hj (mN E o H D) (mN z i u A))⟩;rw[H0.out];exact aL (aL f.bl Q4.out _ _ _ _) V.out _ _ _ _
theorem IC{a b c d n f s0 t0 u0 k g i e:Nat}(j:m=val a b c d)
 (o:f+18446744073709551616*k=a*n+val 0 0 0 0)
 (p:s0+18446744073709551616*g=b*n+k)
 (l:t0+18446744073709551616*i=c*n+g)
 (e3:u0+18446744073709551616*e=d*n+i) :
 val f s0 t0 u0+top*e=m*n:=by
 have l:val a b c d*n=val (a*n) (b*n) (c*n) (d*n):=by
  rw[Vv,EV,Vv n a,Vv n b,Vv n c,Vv n d]
 rw[j,l];unfold val at *;unfold top;omega
theorem dO(g0 g1 g2 P:Nat)(x y:Uv)(m n:Nat)(hG:Gap g0 g1 g2 P)(hx:Four x m)(I:Four y n)(w:Ut):
 UK prog 213 #[.agg #[uZ g0,uZ g1,uZ g2,uZ 0],x,y] w (rZ w λe w'=>Four e (m*n%P)):=by
 obtain⟨a,b,c,d,rfl,ha,hb,hc,hd,em⟩:=hx;obtain⟨p,q,r,s,rfl,hp,hq,hr,hs,en⟩:=id I;have HM:Hid (m=val a b c d):=em;clear em en;go_enter func213,ntmps213;go_wp2_with fail
 have D:=Cq w 120 118 118 118 g0 g1 g2 0 a b c d p q r s 0 0 0 0;simp only[WM]at D;have PR:=D.head.at4;have X:=D.tail.head.at4;have Y:=D.tail.tail.head.at4;have f:=D.tail.tail.tail.head.at4;have BL:Hid (Below w.heap.size w _):=D.bl;clear D;generalize XB _ _=w1 at X Y PR f BL⊢;generalize h3:w.heap.size+1+1+1=k3 at f⊢;generalize h2:w.heap.size+1+1=k4 at Y⊢;generalize h1:w.heap.size+1=k1 at X⊢;have Q3:Hid (w.heap.size<=k3):=by unfold Hid;omega
 generalize h0:w.heap.size=E at PR BL Q3⊢;have kd:E≠k3:=oM;have kf:k1≠k3:=oM;have H0:Hid (w.heap.size=E):=h0;clear h0 h1 h2 h3;refine(kA a _ _ _ _ ha I (Four.mk (a:=0) (b:=0) (c:=0) (d:=0) dC dC dC dC rfl) _).mono ?_;rintro e w2 ⟨v,rfl,i,l0,v2,t0,rfl,h6,⟨a0,b0,c0,d0,rfl,hu,hm,h9,hl,z⟩,u⟩;have k7:Hid (l0+18446744073709551616*val a0 b0 c0 d0=a*n+val 0 0 0 0):=by unfold Hid;rw[<-z];exact u
 clear u z;replace BL:Hid (Below E w w2):=yP BL PR i;replace X:=X.call i;replace Y:=Y.call i;replace f:=f.call i;replace PR:=PR.call i;obtain⟨J,S,Q,U,xf⟩:=id X;have z1:=X.lt;obtain⟨Z,V,M,H,yf⟩:=id Y;have z4:=Y.lt;obtain⟨t,l,o,j,rf⟩:=id f;have z3:=f.lt;obtain⟨F,B,A,C,pf⟩:=id PR;have z0:=PR.lt;go_wp2_with fail
 refine(kA b _ _ _ _ hb I (Four.mk hu hm h9 hl rfl) _).mono ?_;rintro e w3 ⟨v,rfl,g,l1,v3,t1,rfl,h7,⟨a1,b1,c1,d1,rfl,hj,k8,hg,k6,z⟩,u⟩;have hw:Hid (l1+18446744073709551616*val a1 b1 c1 d1=b*n+val a0 b0 c0 d0):=by unfold Hid;rw[<-z];exact u
 have G:=Xk PR.lt;have j1:=Xk X.lt;have j3:=Xk f.lt;have j4:=Xk Y.lt;have J0:=mk1 (XN PR.lt);have T:=(At4.made w2 118 a0 b0 c0 d0 rfl).call g;replace BL:Hid (Below E w w3):=yP (W:=w2.alloc (.cells #[uZ a0,uZ b0,uZ c0,uZ d0] 118)) (BL.alloc (XN PR.lt) _) (PR.alloc _) g;replace X:=(X.alloc _).call g;replace Y:=(Y.alloc _).call g;replace f:=(f.alloc _).call g;replace PR:=(PR.alloc _).call g;obtain⟨J,S,Q,U,xf⟩:=id X;have z1:=X.lt;obtain⟨Z,V,M,H,yf⟩:=id Y;have z4:=Y.lt;obtain⟨t,l,o,j,rf⟩:=id f;have z3:=f.lt;obtain⟨F,B,A,C,pf⟩:=id PR;have z0:=PR.lt;obtain⟨K,R,L,N,tf⟩:=id T;have z5:=T.lt;go_wp2_with fail
 refine(kA c _ _ _ _ hc I (Four.mk hj k8 hg k6 rfl) _).mono ?_;rintro e w4 ⟨v,rfl,k,l2,v4,t4,rfl,k2,⟨a2,b2,c2,d2,rfl,hk,i,hn,hi,z⟩,u⟩;have hz:Hid (l2+18446744073709551616*val a2 b2 c2 d2=c*n+val a1 b1 c1 d1):=by unfold Hid;rw[<-z];exact u
 replace BL:Hid (Below E w w4):=yP (aL BL.out J0.out _ _ _ _) (PR.other4 G.symm _ _ _ _) k;replace X:=(X.other4 j1.symm _ _ _ _).call k;replace Y:=(Y.other4 j4.symm _ _ _ _).call k;replace f:=(f.other4 j3.symm _ _ _ _).call k;replace PR:=(PR.other4 G.symm _ _ _ _).call k;replace T:=(T.self4 a1 b1 c1 d1).call k;obtain⟨J,S,Q,U,xf⟩:=id X;have z1:=X.lt;obtain⟨Z,V,M,H,yf⟩:=id Y;have z4:=Y.lt;obtain⟨t,l,o,j,rf⟩:=id f;have z3:=f.lt;obtain⟨F,B,A,C,pf⟩:=id PR;have z0:=PR.lt;obtain⟨K,R,L,N,tf⟩:=id T;have z5:=T.lt;go_wp2_with fail
 refine(kA d _ _ _ _ hd I (Four.mk hk i hn hi rfl) _).mono ?_;rintro e w5 ⟨v,rfl,k,l3,v4,t4,rfl,ht,⟨a3,b3,c3,d3,rfl,h4,g,k5,h8,z⟩,u⟩;have h5:Hid (l3+18446744073709551616*val a3 b3 c3 d3=d*n+val a2 b2 c2 d2):=by unfold Hid;rw[<-z];exact u
 replace BL:Hid (Below E w w5):=yP (aL BL.out J0.out _ _ _ _) (PR.other4 G.symm _ _ _ _) k;replace X:=(X.other4 j1.symm _ _ _ _).call k;replace Y:=(Y.other4 j4.symm _ _ _ _).call k;replace f:=(f.other4 j3.symm _ _ _ _).call k;replace PR:=(PR.other4 G.symm _ _ _ _).call k;replace T:=(T.self4 a2 b2 c2 d2).call k;obtain⟨t,l,o,j,rf⟩:=id f;have z3:=f.lt;obtain⟨F,B,A,C,pf⟩:=id PR;have z0:=PR.lt;obtain⟨K,R,L,N,tf⟩:=id T;have z5:=T.lt;go_wp2_with fail
 refine(xT g0 g1 g2 _ _ _ _ P hG.h0 hG.h1 hG.h2 hG.hor hG.hP hG.hP2 (Four.mk h6 h7 k2 ht rfl) (Four.mk h4 g k5 h8 rfl) _).mono ?_;rintro e w6 ⟨v,rfl,k,hv⟩;rw[IC HM.out k7.out hw.out hz.out h5.out]at hv;replace BL:Hid (Below E w w6):=yP (aL BL.out J0.out _ _ _ _) (PR.other4 G.symm _ _ _ _) k;replace f:=(f.other4 j3.symm _ _ _ _).call k;replace PR:=(PR.other4 G.symm _ _ _ _).call k;obtain⟨a7,b7,c7,d7,rfl,kb,k9,ke,kc,ka⟩:=id hv;have HV:=mk1 (hv);obtain⟨t,l,o,j,rf⟩:=id f;have z3:=f.lt;go_wp2;have O:=f.self4 a7 b7 c7 d7;unfold set4 at O;refine UH (v:=?v) ?hr rfl ?hR
 case hr=>simp[results,Tryz.results213,go_sem,O.c0,O.c1,O.c2,O.c3];rfl
 refine⟨_,rfl,?_,HV.out⟩;rw[H0.out];exact aL BL.out Q3.out _ _ _ _
theorem Ay{w W:Ut}{k f e a b c d p g i:Nat}(h:Kept w k [⟨k,0,g,i,j,0⟩,⟨f,0,a,b,c,d⟩,⟨e,0,p,q,r,s⟩] W):W.cell? ⟨k,0,none⟩=some (uZ g)/\W.cell? ⟨k,1,none⟩=some (uZ i)/\W.cell? ⟨k,2,none⟩=some (uZ j)/\W.cell? ⟨k,3,none⟩=some (uZ 0)/\W.cell? ⟨f,0,none⟩=some (uZ a)/\W.cell? ⟨f,1,none⟩=some (uZ b)/\W.cell? ⟨f,2,none⟩=some (uZ c)/\W.cell? ⟨f,3,none⟩=some (uZ d)/\W.cell? ⟨e,0,none⟩=some (uZ p)/\W.cell? ⟨e,1,none⟩=some (uZ q)/\W.cell? ⟨e,2,none⟩=some (uZ r)/\W.cell? ⟨e,3,none⟩=some (uZ s)/\Kept w k [⟨k,0,g,i,j,0⟩,⟨f,0,a,b,c,d⟩,⟨e,0,p,q,r,s⟩] W:=
 ⟨h.head.c0,h.head.c1,h.head.c2,h.head.c3,h.tail.head.c0,h.tail.head.c1,h.tail.head.c2,h.tail.head.c3,h.tail.tail.head.c0,h.tail.tail.head.c1,h.tail.tail.head.c2,h.tail.tail.head.c3,h⟩
theorem rR(l o t:Nat)(x y:Uv)(m n R:Nat)(hx:Four x m)(P:Four y n)(w:Ut):((∀w,UK prog 215 #[.agg #[.int .u64 l,.int .u64 o,.int .u64 t,.int .u64 0],x,y] w (Ret λe w'=>Below w.heap.size w w'/\Four e R))->UK prog 155 #[.agg #[.int .u64 l,.int .u64 o,.int .u64 t,.int .u64 0],x,y] w (Ret λe w'=>Below w.heap.size w w'/\Four e R))/\((∀w,UK prog 221 #[.agg #[.int .u64 l,.int .u64 o,.int .u64 t,.int .u64 0],x,y] w (Ret λe w'=>Below w.heap.size w w'/\Four e R))->UK prog 198 #[.agg #[.int .u64 l,.int .u64 o,.int .u64 t,.int .u64 0],x,y] w (Ret λe w'=>Below w.heap.size w w'/\Four e R))/\((∀w,UK prog 213 #[.agg #[.int .u64 l,.int .u64 o,.int .u64 t,.int .u64 0],x,y] w (Ret λe w'=>Below w.heap.size w w'/\Four e R))->UK prog 154 #[.agg #[.int .u64 l,.int .u64 o,.int .u64 t,.int .u64 0],x,y] w (Ret λe w'=>Below w.heap.size w w'/\Four e R)):=by
 obtain⟨a,b,c,d,rfl,ha,hb,hc,hd,em⟩:=id hx;obtain⟨p,q,r,s,rfl,hp,hq,hr,W,en⟩:=id P;have HX:=mk1 (hx);have HY:=mk1 (P);refine⟨λG=>?_,λG=>?_,λG=>?_⟩;all_goals replace G:Hid _:=G
 all_goals clear em en hx P ha hb hc hd hp hq hr W
 case' refine_1=>go_enter func155,ntmps155
 case' refine_2=>go_enter func198,ntmps198
 case' refine_3=>go_enter func154,ntmps154
 all_goals
  go_wp2_with fail
  have g:=Cq w 120 47 47 47 l o t 0 a b c d p q r s 0 0 0 0;simp only[WM]at g;generalize h3:w.heap.size+1+1+1=T at g⊢;generalize h2:w.heap.size+1+1=E at g⊢;generalize h1:w.heap.size+1=F at g⊢;have L:Hid (w.heap.size<=T):=by unfold Hid;omega
  generalize h0:w.heap.size=C at g L⊢;have Y:Hid (w.heap.size=C):=h0;have H:∀x∈([⟨C,0,l,o,t,0⟩,⟨F,0,a,b,c,d⟩,⟨E,0,p,q,r,s⟩]:List Blk),T≠x.k:=by simp only[V0,U1,or_false];rintro x (rfl|rfl|rfl)<;>simp only<;>omega
  have i:=(((Kept.mk1 g.bl g.le).cons g.tail.tail.head).cons g.tail.head).cons g.head;have T3:=g.tail.tail.tail.head.at4;obtain⟨u,A,z,B,M⟩:=id T3;have K:=T3.lt;go_region_held3 (λw'=>w'.cell? ⟨C,0,none⟩=some (.int .u64 l)/\w'.cell? ⟨C,1,none⟩=some (.int .u64 o)/\w'.cell? ⟨C,2,none⟩=some (.int .u64 t)/\w'.cell? ⟨C,3,none⟩=some (.int .u64 0)/\w'.cell? ⟨F,0,none⟩=some (.int .u64 a)/\w'.cell? ⟨F,1,none⟩=some (.int .u64 b)/\w'.cell? ⟨F,2,none⟩=some (.int .u64 c)/\w'.cell? ⟨F,3,none⟩=some (.int .u64 d)/\w'.cell? ⟨E,0,none⟩=some (.int .u64 p)/\w'.cell? ⟨E,1,none⟩=some (.int .u64 q)/\w'.cell? ⟨E,2,none⟩=some (.int .u64 r)/\w'.cell? ⟨E,3,none⟩=some (.int .u64 s)/\Kept w C [⟨C,0,l,o,t,0⟩,⟨F,0,a,b,c,d⟩,⟨E,0,p,q,r,s⟩] w') (first|(with_reducible exact Ay i)|(with_reducible exact Ay i.drew)|(with_reducible exact Ay (i.set4' L.out H _ _ _ _))|(with_reducible exact Ay (i.set4' L.out H _ _ _ _).drew)|fail) (first|(go_at_call_of 127 (U5 #[V2 .u64 a,V2 .u64 b,V2 .u64 c,V2 .u64 d]);refine(jP _ _ HX.out _).mono ?_;rintro e O ⟨v,rfl,k,rfl⟩;(first|(with_reducible (have f:=i.drew.call k))|(with_reducible (have f:=i.call k))|fail);(first|(with_reducible (have j:=T3.drew.call k))|(with_reducible (have j:=T3.call k))|fail);clear i T3 k;have i:=f;have T3:=j;clear f j;obtain⟨u,A,z,B,M⟩:=id T3;have K:=T3.lt)|(go_at_call_of 127 (U5 #[V2 .u64 p,V2 .u64 q,V2 .u64 r,V2 .u64 s]);refine(jP _ _ HY.out _).mono ?_;rintro e O ⟨v,rfl,k,rfl⟩;(first|(with_reducible (have f:=i.drew.call k))|(with_reducible (have f:=i.call k))|fail);(first|(with_reducible (have j:=T3.drew.call k))|(with_reducible (have j:=T3.call k))|fail);clear i T3 k;have i:=f;have T3:=j;clear f j;obtain⟨u,A,z,B,M⟩:=id T3;have K:=T3.lt)|((first|go_at_call 215|go_at_call 221|go_at_call 213);refine(G _).mono ?_;rintro e O ⟨v,rfl,k,D⟩;obtain⟨Q,U,V,S,rfl,Z,X,h5,h4,N⟩:=id D;clear N;have I:Hid (Four _ _):=D;clear D;(first|(with_reducible (have f:=i.drew.call k))|(with_reducible (have f:=i.call k))|fail);(first|(with_reducible (have j:=T3.drew.call k))|(with_reducible (have j:=T3.call k))|fail);clear i T3 k;have i:=f;have T3:=j;clear f j;obtain⟨u,A,z,B,M⟩:=id T3;have K:=T3.lt)|(go_at_call 214;refine(jK _ _ I.out _).mono ?_;rintro e O ⟨v,rfl,k,rfl⟩;(first|(with_reducible (have f:=i.drew.call k))|(with_reducible (have f:=i.call k))|fail);(first|(with_reducible (have j:=T3.drew.call k))|(with_reducible (have j:=T3.call k))|fail);clear i T3 k;have i:=f;have T3:=j;clear f j;obtain⟨u,A,z,B,M⟩:=id T3;have K:=T3.lt))
  all_goals (try go_wp2)
  all_goals (have J:=T3.self4 Q U V S)
  all_goals unfold set4 at J
  all_goals (refine UH (v:=(.agg #[.int .u64 Q,.int .u64 U,.int .u64 V,.int .u64 S])) ?_ rfl ?_)
  all_goals first|(refine⟨_,rfl,?_,I.out⟩;rw[Y.out];exact aL i.bl L.out _ _ _ _)|(simp[results,Tryz.results155,Tryz.results198,Tryz.results154,go_sem,J.c0,J.c1,J.c2,J.c3];done)|fail
theorem CY(k b c P:Nat)(x y:Uv)(m n:Nat)(hG:Gap k b c P)(hx:Four x m)(d:Four y n)(f:m<P)(g:n<P)(w:Ut):
 UK prog 155 #[.agg #[uZ k,uZ b,uZ c,uZ 0],x,y] w (rZ w λe w'=>Four e ((m+n)%P)):=
 (rR k b c x y m n _ hx d w).1 (λw=>sum_any k b c P _ _ m n hG hx d f g w)
theorem tJ(k b c P:Nat)(x y:Uv)(m n:Nat)(hG:Gap k b c P)(hx:Four x m)(d:Four y n)(f:m<P)(g:n<P)(w:Ut):
 UK prog 198 #[.agg #[uZ k,uZ b,uZ c,uZ 0],x,y] w (rZ w λe w'=>Four e ((m+P-n)%P)):=
 (rR k b c x y m n _ hx d w).2.1 (λw=>nM k b c P _ _ m n hG hx d f g w)
theorem oN(k b c P:Nat)(x y:Uv)(m n:Nat)(hG:Gap k b c P)(hx:Four x m)(d:Four y n)(w:Ut):
 UK prog 154 #[.agg #[uZ k,uZ b,uZ c,uZ 0],x,y] w (rZ w λe w'=>Four e (m*n%P)):=
 (rR k b c x y m n _ hx d w).2.2 (λw=>dO k b c P _ _ m n hG hx d w)
end
section
variable {P:Nat}[NeZero P]{N:Nat}
theorem J6(m i s:Nat):m/2^i%2^(s+1)=2*(m/2^(i+1)%2^s)+m/2^i%2:=by
 have e:m/2^(i+1)=m/2^i/2:=by rw[V8,YD]
 rw[e,V8,Vv (2^s),Nat.mod_mul];omega
theorem low_bit(y z r:Nat)(d:r<64)(b:z=y%18446744073709551616):z/2^r%2=y/2^r%2:=by
 have e:(18446744073709551616:Nat)=2^r*(2*2^(63-r)):=by
  rw[<-XK,<-V8,<-Yh,show r+1+(63-r)=64 by omega]
 have c:0<2^r:=X6 dC;have f:y/2^r=2*(2^(63-r)*(y/18446744073709551616))+z/2^r:=by
  have k:y=2^r*(2*(2^(63-r)*(y/18446744073709551616)))+z:=by
   have:=YT y 18446744073709551616;rw[b];rw[e]at this⊢;rw[XK,XK]at this;exact this.symm
  conv=>lhs;rw[k]
  rw[Nat.mul_add_div c]
 omega
def wd(a b c d q:Nat):Nat:=if q=0 then a else if q=1 then b else if q=2 then c else d
theorem Ns{a b c d:Nat}(q:Nat)(f:a<18446744073709551616)(e:b<18446744073709551616)(k:c<18446744073709551616)(hd:d<18446744073709551616):wd a b c d q<18446744073709551616:=by
 unfold wd;split;exact f;split;exact e;split;exact k;exact hd
theorem Qv{a b c d:Nat}(q:Nat)(e:q<4)(g:a<18446744073709551616)(f:b<18446744073709551616)(k:c<18446744073709551616)(hd:d<18446744073709551616):
 wd a b c d q=val a b c d/2^(64*q)%18446744073709551616:=by
 have h:q=0\/q=1\/q=2\/q=3:=oM;rcases h with rfl|rfl|rfl|rfl
 ·show a=val a b c d/1%_;unfold val;omega
 ·show b=val a b c d/18446744073709551616%_;unfold val;omega
 ·show c=val a b c d/340282366920938463463374607431768211456%_;unfold val;omega
 ·show d=val a b c d/6277101735386680763835789423207666416102355444464034512896%_;unfold val;omega
theorem Hw{a b c d:Nat}(i:Nat)(g:i<256)(f:a<18446744073709551616)(e:b<18446744073709551616)(k:c<18446744073709551616)(hd:d<18446744073709551616):
 wd a b c d (i/64)/2^(i%64)%2=val a b c d/2^i%2:=by
 rw[low_bit _ _ (i%64) oM (Qv (i/64) oM f e k hd),YD,<-Yh,show 64*(i/64)+i%64=i by omega]
theorem kH(a P k:Nat):a^k%P*(a^k%P)%P=a^(2*k)%P:=by
 rw[<-Xz,<-Yh,Nat.two_mul]
theorem Ca(a P k l:Nat):a^k%P*(a^l%P)%P=a^(k+l)%P:=by
 rw[<-Xz,<-Yh]
theorem AP(a P k:Nat):a^k%P*a%P=a^(k+1)%P:=by
 rw[V8,Xz,yAK,<-Xz]
theorem MR(e i:Nat):e/2^i=16*(e/2^(i+4))+e/2^i%2^4:=by
 rw[Yh,<-YD];have:=YT (e/2^i) (2^4);omega
theorem Dt(a b c d:Nat):
 val (a/4+b*4611686018427387904%18446744073709551616) (b/4+c*4611686018427387904%18446744073709551616) (c/4+d*4611686018427387904%18446744073709551616) (d/4)=val a b c d/4:=by
 unfold val;omega
end
section
open Go.RowKit Go.Sort
variable {P:Nat}[NeZero P]{N:Nat}
theorem At4.wd{w:Ut}{k a b c d:Nat}(h:At4 w k a b c d)(q:Nat)(f:q<4):w.cell? ⟨k,q,none⟩=some (uZ (wd a b c d q:Int)):=by
 have e:q=0\/q=1\/q=2\/q=3:=oM;rcases e with rfl|rfl|rfl|rfl
 ·exact h.c0
 ·exact h.c1
 ·exact h.c2
 ·exact h.c3
theorem Ax(n:Nat)(h:n<9223372036854775808):VY.wrap (n:Int)=(n:Int):=by rw[Yp];omega
theorem or_bit(b t:Nat)(k:b<4294967296)(e:t<2):bits .or .i64 ((2*b:Nat):Int) (t:Int)=((2*b+t:Nat):Int):=by
 rw[(bits_nat .i64 40 dC (λn d c=>by rw[Yp];omega) (2*b) t oM oM).2];have:=YR (i:=1) (b:=t) oM b;rw[show 2^1*b=2*b from rfl]at this;rw[<-this]
theorem and_one(v:Nat)(hv:v<18446744073709551616):bits .and .u64 (v:Int) 1=((v%2:Nat):Int):=by
 have:=bits_and_u64_nat v 1 hv oM;rw[show v &&& 1=v%2 from Nat.and_one_is_mod v]at this;exact this
theorem yQ{f c g:Nat}(k:m<top)(h:g=c\/f+g=256):m/2^(f+g)%2^(c-g)=0:=by
 rcases h with rfl|h
 ·rw[Nat.sub_self,YS,yA6]
 ·rw[h,XA (by exact k),YO]
theorem Al{f g c:Nat}(b:0<g)(k:g<=c):m/2^(f+(g-1))%2^(c-(g-1))=2*(m/2^(f+g)%2^(c-g))+m/2^(f+(g-1))%2:=by
 rw[show c-(g-1)=c-g+1 by omega,J6,show f+(g-1)+1=f+g by omega]
theorem C4(x:Uv)(m f c:Nat)(hx:Four x m)(hf:f<=256)(hc:c<=32)(w:Ut):
 UK prog 220 #[x,iZ f,iZ c] w (rZ w λe w'=>e=iZ ((m/2^f%2^c:Nat):Int)):=by
 obtain⟨n,p,q,o,rfl,N,O,D,K,U⟩:=id hx;have W:=mk1 (hx);have k:=mk5 N O D K U;have S:=mk1 (W.lt);obtain⟨R,hR⟩:∃R,m/2^f%2^c=R:=⟨_,rfl⟩
 have Q:=mk1 (hR);rw[hR];by_cases T:(f:Int)+(c:Int)<=256
 ·have P:¬(256:Int)<(f:Int)+(c:Int):=oM;go_enter func220,ntmps220;go_wp2;have X:=At4.made w 47 n p q o rfl;have BL:=mk1 (aC w (.cells #[uZ n,uZ p,uZ q,uZ o] 47));generalize XB _ _=H at X BL⊢;go_loopg [7,8] c (λgk s7 s8 wr=>gk<=c/\f+gk<=256/\s7=iZ ((m/2^(f+gk)%2^(c-gk):Nat):Int)/\s8=iZ ((f:Int)+(gk:Int)-1)/\H=wr)
  case atStart=>exact⟨oM,oM,by rw[yQ S.out (U6 rfl)];rfl,by congr 1<;>omega,rfl⟩
  case round =>
   obtain⟨s,F,rfl,rfl,rfl⟩:=hrel;by_cases E:gk=0
   ·subst E;have I:¬(f:Int)<=(f:Int)+((0:Nat):Int)-1:=oM;rw[Xm,Y8,Q.out];go_wp2;go_ret;exact⟨_,rfl,BL.out,rfl⟩
   ·obtain⟨i,C⟩:∃i,f+(gk-1)=i:=⟨_,rfl⟩
    have L:(f:Int)+(gk:Int)-1=(i:Int):=oM;have I:(f:Int)<=(i:Int):=oM;have y:i<256:=oM;have M:=X.wd (i/64) oM;have j:wd n p q o (i/64)<18446744073709551616:=Ns _ k.1 k.2.1 k.2.2.1 k.2.2.2.1;have b:wd n p q o (i/64)/2^(i%64)%2=m/2^i%2:=by rw[k.2.2.2.2];exact Hw i y k.1 k.2.1 k.2.2.1 k.2.2.2.1
    have Z:(i:Int).tdiv 64=((i/64:Nat):Int):=by rw[Int.tdiv_eq_ediv_of_nonneg oM];omega
    have i3:(i:Int).tmod 64=((i%64:Nat):Int):=by rw[Int.tmod_eq_emod_of_nonneg oM];omega
    have Y:(i/64:Nat)<4:=oM;generalize wd n p q o (i/64)=v at M j b;have r:v/2^(i%64)<18446744073709551616:=ZB (Z2 _ _) j;have l:bits .and .u64 ((v:Int)/2^(i%64)) 1=((m/2^i%2:Nat):Int):=by
     have:=and_one (v/2^(i%64)) r;rw[b]at this;rw[<-this,Zl,yAk];rfl
    obtain⟨t,a⟩:∃t,m/2^i%2=t:=⟨_,rfl⟩
    have u:t<2:=oM;have z:=Al (m:=m) (f:=f) (g:=gk) (c:=c) oM s;rw[C,a]at z;have d:m/2^(f+gk)%2^(c-gk)<4294967296:=Uz (V6 _ (X6 dC)) (show 2^(c-gk)<=2^32 from VN dC oM);rw[a]at l;generalize m/2^(f+gk)%2^(c-gk)=B at z d⊢;have hor:=or_bit B t d u;have J:VY.wrap ((B:Int)*2)=((2*B:Nat):Int):=by rw[show(B:Int)*2=((2*B:Nat):Int) by omega];exact Ax _ oM
    have V:VY.wrap (t:Int)=(t:Int):=Ax _ oM;have G:=mk1 (z);have A:=mk1 (C);have zx:=X.lt;rw[L];go_wp2;go_roundg (gk-1)
    case measure=>omega
    case rel =>
     refine⟨oM,oM,?_,?_,rfl⟩
     ·rw[A.out,G.out,<-hor,XD];rfl
     ·congr 1;have:=A.out;omega
 ·have P:(256:Int)<(f:Int)+(c:Int):=oM;go_enter func220,ntmps220;go_wp2;have X:=At4.made w 47 n p q o rfl;have BL:=mk1 (aC w (.cells #[uZ n,uZ p,uZ q,uZ o] 47));generalize XB _ _=H at X BL⊢;go_loopg [7,8] (256-f) (λgk s7 s8 wr=>gk<=c/\f+gk<=256/\s7=iZ ((m/2^(f+gk)%2^(c-gk):Nat):Int)/\s8=iZ ((f:Int)+(gk:Int)-1)/\H=wr)
  case atStart=>exact⟨oM,oM,by rw[yQ S.out (U2 oM)];rfl,by congr 1<;>omega,rfl⟩
  case round =>
   obtain⟨s,F,rfl,rfl,rfl⟩:=hrel;by_cases E:gk=0
   ·subst E;have I:¬(f:Int)<=(f:Int)+((0:Nat):Int)-1:=oM;rw[Xm,Y8,Q.out];go_wp2;go_ret;exact⟨_,rfl,BL.out,rfl⟩
   ·obtain⟨i,C⟩:∃i,f+(gk-1)=i:=⟨_,rfl⟩
    have L:(f:Int)+(gk:Int)-1=(i:Int):=oM;have I:(f:Int)<=(i:Int):=oM;have y:i<256:=oM;have M:=X.wd (i/64) oM;have j:wd n p q o (i/64)<18446744073709551616:=Ns _ k.1 k.2.1 k.2.2.1 k.2.2.2.1;have b:wd n p q o (i/64)/2^(i%64)%2=m/2^i%2:=by rw[k.2.2.2.2];exact Hw i y k.1 k.2.1 k.2.2.1 k.2.2.2.1
    generalize wd n p q o (i/64)=v at M j b;have r:v/2^(i%64)<18446744073709551616:=ZB (Z2 _ _) j;have l:bits .and .u64 ((v:Int)/2^(i%64)) 1=((m/2^i%2:Nat):Int):=by
     have:=and_one (v/2^(i%64)) r;rw[b]at this;rw[<-this,Zl,yAk];rfl
    obtain⟨t,a⟩:∃t,m/2^i%2=t:=⟨_,rfl⟩
    have u:t<2:=oM;have z:=Al (m:=m) (f:=f) (g:=gk) (c:=c) oM s;rw[C,a]at z;have d:m/2^(f+gk)%2^(c-gk)<4294967296:=Uz (V6 _ (X6 dC)) (show 2^(c-gk)<=2^32 from VN dC oM);rw[a]at l;generalize m/2^(f+gk)%2^(c-gk)=B at z d⊢;have hor:=or_bit B t d u;have J:VY.wrap ((B:Int)*2)=((2*B:Nat):Int):=by rw[show(B:Int)*2=((2*B:Nat):Int) by omega];exact Ax _ oM
    have G:=mk1 (z);have A:=mk1 (C);have zx:=X.lt;rw[L];go_wp2;go_roundg (gk-1)
    case measure=>omega
    case rel =>
     refine⟨oM,oM,?_,?_,rfl⟩
     ·rw[A.out,G.out,<-hor,XD];rfl
     ·congr 1;have:=A.out;omega
end
section
open Go
section
variable {P:VD}{ops:Array Vk}{Q:X9->Act->Ut->Prop}{S:Ut->Prop}{p:Nat}
def anyTill(P:VD)(k:Array Vk)(Q:X9->Act->Ut->Prop)(S:Ut->Prop)(p:Nat):Nat->Array Bool->Act->Ut->Prop
 | 0,listed,a,w=>U7 .any k listed=[]/\Q .normal a w
 | fuel+1,listed,a,w=>(U7 .any k listed=[]->Q .normal a w) /\
  ∀i∈U7 .any k listed,wpOp P k Q i (λb w'=>((listed.setIfInBounds i true).getD p false=false->S w')/\anyTill P k Q S p fuel (listed.setIfInBounds i true) b w') a w
theorem anyTill.any:∀(b:Nat) (k:Array Bool) (a:Act) (w:Ut),anyTill P ops Q S p b k a w->wpAny P .any ops Q b k a w
 | 0,_,_,_,h=>h
 | b+1,_,_,_,h=>⟨h.1,λi e=>X8 (λc w' d=>anyTill.any b _ c w' d.2) (h.2 i e)⟩
theorem anyTill.first{i:Nat}{t op:Vk}{v:Uv}(O:ops[i]? = some t)(V:ops[p]? = some op)(M:∃e∈op.after,VM .any e=true/\e.on=i)(G:p≠i)
 (r:∀(j:Nat) (o:Vk) cs b,ops[j]? = some o->o.op≠.select cs b) (X:∀c a w,Q (.panic c) (a.put t.dst v) w->Q (.panic c) a w) :
 ∀(g:Nat) (d:Array Bool) (a:Act) (w:Ut),d.getD p false=false ->
  (∀j s,ops[j]? = some s->j≠i->d.getD j true=false->(∀e∈s.after,VM .any e=true->e.on≠i)->t.apart ops s=true) ->
  i∈U7 .any ops d->YieldsIf P ops S t v a->S w ->
  anyTill P ops Q S p g (d.setIfInBounds i true) (a.put t.dst v) w->anyTill P ops Q S p (g+1) d a w:=by
 intro g;induction g with
 | zero =>
  intro d a w _ _ y E z H;refine⟨λh=>absurd y (by rw[h];exact U1),λj D=>?_⟩;by_cases f:j=i
  ·subst f;exact E.wpOp O z ⟨λ_=>z,H⟩
  ·exact absurd (ready_mono D f) (by rw[H.1];exact U1)
 | succ g ih =>
  intro d a w T m y E z H;refine⟨λh=>absurd y (by rw[h];exact U1),λj D=>?_⟩;by_cases f:j=i
  ·subst f;exact E.wpOp O z ⟨λ_=>z,H⟩
  ·obtain⟨n,s,l,u⟩:=mem_ready.1 D;have q:∀e∈s.after,VM .any e=true->e.on≠i:=λe L N I=>by
    have x:=u e L N;have B:=(mem_ready.1 y).1;rw[I]at x;rcases VV i d.size with A|A
    ·simp[A]at B x;rw[B]at x;cases x
    ·simp[Wu A]at x
   have C:j≠p:=by
    intro h;subst h;rw[V]at l;obtain⟨e,L,N,x⟩:=M;injection l with l
    subst l;exact q e L N x
   have Y:=wpOp_putIf l (m j s l f n q) (λcs b=>r i t cs b O) (λcs b=>r j s cs b l) X E (H.2 j (ready_mono D f));have K:(d.setIfInBounds j true).getD p false=false:=by rw[XW false C];exact T
   refine X8 (λU w' F=>?_) Y;have A:=F.2.1 (by rw[XW false C,XW false (YL G)];exact T);refine⟨λ_=>A,ih (d.setIfInBounds j true) U w' K (λk ok W R x J=>?_) (ready_mono y (YL f)) F.1 A ?_⟩
   ·refine m k ok W R ?_ J;by_cases B:j=k
    ·subst B;exact n
    ·rw[XW true B]at x;exact x
   ·rw[Array.setIfInBounds_comm _ _ f];exact F.2.2
def waits(k:Array Vk)(p i:Nat):Bool:=match k[p]? with
 | some o=>o.after.any (λe=>VM .any e && e.on == i)
 | none=>false
theorem anyTill.take{i:Nat}{f:Vk}{v:Uv}{b:Nat}{k:Array Bool}{a:Act}{w:Ut}(l:ops[i]? = some f)(d:waits ops p i=true)(m:XQ ops=true)
 (g:(k.getD p false || p == i)=false) (hf:YX .any ops k i=true) (n:(U7 .any ops k).contains i=true)
 (q:∀c a w,Q (.panic c) (a.put f.dst v) w->Q (.panic c) a w) (s:YieldsIf P ops S f v a) (r:S w)
 (h:anyTill P ops Q S p b (k.setIfInBounds i true) (a.put f.dst v) w):anyTill P ops Q S p (b+1) k a w:=by
 rw[Bool.or_eq_false_iff]at g;unfold waits at d;cases ho:ops[p]? with
 | none=>rw[ho]at d;cases d
 | some op =>
  rw[ho]at d;obtain⟨e,o,j⟩:=Xs.1 d;simp only[UN,beq_iff_eq]at j;exact anyTill.first l ho ⟨e,o,j.1,j.2⟩ (by simpa using g.2) (Region.noSelect_spec m) q b k a w g.1 (Region.free_spec l hf) (by simpa using n) s r h
theorem anyTill.tk{i:Nat}{d:Vk}{v:Uv}{b:Nat}{k:Array Bool}{a:Act}{w:Ut}(n:ops[i]? = some d)(o:YieldsIf P ops S d v a)(l:S w)
 (h:anyTill P ops Q S p b (k.setIfInBounds i true) (a.put d.dst v) w) (f:waits ops p i=true:=by kernel_rfl) (e:XQ ops=true:=by kernel_rfl)
 (m:(k.getD p false || p == i)=false:=by kernel_rfl) (hf:YX .any ops k i=true:=by kernel_rfl) (g:(U7 .any ops k).contains i=true:=by kernel_rfl)
 (j:∀c a w,Q (.panic c) (a.put d.dst v) w->Q (.panic c) a w:=by exact λ_ _ _ h=>h):anyTill P ops Q S p (b+1) k a w:=anyTill.take n f e m hf g j o l h
theorem anyTill.step{i:Nat}{o:Vk}{b:Nat}{k:Array Bool}{a:Act}{w:Ut}(ho:ops[i]? = some o)(d:U7 .any ops k=[i])
 (h:∀c:Act->Ut->Prop,Shut (∀a w,((k.setIfInBounds i true).getD p false=false->S w)->anyTill P ops Q S p b (k.setIfInBounds i true) a w->c a w) ->
  if V5 o (yielded ops a.tmps)=true then VT P o a w c Q else c (a.put o.dst WJ) w):anyTill P ops Q S p (b+1) k a w:=by
 refine⟨λf=>(by rw[d]at f;cases f),λj e=>?_⟩;rw[d,List.mem_singleton]at e;subst e;exact wpOp_step ho (λc g=>h c (λa w l m=>g a w ⟨l,m⟩))
theorem anyTill.done{k:Array Bool}{a:Act}{w:Ut}(c:U7 .any ops k=[])(h:Q .normal a w):∀b,anyTill P ops Q S p b k a w
 | 0=>⟨c,h⟩
 | _+1=>⟨λ_=>h,by rw[c];intro i d;cases d⟩
theorem anyTill.begin{a:Act}{w:Ut}(S:Ut->Prop)(p:Nat)(b:P.follows .mixedOrders=true)(k:S w.drew)
 (h:S w.drew->anyTill P ops Q S p ops.size (UM ops.size false) a w.drew):(V3 id ops true).wp P Q a w:=
 Z5 b ((h k).any)
end
end
section
open Go.RowKit Go.Sort
variable {P:Nat}[NeZero P]{N:Nat}
def pw0:Array Uv:=#[uZ 1]++UM 63 (uZ 0)
def pwz:Array Uv:=UM 64 (uZ 0)
theorem Qs:∀w:Ut,(zeroValue 308).run prog w=.ok (.agg pwz) w:=λ_=>kR
theorem sizeT:(prog.info? 308).map (·.size)=some pw0.size:=kR
theorem TK:pw0.all (·.oneCell')=true:=kR
def Tab(W:Ut)(k m P i:Nat):Prop:=∀j,j<16->∃a b c d:Nat,(Blk.mk k (j*4) a b c d).at W/\(j<i->Four (.agg #[uZ a,uZ b,uZ c,uZ d]) (m^j%P))
theorem Tab.call{W e:Ut}{k P i:Nat}(h:Tab W k m P i)(f:kZ W e):Tab e k m P i:=λj g=>by
 obtain⟨a,b,c,d,l,n⟩:=h j g;exact⟨a,b,c,d,l.call f,n⟩
theorem Tab.drew{W:Ut}{k P i:Nat}(h:Tab W k m P i):Tab W.drew k m P i:=λj f=>by
 obtain⟨a,b,c,d,e,g⟩:=h j f;exact⟨a,b,c,d,⟨e.c0,e.c1,e.c2,e.c3,e.f⟩,g⟩
theorem Tab.other{W:Ut}{k P i g o:Nat}(h:Tab W k m P i)(e:g≠k)(v:Uv):Tab (W.setCell ⟨g,o,none⟩ v) k m P i:=λj f=>by
 obtain⟨a,b,c,d,l,n⟩:=h j f;exact⟨a,b,c,d,l.other e v,n⟩
theorem Blk.at.off{W : Ut}{x : Blk}{i : Nat}(h : x.at W)(hi : i < x.o \/ x.o + 3 < i)(v : Uv): x.at (W.setCell ⟨x.k, i, none⟩ v) :=
  ⟨by rw [UV _ _ _ _ (bH (U2 oM))]; exact h.c0, by rw [UV _ _ _ _ (bH (U2 oM))]; exact h.c1,
   by rw [UV _ _ _ _ (bH (U2 oM))]; exact h.c2, by rw [UV _ _ _ _ (bH (U2 oM))]; exact h.c3, λo => by rw [VK]; exact h.f o⟩
theorem Blk.at.put{W:Ut}{k o a b c d:Nat}(h:(Blk.mk k o a b c d).at W)(x y z t:Nat):
 (Blk.mk k o x y z t).at ((((W.setCell ⟨k,o,none⟩ (uZ x)).setCell ⟨k,o+1,none⟩ (uZ y)).setCell ⟨k,o+2,none⟩ (uZ z)).setCell ⟨k,o+3,none⟩ (uZ t)):=by
 have s0:=VU W ⟨k,o,none⟩ (uZ x) h.c0;have e:∀(W:Ut) (i j:Nat) (v:Uv),i≠j->(W.setCell ⟨k,i,none⟩ v).cell? ⟨k,j,none⟩=W.cell? ⟨k,j,none⟩:=λW i j v f=>UV _ _ _ _ (bH (U2 f))
 refine⟨?_,?_,?_,?_,λi=>?_⟩
 ·show V1 _ ⟨k,o,none⟩=_;rw[e _ _ _ _ oM,e _ _ _ _ oM,e _ _ _ _ oM];exact s0
 ·show V1 _ ⟨k,o+1,none⟩=_;rw[e _ _ _ _ oM,e _ _ _ _ oM];exact VU _ _ _ (by rw[e _ _ _ _ oM];exact h.c1)
 ·show V1 _ ⟨k,o+2,none⟩=_;rw[e _ _ _ _ oM];exact VU _ _ _ (by rw[e _ _ _ _ oM,e _ _ _ _ oM];exact h.c2)
 ·show V1 _ ⟨k,o+3,none⟩=_;exact VU _ _ _ (by rw[e _ _ _ _ oM,e _ _ _ _ oM,e _ _ _ _ oM];exact h.c3)
 ·rw[VK,VK,VK,VK];exact h.f i
theorem Tab.put{W:Ut}{k P i x y z t:Nat}(h:Tab W k m P i)(p:i<16)(n:Four (.agg #[uZ x,uZ y,uZ z,uZ t]) (m^i%P)):
 Tab ((((W.setCell ⟨k,i*4,none⟩ (uZ x)).setCell ⟨k,i*4+1,none⟩ (uZ y)).setCell ⟨k,i*4+2,none⟩ (uZ z)).setCell ⟨k,i*4+3,none⟩ (uZ t)) k m P (i+1):=λj g=>by
 obtain⟨a,b,c,d,f,l⟩:=h j g;by_cases e:j=i
 ·subst e;exact⟨x,y,z,t,f.put x y z t,λ_=>n⟩
 ·refine⟨a,b,c,d,?_,λo=>l oM⟩;exact(((f.off (by simp only;omega) _).off (by simp only;omega) _).off (by simp only;omega) _).off (by simp only;omega) _
theorem newest(w:Ut)(o:Obj):(w.alloc o).heap[w.heap.size]? = some o:=by
 show(w.heap.push o)[w.heap.size]? = some o;simp
theorem nC(j:Nat):pw0[j]? = if j=0 then some (uZ 1) else if j<64 then some (uZ 0) else none:=by
 match j with
 | 0=>rfl
 | j+1 =>
  rw[yCl oM];unfold pw0;rw[Array.getElem?_append_right (by simp)];by_cases h:j+1<64
  ·rw[yCk h];simp[Xu];omega
  ·rw[yCl h];simp[Xu];omega
theorem Tab.new(w:Ut)(m P:Nat)(c:1<P):Tab ((w.alloc (.cells pwz 308)).setRow w.heap.size pw0) w.heap.size m P 1:=λj e=>by
 have b:(w.alloc (.cells pwz 308)).heap[w.heap.size]? = some (.cells pwz 308 (0,0)):=newest w _;have k:=λi=>cell_setRow_same (w.alloc (.cells pwz 308)) w.heap.size i pwz pw0 308 (0,0) b
 have hf:∀o,((w.alloc (.cells pwz 308)).setRow w.heap.size pw0).frozen? ⟨w.heap.size,o,none⟩=false:=λo=>by
  have d:=setRow_heap _ _ _ pw0 _ _ b;unfold World.frozen?;dsimp only;rw[d];simp
 by_cases d:j=0
 ·subst d;refine⟨1,0,0,0,⟨?_,?_,?_,?_,hf⟩,λ_=>?_⟩
  ·rw[k,nC];rfl
  ·rw[k,nC];rfl
  ·rw[k,nC];rfl
  ·rw[k,nC];rfl
  ·rw[YS,UU c];exact Four.mk dC dC dC dC rfl
 ·refine⟨0,0,0,0,⟨?_,?_,?_,?_,hf⟩,λh=>oM⟩
  ·rw[k,nC,yCl (by simp only;omega),yCk (by simp only;omega)];rfl
  ·rw[k,nC,yCl (by simp only;omega),yCk (by simp only;omega)];rfl
  ·rw[k,nC,yCl (by simp only;omega),yCk (by simp only;omega)];rfl
  ·rw[k,nC,yCl (by simp only;omega),yCk (by simp only;omega)];rfl
theorem below_setRow{w W:Ut}(h:Below B w W){g:Nat}(c:B<=g)(cs:Array Uv):Below B w (W.setRow g cs):=
 ⟨h.os,h.tape,h.output,by rw[setRow_size];exact h.size,λk b=>by rw[setRow_other W g k cs oM];exact h.block k b⟩
theorem G8(W:Ut):kZ W ((W.alloc (.cells pwz 308)).setRow W.heap.size pw0):=below_setRow (aC W _) (Uy _) _
theorem uW{w W:Ut}{k f v e a b c d p i l o g n t:Nat}(h:Kept w k [⟨k,0,g,n,t,0⟩,⟨e,j*4,i,m,l,o⟩,⟨f,0,a,b,c,d⟩,⟨u,0,p,q,r,s⟩,⟨v,0,0,0,0,0⟩] W):W.cell? ⟨k,0,none⟩=some (uZ g)/\W.cell? ⟨k,1,none⟩=some (uZ n)/\W.cell? ⟨k,2,none⟩=some (uZ t)/\W.cell? ⟨k,3,none⟩=some (uZ 0)/\W.cell? ⟨e,j*4,none⟩=some (uZ i)/\W.cell? ⟨e,j*4+1,none⟩=some (uZ m)/\W.cell? ⟨e,j*4+2,none⟩=some (uZ l)/\W.cell? ⟨e,j*4+3,none⟩=some (uZ o)/\W.cell? ⟨f,0,none⟩=some (uZ a)/\W.cell? ⟨f,1,none⟩=some (uZ b)/\W.cell? ⟨f,2,none⟩=some (uZ c)/\W.cell? ⟨f,3,none⟩=some (uZ d)/\Kept w k [⟨k,0,g,n,t,0⟩,⟨e,j*4,i,m,l,o⟩,⟨f,0,a,b,c,d⟩,⟨u,0,p,q,r,s⟩,⟨v,0,0,0,0,0⟩] W:=
 ⟨h.head.c0,h.head.c1,h.head.c2,h.head.c3,h.tail.head.c0,h.tail.head.c1,h.tail.head.c2,h.tail.head.c3,h.tail.tail.head.c0,h.tail.tail.head.c1,h.tail.tail.head.c2,h.tail.tail.head.c3,h⟩
theorem qT{w W:Ut}{k x f v e P a b c d p l o nd g i n:Nat}(h:Kept w k (⟨e,0,l,o,j,nd⟩ :: [⟨k,0,g,i,n,0⟩,⟨x,0,a,b,c,d⟩,⟨f,0,p,q,r,s⟩,⟨u,0,0,0,0,0⟩]) W)(t:Tab W v m P 16):W.cell? ⟨k,0,none⟩=some (uZ g)/\W.cell? ⟨k,1,none⟩=some (uZ i)/\W.cell? ⟨k,2,none⟩=some (uZ n)/\W.cell? ⟨k,3,none⟩=some (uZ 0)/\W.cell? ⟨e,0,none⟩=some (uZ l)/\W.cell? ⟨e,1,none⟩=some (uZ o)/\W.cell? ⟨e,2,none⟩=some (uZ j)/\W.cell? ⟨e,3,none⟩=some (uZ nd)/\W.cell? ⟨f,0,none⟩=some (uZ p)/\W.cell? ⟨f,1,none⟩=some (uZ q)/\W.cell? ⟨f,2,none⟩=some (uZ r)/\W.cell? ⟨f,3,none⟩=some (uZ s)/\Kept w k (⟨e,0,l,o,j,nd⟩ :: [⟨k,0,g,i,n,0⟩,⟨x,0,a,b,c,d⟩,⟨f,0,p,q,r,s⟩,⟨u,0,0,0,0,0⟩]) W/\Tab W v m P 16:=
 ⟨h.tail.head.c0,h.tail.head.c1,h.tail.head.c2,h.tail.head.c3,h.head.c0,h.head.c1,h.head.c2,h.head.c3,h.tail.tail.tail.head.c0,h.tail.tail.tail.head.c1,h.tail.tail.tail.head.c2,h.tail.tail.tail.head.c3,h,t⟩
theorem uV{w W:Ut}{e l f g k i a b c d p n t o x y:Nat}(h:Kept w e [⟨e,0,m,u,y,0⟩,⟨k,j*4,n,t,o,x⟩,⟨l,0,a,b,c,d⟩,⟨f,0,p,q,r,s⟩,⟨g,0,0,0,0,0⟩] W)(D:e<=k)(C:k≠e)(B:k≠l)(E:k≠f)(z:k≠g)(F:i<j*4\/j*4+3<i)(v:Uv):Kept w e [⟨e,0,m,u,y,0⟩,⟨k,j*4,n,t,o,x⟩,⟨l,0,a,b,c,d⟩,⟨f,0,p,q,r,s⟩,⟨g,0,0,0,0,0⟩] (W.setCell ⟨k,i,none⟩ v):=by
 refine((((((Kept.mk1 (h.bl.setCell (p:=⟨k,i,none⟩) D v) (by simpa using h.le)).cons ?_).cons ?_).cons ?_).cons ?_).cons ?_)
 ·exact h.tail.tail.tail.tail.head.other z v
 ·exact h.tail.tail.tail.head.other E v
 ·exact h.tail.tail.head.other B v
 ·exact h.tail.head.off F v
 ·exact h.head.other C v
theorem wT{w W:Ut}{e v o k i a b c d p D C F A E G:Nat}(h:Kept w e [⟨e,0,A,E,G,0⟩,⟨k,j*4,B,D,C,F⟩,⟨v,0,a,b,c,d⟩,⟨o,0,p,q,r,s⟩,⟨u,0,0,0,0,0⟩] W)(m:e<=k)(l:k≠e)(g:k≠v)(n:k≠o)(f:k≠u)
 (H:i*4<j*4\/j*4+3<i*4) (J:i*4+1<j*4\/j*4+3<i*4+1) (K:i*4+2<j*4\/j*4+3<i*4+2) (I:i*4+3<j*4\/j*4+3<i*4+3) (x y z t:Uv) :
 Kept w e [⟨e,0,A,E,G,0⟩,⟨k,j*4,B,D,C,F⟩,⟨v,0,a,b,c,d⟩,⟨o,0,p,q,r,s⟩,⟨u,0,0,0,0,0⟩] ((((W.setCell ⟨k,i*4,none⟩ x).setCell ⟨k,i*4+1,none⟩ y).setCell ⟨k,i*4+2,none⟩ z).setCell ⟨k,i*4+3,none⟩ t):=
 uV (uV (uV (uV h m l g n f H x) m l g n f J y) m l g n f K z) m l g n f I t
theorem zO(g0 g1 g2 P : Nat)(x y : Uv)(m n : Nat)(hG : Gap g0 g1 g2 P)(hx : Four x m)(hy : Four y n)(w : Ut):
    UK prog 223 #[.agg #[.int .u64 (g0 : Int), .int .u64 (g1 : Int), .int .u64 (g2 : Int), .int .u64 0], x, y] w (Ret λe w' => Below w.heap.size w w' /\ Four e (m ^ n % P)) := by
  obtain⟨a, b, c, d, rfl, ha, hb, hc, hd, em⟩ := id hx;obtain⟨p, q, r, s, rfl, hp, hq, hr, hs, en⟩ := id hy;have HX : Hid (Four _ m) := hx;have HY : Hid (Four _ n) := hy;have HG : Hid (Gap g0 g1 g2 P) := hG;clear em en hx hy ha hb hc hd hp hq hr hs hG;go_enter func223, ntmps223
  go_upto_region 1 with fail
  have KP := Cq w 120 47 47 47 g0 g1 g2 0 a b c d p q r s 0 0 0 0;simp only [WM]at KP;generalize XB _ _ = W0 at KP⊢;have zv := Qs;have hpz : ¬pwz.size < 4 := dC;have hgr : (W0.alloc (.cells pwz 308)).heap[W0.heap.size]? = some (.cells pwz 308 (0, 0)) := newest W0 _;go_wp2_with (first | refine wpList_store_row rfl 308 _ _ rfl W0.heap.size pw0 rfl rfl 308 pwz hgr sizeT rfl TK ?_)
  have TB := Tab.new W0 m P (by have := HG.hP2; have : 3 < top := dC
                                omega)
  have hlt := KP.lts;have Q4 : Hid (w.heap.size <= W0.heap.size) := KP.le;replace KP := KP.call (G8 W0);clear zv hgr hpz;generalize World.setRow _ _ _ = W1 at KP TB⊢;generalize W0.heap.size = k4 at TB hlt Q4⊢;generalize h3 : w.heap.size + 1 + 1 + 1 = k3 at KP hlt⊢;generalize h2 : w.heap.size + 1 + 1 = k2 at KP hlt⊢;generalize h1 : w.heap.size + 1 = k1 at KP hlt⊢;have Q3 : Hid (w.heap.size <= k3) := by unfold Hid; omega
  generalize h0 : w.heap.size = k0 at KP hlt Q3 Q4⊢;have H0 : Hid (w.heap.size = k0) := h0;have n40 : k4 ≠ k0 := Wp (hlt _ Vo);have n41 : k4 ≠ k1 := Wp (hlt ⟨k1, 0, a, b, c, d⟩ (by simp));have n42 : k4 ≠ k2 := Wp (hlt ⟨k2, 0, p, q, r, s⟩ (by simp));have n43 : k4 ≠ k3 := Wp (hlt ⟨k3, 0, 0, 0, 0, 0⟩ (by simp));clear h0 h1 h2 h3 hlt;generalize pwz.setIfInBounds 0 (V2 Vw 1) = zz;go_loopg [8] 15 (λgk s8 wr => ∃i : Nat, i + gk = 16 /\ 1 <= i /\ s8 = .int .i64 (i : Int) /\ Kept w k0 [⟨k0, 0, g0, g1, g2, 0⟩, ⟨k1, 0, a, b, c, d⟩, ⟨k2, 0, p, q, r, s⟩, ⟨k3, 0, 0, 0, 0, 0⟩] wr /\ Tab wr k4 m P i)
  case atStart => exact⟨1, rfl, Uy _, rfl, KP, TB⟩
  case round =>
    clear KP TB;obtain⟨i, hi, hi1, rfl, KP0, TB⟩ := hrel;by_cases hlt : i < 16
    · obtain⟨j, hji⟩ : ∃j, i = j + 1 := ⟨i - 1, oM⟩
      obtain⟨pa, pb, pc, pd, BJ, hFJ⟩ := TB j oM;have HFJ : Hid (Four _ (m ^ j % P)) := hFJ oM;have KP : Kept w k0 [⟨k0, 0, g0, g1, g2, 0⟩, ⟨k4, j * 4, pa, pb, pc, pd⟩, ⟨k1, 0, a, b, c, d⟩, ⟨k2, 0, p, q, r, s⟩, ⟨k3, 0, 0, 0, 0, 0⟩] wr := by
        refine((((((Kept.mk1 KP0.bl KP0.le).cons ?_).cons ?_).cons ?_).cons ?_).cons ?_)
        · exact KP0.tail.tail.tail.head
        · exact KP0.tail.tail.head
        · exact KP0.tail.head
        · exact BJ
        · exact KP0.head
      clear KP0 BJ hFJ;have hlt' : (i : Int) < 16 := oM;have e1 : (i : Int) - 1 = (j : Int) := oM;have hj16 : j < 16 := oM;have hj16i : (j : Int) < 16 := oM;have hw1 : VY.wrap (j : Int) = (j : Int) := Ax _ oM;have HJ : Hid (i = j + 1) := hji;have o0 : Hid (i * 4 < j * 4 \/ j * 4 + 3 < i * 4) := by unfold Hid; omega
      have o1 : Hid (i * 4 + 1 < j * 4 \/ j * 4 + 3 < i * 4 + 1) := by unfold Hid; omega
      have o2 : Hid (i * 4 + 2 < j * 4 \/ j * 4 + 3 < i * 4 + 2) := by unfold Hid; omega
      have o3 : Hid (i * 4 + 3 < j * 4 \/ j * 4 + 3 < i * 4 + 3) := by unfold Hid; omega
      clear hji
      go_upto_region 5 with fail
      go_region_held3 (λw' => w'.cell? ⟨k0, 0, none⟩ = some (.int .u64 (g0 : Int)) /\ w'.cell? ⟨k0, 1, none⟩ = some (.int .u64 (g1 : Int)) /\ w'.cell? ⟨k0, 2, none⟩ = some (.int .u64 (g2 : Int)) /\ w'.cell? ⟨k0, 3, none⟩ = some (.int .u64 0) /\ w'.cell? ⟨k4, j * 4, none⟩ = some (.int .u64 (pa : Int)) /\ w'.cell? ⟨k4, j * 4 + 1, none⟩ = some (.int .u64 (pb : Int)) /\ w'.cell? ⟨k4, j * 4 + 2, none⟩ = some (.int .u64 (pc : Int)) /\ w'.cell? ⟨k4, j * 4 + 3, none⟩ = some (.int .u64 (pd : Int)) /\ w'.cell? ⟨k1, 0, none⟩ = some (.int .u64 (a : Int)) /\ w'.cell? ⟨k1, 1, none⟩ = some (.int .u64 (b : Int)) /\ w'.cell? ⟨k1, 2, none⟩ = some (.int .u64 (c : Int)) /\ w'.cell? ⟨k1, 3, none⟩ = some (.int .u64 (d : Int)) /\ Kept w k0 [⟨k0, 0, g0, g1, g2, 0⟩, ⟨k4, j * 4, pa, pb, pc, pd⟩, ⟨k1, 0, a, b, c, d⟩, ⟨k2, 0, p, q, r, s⟩, ⟨k3, 0, 0, 0, 0, 0⟩] w') (first | (with_reducible exact uW KP) | (with_reducible exact uW KP.drew) | (with_reducible exact uW (wT KP Q4.out n40 n41 n42 n43 o0.out o1.out o2.out o3.out _ _ _ _)) | (with_reducible exact uW (wT KP Q4.out n40 n41 n42 n43 o0.out o1.out o2.out o3.out _ _ _ _).drew) | fail) (first | (go_at_call 127; refine(jP _ _ HX.out _).mono ?_; rintro e w1 ⟨v, rfl, hb1, rfl⟩; (first | (with_reducible (have KP1 := KP.drew.call hb1)) | (with_reducible (have KP1 := KP.call hb1)) | fail); (first | (with_reducible (have T1 := TB.drew.call hb1)) | (with_reducible (have T1 := TB.call hb1)) | fail); clear KP TB hb1; have KP := KP1; have TB := T1; clear KP1 T1) | (go_at_call 213; refine(dO g0 g1 g2 P _ _ _ _ HG.out HFJ.out HX.out _).mono ?_; rintro e w1 ⟨v, rfl, hb1, hF3⟩; obtain⟨a', b', c', d', rfl, ha', hb', hc', hd', es3⟩ := id hF3; clear es3; have HF3 : Hid (Four _ _) := hF3; clear hF3; (first | (with_reducible (have KP1 := KP.drew.call hb1)) | (with_reducible (have KP1 := KP.call hb1)) | fail); (first | (with_reducible (have T1 := TB.drew.call hb1)) | (with_reducible (have T1 := TB.call hb1)) | fail); clear KP TB hb1; have KP := KP1; have TB := T1; clear KP1 T1; obtain⟨ya, yb, yc, yd, BI, hFI⟩ := TB i hlt; clear hFI; obtain⟨tc0, tc1, tc2, tc3, tf⟩ := id BI; have zt := BI.lt; clear BI))
      go_wp2;go_roundg (gk - 1)
      case measure => omega
      case rel =>
        have K3 := wT KP Q4.out n40 n41 n42 n43 o0.out o1.out o2.out o3.out (.int .u64 (a' : Int)) (.int .u64 (b' : Int)) (.int .u64 (c' : Int)) (.int .u64 (d' : Int));refine⟨i + 1, oM, oM, rfl, ?_, ?_⟩
        · exact((((Kept.mk1 K3.bl K3.le).cons K3.tail.tail.tail.tail.head).cons K3.tail.tail.tail.head).cons K3.tail.tail.head).cons K3.head
        · refine TB.put hlt ?_
          have h1 := HF3.out;rw [AP, <-HJ.out]at h1;exact h1
    · have hi16 : i = 16 := oM
      subst hi16;obtain⟨pa, pb, pc, pd, BJ, hFJ⟩ := TB 0 dC;have HFJ := mk1 (hFJ dC);replace BJ : (Blk.mk k4 0 pa pb pc pd).at wr := BJ;obtain⟨tc0, tc1, tc2, tc3, tf⟩ := id BJ;replace tc0 : wr.cell? ⟨k4, 0, none⟩ = some (.int .u64 (pa : Int)) := tc0;replace tc1 : wr.cell? ⟨k4, 1, none⟩ = some (.int .u64 (pb : Int)) := tc1;replace tc2 : wr.cell? ⟨k4, 2, none⟩ = some (.int .u64 (pc : Int)) := tc2;replace tc3 : wr.cell? ⟨k4, 3, none⟩ = some (.int .u64 (pd : Int)) := tc3;have zt := BJ.lt;go_wp2;have KN := (KP0.alloc (.cells #[.int .u64 (pa : Int), .int .u64 (pb : Int), .int .u64 (pc : Int), .int .u64 (pd : Int)] 118)).cons (At4.made wr 118 pa pb pc pd rfl).blk;have TN := TB.call (aC wr (.cells #[.int .u64 (pa : Int), .int .u64 (pb : Int), .int .u64 (pc : Int), .int .u64 (pd : Int)] 118));have hlt5 := KP0.lts;have n54 := Wp BJ.lt;have Q5 := mk1 (KP0.le);generalize XB _ _ = Wv5 at KN TN⊢;generalize wr.heap.size = k5 at KN hlt5 n54 Q5⊢;have hl5 : ∀x ∈ ([⟨k0, 0, g0, g1, g2, 0⟩, ⟨k1, 0, a, b, c, d⟩, ⟨k2, 0, p, q, r, s⟩, ⟨k3, 0, 0, 0, 0, 0⟩] : List Blk), k5 ≠ x.k := λx hx => Wp (hlt5 x hx)
      go_loopg [10] 64 (λgk s10 wr => gk <= 64 /\ s10 = .int .i64 (4 * (gk : Int) - 4) /\ (∃na nb nc nd : Nat, Kept w k0 (⟨k5, 0, na, nb, nc, nd⟩ :: [⟨k0, 0, g0, g1, g2, 0⟩, ⟨k1, 0, a, b, c, d⟩, ⟨k2, 0, p, q, r, s⟩, ⟨k3, 0, 0, 0, 0, 0⟩]) wr /\ Hid (Four (.agg #[.int .u64 (na : Int), .int .u64 (nb : Int), .int .u64 (nc : Int), .int .u64 (nd : Int)]) (m ^ (n / 2 ^ (4 * gk)) % P))) /\ Tab wr k4 m P 16)
      case atStart =>
        refine⟨Uy _, rfl, ⟨pa, pb, pc, pd, KN, ?_⟩, TN⟩;have h1 := HFJ.out;rw [show n / 2 ^ (4 * 64) = 0 from XA HY.lt];exact h1
      case round =>
        obtain⟨hg64, rfl, ⟨na, nb, nc, nd, KP, HF⟩, TB⟩ := hrel;by_cases hz : gk = 0
        · subst hz
          have HF0 := HF.out;rw [Zn, YS, Nat.div_one]at HF0;obtain⟨tc0, tc1, tc2, tc3, tf⟩ := KP.head.at4;have zt := KP.head.lt;go_wp2_with fail
          refine(jK _ _ HF0 _).mono ?_;rintro e w1 ⟨v, rfl, hb1, rfl⟩;have HFE := mk1 (HF0);have KP1 := KP.call hb1;obtain⟨rc0, rc1, rc2, rc3, rf⟩ := KP1.tail.tail.tail.tail.head.at4;have zr := KP1.tail.tail.tail.tail.head.lt;go_wp2;have RF := KP1.tail.tail.tail.tail.head.at4.self4 na nb nc nd;unfold set4 at RF;refine UH (v := ?v) ?hr rfl ?hR
          case hr => simp [results, Tryz.results223, go_sem, RF.c0, RF.c1, RF.c2, RF.c3]; rfl
          refine⟨_, rfl, ?_, HFE.out⟩;rw [H0.out];exact aL KP1.bl Q3.out _ _ _ _
        · obtain⟨I, hI⟩ : ∃I, 4 * (gk - 1) = I := ⟨_, rfl⟩
          have e1 : 4 * (gk : Int) - 4 = (I : Int) := oM;rw [e1];have HI := mk1 (hI);obtain⟨E, hE⟩ : ∃E, n / 2 ^ (4 * gk) = E := ⟨_, rfl⟩;have HE := mk1 (hE);rw [hE]at HF;go_wp2;refine wp_loop_rounds 5 ?_;obtain⟨tc0, tc1, tc2, tc3, tf⟩ := KP.head.at4;have zt := KP.head.lt;obtain⟨pc0, pc1, pc2, pc3, pf⟩ := KP.tail.head.at4;have zp := KP.tail.head.lt;rw [Xh];go_wp2_with fail
          refine(dO g0 g1 g2 P _ _ _ _ HG.out HF.out HF.out _).mono ?_;rintro e w1 ⟨v, rfl, hb1, hF3⟩;rw [kH]at hF3;obtain⟨n1a, n1b, n1c, n1d, rfl, ha', hb', hc', hd', es3⟩ := id hF3;have HF := mk1 (hF3);replace KP := KP.call hb1;replace TB := TB.call hb1;obtain⟨tc0, tc1, tc2, tc3, tf⟩ := KP.head.at4;have zt := KP.head.lt;go_wp2_with fail
          have KP2 := KP.put Q5.out hl5 n1a n1b n1c n1d;have TB2 := (((TB.other (o := 0) n54 (.int .u64 (n1a : Int))).other (o := 1) n54 (.int .u64 (n1b : Int))).other (o := 2) n54 (.int .u64 (n1c : Int))).other (o := 3) n54 (.int .u64 (n1d : Int));have KP := KP2;have TB := TB2;obtain⟨tc0, tc1, tc2, tc3, tf⟩ := KP.head.at4;have zt := KP.head.lt;obtain⟨pc0, pc1, pc2, pc3, pf⟩ := KP.tail.head.at4;have zp := KP.tail.head.lt;rw [Xh];go_wp2_with fail
          clear tc0 tc1 tc2 tc3 tf zt pc0 pc1 pc2 pc3 pf zp;refine(dO g0 g1 g2 P _ _ _ _ HG.out HF.out HF.out _).mono ?_;rintro e w2 ⟨v, rfl, hb1, hF3⟩;rw [kH]at hF3;obtain⟨n2a, n2b, n2c, n2d, rfl, ha', hb', hc', hd', es3⟩ := id hF3;clear HF;have HF : Hid (Four _ _) := hF3;clear hF3 es3 ha' hb' hc' hd';replace KP := KP.call hb1;replace TB := TB.call hb1;clear hb1;obtain⟨tc0, tc1, tc2, tc3, tf⟩ := KP.head.at4;have zt := KP.head.lt;go_wp2_with fail
          clear tc0 tc1 tc2 tc3 tf zt;have KP2 := KP.put Q5.out hl5 n2a n2b n2c n2d;have TB2 := (((TB.other (o := 0) n54 (.int .u64 (n2a : Int))).other (o := 1) n54 (.int .u64 (n2b : Int))).other (o := 2) n54 (.int .u64 (n2c : Int))).other (o := 3) n54 (.int .u64 (n2d : Int));clear KP TB;generalize X0 _ _ _ = WX2 at KP2 TB2⊢;have KP := KP2;have TB := TB2;clear KP2 TB2;obtain⟨tc0, tc1, tc2, tc3, tf⟩ := KP.head.at4;have zt := KP.head.lt;obtain⟨pc0, pc1, pc2, pc3, pf⟩ := KP.tail.head.at4;have zp := KP.tail.head.lt;rw [Xh];go_wp2_with fail
          clear tc0 tc1 tc2 tc3 tf zt pc0 pc1 pc2 pc3 pf zp;refine(dO g0 g1 g2 P _ _ _ _ HG.out HF.out HF.out _).mono ?_;rintro e w3 ⟨v, rfl, hb1, hF3⟩;rw [kH]at hF3;obtain⟨n3a, n3b, n3c, n3d, rfl, ha', hb', hc', hd', es3⟩ := id hF3;clear HF;have HF : Hid (Four _ _) := hF3;clear hF3 es3 ha' hb' hc' hd';replace KP := KP.call hb1;replace TB := TB.call hb1;clear hb1;obtain⟨tc0, tc1, tc2, tc3, tf⟩ := KP.head.at4;have zt := KP.head.lt;go_wp2_with fail
          clear tc0 tc1 tc2 tc3 tf zt;have KP2 := KP.put Q5.out hl5 n3a n3b n3c n3d;have TB2 := (((TB.other (o := 0) n54 (.int .u64 (n3a : Int))).other (o := 1) n54 (.int .u64 (n3b : Int))).other (o := 2) n54 (.int .u64 (n3c : Int))).other (o := 3) n54 (.int .u64 (n3d : Int));clear KP TB;generalize X0 _ _ _ = WX3 at KP2 TB2⊢;have KP := KP2;have TB := TB2;clear KP2 TB2;obtain⟨tc0, tc1, tc2, tc3, tf⟩ := KP.head.at4;have zt := KP.head.lt;obtain⟨pc0, pc1, pc2, pc3, pf⟩ := KP.tail.head.at4;have zp := KP.tail.head.lt;rw [Xh];go_wp2_with fail
          clear tc0 tc1 tc2 tc3 tf zt pc0 pc1 pc2 pc3 pf zp;refine(dO g0 g1 g2 P _ _ _ _ HG.out HF.out HF.out _).mono ?_;rintro e w4 ⟨v, rfl, hb1, hF3⟩;rw [kH]at hF3;obtain⟨n4a, n4b, n4c, n4d, rfl, ha', hb', hc', hd', es3⟩ := id hF3;clear HF;have HF : Hid (Four _ _) := hF3;clear hF3 es3 ha' hb' hc' hd';replace KP := KP.call hb1;replace TB := TB.call hb1;clear hb1;obtain⟨tc0, tc1, tc2, tc3, tf⟩ := KP.head.at4;have zt := KP.head.lt;go_wp2_with fail
          clear tc0 tc1 tc2 tc3 tf zt;have KP2 := KP.put Q5.out hl5 n4a n4b n4c n4d;have TB2 := (((TB.other (o := 0) n54 (.int .u64 (n4a : Int))).other (o := 1) n54 (.int .u64 (n4b : Int))).other (o := 2) n54 (.int .u64 (n4c : Int))).other (o := 3) n54 (.int .u64 (n4d : Int));clear KP TB;generalize X0 _ _ _ = WX4 at KP2 TB2⊢;have KP := KP2;have TB := TB2;clear KP2 TB2;rw [Xh];go_wp2_with fail
          refine anyTill.begin (λw' => w'.cell? ⟨k0, 0, none⟩ = some (.int .u64 (g0 : Int)) /\ w'.cell? ⟨k0, 1, none⟩ = some (.int .u64 (g1 : Int)) /\ w'.cell? ⟨k0, 2, none⟩ = some (.int .u64 (g2 : Int)) /\ w'.cell? ⟨k0, 3, none⟩ = some (.int .u64 0) /\ w'.cell? ⟨k5, 0, none⟩ = some (.int .u64 (n4a : Int)) /\ w'.cell? ⟨k5, 1, none⟩ = some (.int .u64 (n4b : Int)) /\ w'.cell? ⟨k5, 2, none⟩ = some (.int .u64 (n4c : Int)) /\ w'.cell? ⟨k5, 3, none⟩ = some (.int .u64 (n4d : Int)) /\ w'.cell? ⟨k2, 0, none⟩ = some (.int .u64 (p : Int)) /\ w'.cell? ⟨k2, 1, none⟩ = some (.int .u64 (q : Int)) /\ w'.cell? ⟨k2, 2, none⟩ = some (.int .u64 (r : Int)) /\ w'.cell? ⟨k2, 3, none⟩ = some (.int .u64 (s : Int)) /\ Kept w k0 (⟨k5, 0, n4a, n4b, n4c, n4d⟩ :: [⟨k0, 0, g0, g1, g2, 0⟩, ⟨k1, 0, a, b, c, d⟩, ⟨k2, 0, p, q, r, s⟩, ⟨k3, 0, 0, 0, 0, 0⟩]) w' /\ Tab w' k4 m P 16) 8 mixed (qT KP.drew TB.drew) (λhS => ?_);refine anyTill.tk (i := 0) (v := ?_) rfl (U6 ⟨by rfl, ?_⟩) hS ?_
          rotate_left
          · intro w hSw
            (try dsimp only at hSw)
            go_simp;try(with_reducible rfl)
          simp only [UR, Uu];refine anyTill.tk (i := 1) (v := ?_) rfl (U6 ⟨by rfl, ?_⟩) hS ?_
          rotate_left
          · intro w hSw
            (try dsimp only at hSw)
            go_simp;try(with_reducible rfl)
          simp only [UR];refine anyTill.tk (i := 2) (v := ?_) rfl (U6 ⟨by rfl, ?_⟩) hS ?_
          rotate_left
          · intro w hSw
            (try dsimp only at hSw)
            go_simp;try(with_reducible rfl)
          simp only [UR];refine anyTill.tk (i := 3) (v := ?_) rfl (U6 ⟨by rfl, ?_⟩) hS ?_
          rotate_left
          · intro w hSw
            (try dsimp only at hSw)
            go_simp;try(with_reducible rfl)
          simp only [UR];try simp only [Ux, Uw]
          obtain⟨tt, htt⟩ : ∃tt, n / 2 ^ I % 2 ^ 4 = tt := ⟨_, rfl⟩;have HT : Hid (n / 2 ^ I % 2 ^ 4 = tt) := htt;have hB := λw => C4 _ n I 4 HY.out oM dC w
          rw [htt]at hB
          have htl : tt < 16 := by have : (2 : Nat) ^ 4 = 16 := rfl
                                   rw [<-htt]; omega
          have htl' : (tt : Int) < 16 := oM;have HB : Hid _ := hB;clear hB htt;refine anyTill.step (i := 4) rfl kR (λK hK => ?_);go_simp;refine(HB _).mono ?_;rintro e w6 ⟨v, rfl, hb1, rfl⟩;clear hS HB;have KP6 := KP.drew.call hb1;have TB6 := TB.drew.call hb1;clear hb1 KP TB;refine hK.out _ _ (λ_ => qT KP6 TB6) ?_;clear hK K;try simp only [UR, Uu, Ux, Uw]
          obtain⟨ta, tb, tc, td, BT, hFT⟩ := TB6 tt htl;have HFT : Hid (Four _ (m ^ tt % P)) := hFT htl;clear hFT;obtain⟨tc0, tc1, tc2, tc3, tf⟩ := id BT;have zt := BT.lt;refine anyTill.step (i := 5) rfl kR (λK hK => ?_);go_simp;refine hK.out _ _ (λ_ => qT KP6 TB6) ?_;clear hK K;try simp only [UR, Uu, Ux, Uw]
          refine anyTill.step (i := 6) rfl kR (λK hK => ?_);go_simp;refine hK.out _ _ (λ_ => qT KP6 TB6) ?_;clear hK K;try simp only [UR, Uu, Ux, Uw]
          clear tc0 tc1 tc2 tc3 tf zt BT;refine anyTill.step (i := 7) rfl kR (λK hK => ?_);go_simp;refine(dO g0 g1 g2 P _ _ _ _ HG.out HF.out HFT.out _).mono ?_;rintro e w7 ⟨v, rfl, hb1, hF3⟩;rw [Ca]at hF3;obtain⟨ua, ub, uc, ud, rfl, ha', hb', hc', hd', es3⟩ := id hF3;have HFU : Hid (Four _ _) := hF3;clear hF3 es3 ha' hb' hc' hd' HF HFT;have KP7 := KP6.call hb1;have TB7 := TB6.call hb1;clear hb1 KP6 TB6;refine hK.out _ _ (λ_ => qT KP7 TB7) ?_;clear hK K;try simp only [UR, Uu, Ux, Uw]
          obtain⟨tc0, tc1, tc2, tc3, tf⟩ := KP7.head.at4;have zt := KP7.head.lt;refine anyTill.step (i := 8) rfl kR (λK hK => ?_);go_simp;refine hK.out _ _ (λh => YG h) ?_;clear hK K;try simp only [UR, Uu, Ux, Uw]
          refine anyTill.done kR ?_ _;clear tc0 tc1 tc2 tc3 tf zt;go_wp2;go_roundg (gk - 1)
          case measure => omega
          case rel =>
            refine⟨oM, ?_, ⟨ua, ub, uc, ud, KP7.put Q5.out hl5 ua ub uc ud, ?_⟩, (((TB7.other (o := 0) n54 _).other (o := 1) n54 _).other (o := 2) n54 _).other (o := 3) n54 _⟩
            · have := HI.out
              congr 1
              omega
            · have h1 := HFU.out
              unfold Hid;rw [HI.out, MR n I, show I + 4 = 4 * gk by have := HI.out; omega, HE.out, HT.out];rw [show 2 * (2 * (2 * (2 * E))) + tt = 16 * E + tt by omega]at h1;exact h1
def p0:Nat:=115792089237316195423570985008687907853269984665640564039457584007908834671663
def p1:Nat:=115792089237316195423570985008687907852837564279074904382605163141518161494337
def gv0:Uv:=.agg #[uZ 4294968273,uZ 0,uZ 0,uZ 0]
def gv1:Uv:=.agg #[uZ 4624529908474429119,uZ 4994812053365940164,uZ 1,uZ 0]
theorem Ua:Gap 4294968273 0 0 p0:=⟨dC,dC,dC,U6 ⟨rfl,rfl⟩,dK,dK,dK⟩
theorem T9:Gap 4624529908474429119 4994812053365940164 1 p1:=⟨dC,dC,dC,U2 ⟨4994812053365940165,dK,dC⟩,dK,dK,dK⟩
theorem uQ(w:Ut):
 UK prog 114 #[] w λe w'=>e=.returned (.agg #[uZ 4294968273,uZ 0,uZ 0,uZ 0])/\w'=w.alloc (.cells #[uZ 4294968273,uZ 0,uZ 0,uZ 0] 120):=by
 go_enter func114,ntmps114;go_wp2;refine UH (v:=?v) ?hr rfl ?hR
 case hr=>simp[results,Tryz.results114,go_sem];rfl
 exact⟨rfl,rfl⟩
theorem CV(w:Ut):
 UK prog 58 #[] w λe w'=>e=.returned (.agg #[uZ 4624529908474429119,uZ 4994812053365940164,uZ 1,uZ 0])/\w'=w.alloc (.cells #[uZ 4624529908474429119,uZ 4994812053365940164,uZ 1,uZ 0] 120):=by
 go_enter func58,ntmps58;go_wp2;refine UH (v:=?v) ?hr rfl ?hR
 case hr=>simp[results,Tryz.results58,go_sem];rfl
 exact⟨rfl,rfl⟩
end
section
open Go.RowKit Go.Sort Go.Deep
abbrev Bs:=Array UInt8
def ub(x:UInt8):Int:=(x.toNat:Int)
def encB(x:UInt8):Uv:=.int .u8 (ub x)
structure Only(b off n:Nat)(w w':Ut):Prop where
 os:w'.os=w.os
 tape:w'.tape=w.tape
 output:w'.output=w.output
 size:w.heap.size<=w'.heap.size
 block:∀k,k<w.heap.size->k≠b->w'.heap[k]? = w.heap[k]?
 cell:∀o,(o<off\/off+n<=o)->w'.cell? ⟨b,o,none⟩=w.cell? ⟨b,o,none⟩
 froz:∀o,w'.frozen? ⟨b,o,none⟩=w.frozen? ⟨b,o,none⟩
variable {b off n:Nat}{w w1 w2:Ut}
theorem Only.refl(b off n:Nat)(w:Ut):Only b off n w w:=⟨rfl,rfl,rfl,Uy _,λ_ _ _=>rfl,λ_ _=>rfl,λ_=>rfl⟩
theorem Only.trans(h:Only b off n w w1)(k:Only b off n w1 w2):Only b off n w w2:=
 ⟨k.os.trans h.os,k.tape.trans h.tape,k.output.trans h.output,UE h.size k.size,
  λi c d=>(k.block i (Uz c h.size) d).trans (h.block i c d),
  λo ho=>(k.cell o ho).trans (h.cell o ho),λo=>(k.froz o).trans (h.froz o)⟩
theorem Only.setCell(h:Only b off n w w1){o:Nat}(f:off<=o)(g:o<off+n)(v:Uv):Only b off n w (w1.setCell ⟨b,o,none⟩ v):=by
 refine h.trans ⟨rfl,rfl,rfl,by simp,λk _ d=>YU _ _ _ _ d,λc ho=>?_,λc=>by simp⟩;exact UV _ _ _ _ (by intro e;simp only[yBq.injEq,and_true,true_and]at e;omega)
theorem Only.below(h:Only b off n w w1)(e:B<=w.heap.size)(d:B<=b):Below B w w1:=
 ⟨h.os,h.tape,h.output,h.size,λk c=>h.block k oM oM⟩
section
variable {α:Type}[Inhabited α]{enc:α->Uv}{d:Array α}
theorem Holds.lt(h:Holds enc w b off d)(hd:0<d.size):b<w.heap.size:=Xf _ _ (h 0 hd).1
theorem Holds.same{o:Nat}(h:Holds enc w b o d)(k:Only b off n w w1)(hd:o+d.size<=off\/off+n<=o):Holds enc w1 b o d:=by
 intro j c;rw[k.cell _ oM,k.froz];exact h j c
theorem Holds.below(h:Holds enc w b off d)(k:Below B w w1)(c:b<B):Holds enc w1 b off d:=by
 intro j e;rw[k.cell (p:=⟨b,off+j,none⟩) c,k.frozen (p:=⟨b,off+j,none⟩) c];exact h j e
theorem Holds.drewN(h:Holds enc w b off d)(q:Nat):Holds enc (w.drewN q) b off d:=h
theorem Holds.set(h:Holds enc w b off d){i:Nat}(c:i<d.size)(x:α):Holds enc (w.setCell ⟨b,off+i,none⟩ (enc x)) b off (d.setIfInBounds i x):=by
 intro j k;rw[Vz]at k;rw[VK];by_cases e:j=i
 ·subst e;rw[getElem!_set_same d j x c];exact⟨VU _ _ _ (h j k).1,(h j k).2⟩
 ·rw[getElem!_set_other d i j x e,UV _ _ _ _ (by intro e';simp only[yBq.injEq,and_true,true_and]at e';omega)];exact h j k
theorem Holds.new(w:Ut)(t:Vb)(d:Array α):Holds enc (w.alloc (.cells (d.map enc) t)) w.heap.size 0 d:=by
 intro j k;rw[Ve,Wq];refine⟨?_,rfl⟩;simp only[UF,Array.getElem?_map,UZ k,Option.map_some,getElem!_pos d j k]
theorem Holds.made(w:Ut)(t:Vb)(n:Nat)(x:α):Holds enc (w.alloc (.cells (madeCells #[enc x] n) t)) w.heap.size 0 (UM n x):=by
 intro j k;rw[UO]at k;rw[Ve,Wq];refine⟨?_,rfl⟩;rw[getElem!_pos _ j (by simpa using k),Wr];simp[madeCells,k,yA6]
end
section
def fill(i:Nat):UInt8:=UQ (i%251) ^^^ 165
def lentTo(s:ByteArray):Nat->Bs
 | 0=>s.data++UM 160 0
 | k+1=>(lentTo s k).setIfInBounds (s.size+k) (fill (s.size+k))
def lent(s:ByteArray):Bs:=lentTo s 160
variable {w w1:Ut}{b o n:Nat}
theorem heap_setCells(b:Nat){k:Nat}(c:k≠b):∀(vs:List Uv) (p:Nat) (w:Ut),(w.setCells b p vs).heap[k]? = w.heap[k]?
 | [],_,_=>rfl
 | v :: r,p,w=>by rw[Yw,heap_setCells b c r (p+1) _,YU _ _ _ _ c]
theorem Holds.setCells{k r:Bs}(h:Holds encB w b o k)(vs:List Uv)(p:Nat)(f:r.size=k.size)(l:p+vs.length<=k.size)
 (g:∀j (c:j<vs.length),vs[j]=encB r[p+j]!) (d:∀j,j<k.size->j<p\/p+vs.length<=j->r[j]! = k[j]!):Holds encB (w.setCells b (o+p) vs) b o r:=by
 intro j c;rw[f]at c;rw[World.frozen?_setCells];refine⟨?_,(h j c).2⟩;by_cases e:j<p\/p+vs.length<=j
 ·rw[World.cell?_setCells_out b vs (o+p) w ⟨b,o+j,none⟩ (λ_ _=>by simp only;omega),d j c e];exact(h j c).1
 ·have d:j-p<vs.length:=oM;have:=World.cell?_setCells_in b vs (o+p) w (λi m=>by
   have:=(h (p+i) oM).1;rw[<-WY]at this;rw[this];rfl) (j-p) d
  rw[show o+p+(j-p)=o+j by omega]at this;rw[this,g (j-p) d,show p+(j-p)=j by omega]
theorem app_front(a r:Bs)(j:Nat)(k:j<a.size):(a++r)[j]! = a[j]:=by
 have h:j<(a++r).size:=by rw[VP];omega
 rw[getElem!_pos (a++r) j h,Array.getElem_append_left k]
theorem app_back(a r:Bs)(j:Nat)(b:a.size<=j)(c:j<a.size+r.size):(a++r)[j]! = r[j-a.size]!:=by
 have h:j<(a++r).size:=by rw[VP];omega
 have k:j-a.size<r.size:=oM;rw[getElem!_pos (a++r) j h,Array.getElem_append_right b,getElem!_pos r (j-a.size) k]
theorem rep_at(n j:Nat)(h:j<n):(UM n (0:UInt8))[j]! = 0:=by
 have k:j<(UM n (0:UInt8)).size:=by rw[UO];exact h
 rw[getElem!_pos (UM n (0:UInt8)) j k,Wr]
theorem size_of5(P:VD)(e:Vb)(h:(P.info? e).map (·.size)=some 1):∀w,(yAl e).run P w=.ok 1 w:=by
 intro w;cases k:P.info? e with
 | none=>simp[k]at h
 | some i =>
  simp[k]at h;simp[yAl,typeInfo,k,h]
theorem conv_str(P:VD)(src k e:Vb)(i:P.underlying src=some (.slice e))(l:P.underlying e=some (.int .u8))(hd:P.underlying k=some .string)
 (w:Ut) (b o n cap:Nat) (c:Bs) (p:Holds encB w b o c) (r:c.size=n):(convert src k (.slice (some ⟨b,o,none⟩) n cap)).run P w=.ok (.string ⟨c⟩) w:=by
 have h:=run_convert_bytes_back (P:=P) w src k e ⟨b,o,none⟩ cap c.toList i l hd (λj m=>by
  have d:j<c.size:=by simpa using m
  have g:=(p j d).1;rw[getElem!_pos c j d]at g;have q:(⟨b,o,none⟩:Addr).add j=⟨b,o+j,none⟩:=by
   unfold Zr;by_cases f:j=0
   ·subst f;rfl
   ·rw[yCl f]
  rw[q,g];simp[encB,ub])
 simpa[r]using h
end
section
theorem slice22:prog.underlying 23=some (.slice 5):=kR
theorem info5:(prog.info? 5).map (λi=>(i.zero,i.size,i.bytes))=some (some (.int .u8 0),1,1):=kR
theorem int5:prog.underlying 5=some (.int .u8):=kR
theorem str9:prog.underlying 9=some .string:=kR
theorem size5:∀w,(yAl 5).run prog w=.ok 1 w:=size_of5 prog 5 kR
end
end
section
open Go.RowKit Go.Sort Go.Deep
variable {P:Nat}[NeZero P]{N:Nat}
def be8(x:Nat):Bs:=#[UQ (x/72057594037927936),UQ (x/281474976710656),UQ (x/1099511627776),UQ (x/4294967296),UQ (x/16777216),UQ (x/65536),UQ (x/256),UQ x]
def be32(a b c d:Nat):Bs:=be8 d++be8 c++be8 b++be8 a
theorem mP(x:Nat):ub (UQ x)=((x%256:Nat):Int):=by
 unfold ub;rw[UInt8.toNat_ofNat']
theorem Ho(x:Nat):XF.wrap (x:Int)=ub (UQ x):=by
 rw[mP,IntKind.wrap_u8];omega
theorem byte_at(x k:Nat):(V2 .u8 ((x:Int)/(k:Int)%256))=encB (UQ (x/k)):=by
 unfold encB;rw[mP,yBl,Zl];rfl
theorem J2(x:Nat)(hx:x<18446744073709551616):(V2 .u8 ((x:Int)/72057594037927936))=encB (UQ (x/72057594037927936)):=by
 unfold encB;rw[mP];exact congrArg (V2 .u8) oM
theorem TC(k:Bs)(g:k.size=8)(v0 v1 v2 b c e d f:UInt8):
 (((((((k.setIfInBounds 0 v0).setIfInBounds 1 v1).setIfInBounds 2 v2).setIfInBounds 3 b).setIfInBounds 4 c).setIfInBounds 5 e).setIfInBounds 6 d).setIfInBounds 7 f=#[v0,v1,v2,b,c,e,d,f]:=by
 obtain⟨l⟩:=k;match l,g with
 | [_,_,_,_,_,_,_,_],_=>simp
theorem kF(g o n cap x:Nat)(b:Bs)(w:Ut)(G:8<=n)(a:n<=cap)(c:cap<=1048576)(hx:x<18446744073709551616)(d:b.size=8)(k:Holds encB w g o b):
 UK prog 192 #[.slice (some ⟨g,o,none⟩) n cap,uZ x] w λe w'=>e=.returned (.tuple #[])/\Only g o 8 w w'/\Holds encB w' g o (be8 x):=by
 obtain⟨q,l⟩:=k 0 oM;obtain⟨c1,t⟩:=k 1 oM;obtain⟨c2,f2⟩:=k 2 oM;obtain⟨z,D⟩:=k 3 oM;obtain⟨E,y⟩:=k 4 oM;obtain⟨A,u⟩:=k 5 oM;obtain⟨B,F⟩:=k 6 oM;obtain⟨C,v⟩:=k 7 oM;rw[Xm]at q l;have f:=mk1 (k);go_enter func192,ntmps192;go_wp2;have v0:(V2 .u8 ((x:Int)/72057594037927936))=encB (UQ (x/72057594037927936)):=J2 x hx;have v1:(V2 .u8 ((x:Int)/281474976710656%256))=encB (UQ (x/281474976710656)):=byte_at x 281474976710656;have v2:(V2 .u8 ((x:Int)/1099511627776%256))=encB (UQ (x/1099511627776)):=byte_at x 1099511627776;have m:(V2 .u8 ((x:Int)/4294967296%256))=encB (UQ (x/4294967296)):=byte_at x 4294967296;have j:(V2 .u8 ((x:Int)/16777216%256))=encB (UQ (x/16777216)):=byte_at x 16777216;have s:(V2 .u8 ((x:Int)/65536%256))=encB (UQ (x/65536)):=byte_at x 65536;have p:(V2 .u8 ((x:Int)/256%256))=encB (UQ (x/256)):=byte_at x 256;have r:(V2 .u8 ((x:Int)%256))=encB (UQ x):=by unfold encB;rw[mP,yBl];rfl
 rw[v0,v1,v2,m,j,s,p,r]
 go_end0
 refine⟨rfl,?_,?_⟩
 ·exact((((((((Only.refl g o 8 w).setCell (o:=o) oM oM _).setCell (o:=o+1) oM oM _).setCell (o:=o+2) oM oM _).setCell (o:=o+3) oM oM _).setCell (o:=o+4) oM oM _).setCell (o:=o+5) oM oM _).setCell (o:=o+6) oM oM _).setCell (o:=o+7) oM oM _
 ·have:=TC b d (UQ (x/72057594037927936)) (UQ (x/281474976710656)) (UQ (x/1099511627776)) (UQ (x/4294967296)) (UQ (x/16777216)) (UQ (x/65536)) (UQ (x/256)) (UQ x);unfold be8;rw[<-this];exact Holds.set (Holds.set (Holds.set (Holds.set (Holds.set (Holds.set (Holds.set (Holds.set f.out (i:=0) oM _) (i:=1) (by simp;omega) _) (i:=2) (by simp;omega) _) (i:=3) (by simp;omega) _) (i:=4) (by simp;omega) _) (i:=5) (by simp;omega) _) (i:=6) (by simp;omega) _) (i:=7) (by simp;omega) _
theorem cC(x:Nat):(be8 x).size=8:=rfl
theorem Am(a b c d:Nat):(be32 a b c d).size=32:=by simp only[be32,VP,cC]
theorem Holds.part{w:Ut}{g o p:Nat}{d e:Bs}(h:Holds encB w g o d)(c:p+e.size<=d.size)(k:∀j,j<e.size->e[j]! = d[p+j]!):Holds encB w g (o+p) e:=by
 intro j b;rw[k j b,WY];exact h (p+j) oM
theorem Holds.join{w:Ut}{g:Nat}{a b c d:Nat}(m:Holds encB w g 0 (be8 d))(f:Holds encB w g 8 (be8 c))(n:Holds encB w g 16 (be8 b))(l:Holds encB w g 24 (be8 a)):Holds encB w g 0 (be32 a b c d):=by
 intro j i;rw[Am]at i;have e:be32 a b c d=be8 d++be8 c++be8 b++be8 a:=rfl;have s1:(be8 d++be8 c).size=16:=by simp only[VP,cC]
 have s2:(be8 d++be8 c++be8 b).size=24:=by simp only[VP,cC]
 by_cases k:j<8
 ·have:=m j (by rw[cC];exact k);rw[e,app_front _ _ j oM,<-getElem!_pos (be8 d++be8 c++be8 b) j oM,app_front _ _ j oM,<-getElem!_pos (be8 d++be8 c) j oM,app_front _ _ j (by rw[cC];exact k),<-getElem!_pos (be8 d) j (by rw[cC];exact k)];exact this
 ·by_cases p:j<16
  ·have:=f (j-8) (by rw[cC];omega);rw[show 8+(j-8)=0+j by omega]at this;rw[e,app_front _ _ j oM,<-getElem!_pos (be8 d++be8 c++be8 b) j oM,app_front _ _ j oM,<-getElem!_pos (be8 d++be8 c) j oM,app_back _ _ j (by rw[cC];omega) (by rw[cC,cC];omega),cC];exact this
  ·by_cases o:j<24
   ·have:=n (j-16) (by rw[cC];omega);rw[show 16+(j-16)=0+j by omega]at this;rw[e,app_front _ _ j oM,<-getElem!_pos (be8 d++be8 c++be8 b) j oM,app_back _ _ j oM (by rw[s1,cC];omega),s1];exact this
   ·have:=l (j-24) (by rw[cC];omega);rw[show 24+(j-24)=0+j by omega]at this;rw[e,app_back _ _ j oM (by rw[s2,cC];omega),s2];exact this
theorem T0(a b c d:Nat)(w:Ut):(ZT 47 (.agg #[uZ a,uZ b,uZ c,uZ d]) (iZ 0)).run prog w=.ok (uZ a) w:=kR
theorem TZ(a b c d:Nat)(w:Ut):(ZT 47 (.agg #[uZ a,uZ b,uZ c,uZ d]) (iZ 1)).run prog w=.ok (uZ b) w:=kR
theorem TY(a b c d:Nat)(w:Ut):(ZT 47 (.agg #[uZ a,uZ b,uZ c,uZ d]) (iZ 2)).run prog w=.ok (uZ c) w:=kR
theorem TX(a b c d:Nat)(w:Ut):(ZT 47 (.agg #[uZ a,uZ b,uZ c,uZ d]) (iZ 3)).run prog w=.ok (uZ d) w:=kR
theorem nZ{w:Ut}{g:Nat}(p:Nat)(h:Holds encB w g 0 (UM 32 0))(b:p+8<=32):Holds encB w g p (UM 8 (0:UInt8)):=by
 have:=Holds.part (p:=p) (e:=UM 8 0) h (by simpa using b) (λj k=>by
  rw[UO]at k;rw[rep_at 8 j k,rep_at 32 (p+j) oM])
 rwa[UF]at this
theorem Au(x:Uv)(m:Nat)(w:Ut)(hx:Four x m):
 UK prog 117 #[x] w (rZ w λe w'=>∃g a b c d:Nat,e=sZ g 32 32/\w.heap.size<=g/\x=.agg #[uZ a,uZ b,uZ c,uZ d]/\Holds encB w' g 0 (be32 a b c d)):=by
 obtain⟨a,b,c,d,rfl,L,N,M,hd,J⟩:=hx;clear J;have I:∀w:Ut,(Xx 23 (iZ 32) (iZ 32)).run prog w=.ok (sZ w.heap.size 32 32) (w.alloc (.cells (madeCells #[.int .u8 0] 32) 5)):=
  run_make_row' (P:=prog) 23 5 (.int .u8 0) 1 slice22 info5 rfl .i64 .i64 32 oM oM
 go_enter func117,ntmps117;go_wp2;refine wp_loop_rounds 5 ?_;have f:Holds encB ((w.alloc (.cells #[uZ a,uZ b,uZ c,uZ d] 47)).alloc (.cells (madeCells #[.int .u8 0] 32) 5)) (w.heap.size+1) 0 (UM 32 0):=by
  have:=Holds.made (enc:=encB) (w.alloc (.cells #[uZ a,uZ b,uZ c,uZ d] 47)) 5 32 0;rw[UD]at this;exact this
 have n:=below2 w (.cells #[uZ a,uZ b,uZ c,uZ d] 47) (.cells (madeCells #[.int .u8 0] 32) 5);generalize ((w.alloc (.cells #[uZ a,uZ b,uZ c,uZ d] 47)).alloc (.cells (madeCells #[.int .u8 0] 32) 5))=W at f n⊢;have l:Hid (kZ w W):=n;generalize G:w.heap.size+1=g at f⊢;have o:=mk1 (G);have B:=nZ 24 f oM;have j:=nZ 16 f oM;have i:=nZ 8 f oM;have k:=nZ 0 f oM;have F:=T0 a b c d;have A:=TZ a b c d;have C:=TY a b c d;have D:=TX a b c d;rw[Xh];go_wp2_with (simp only[F])
 refine(kF g 24 8 8 a _ _ oM oM oM L (by rw[UO]) B).mono ?_;rintro e R ⟨rfl,v,b1⟩;replace j:=Holds.same j v (by simp);replace i:=Holds.same i v (by simp);replace k:=Holds.same k v (by simp);have q:=mk1 (l.trans (v.below l.size (by have:=o.out;omega)));go_wp2_with fail
 rw[Xh];go_wp2_with (simp only[A])
 refine(kF g 16 16 16 b _ _ oM oM oM N (by rw[UO]) j).mono ?_;rintro e O ⟨rfl,y,s⟩;replace i:=Holds.same i y (by simp);replace k:=Holds.same k y (by simp);replace b1:=Holds.same b1 y (by simp);have r:=mk1 (q.trans (y.below q.size (by have:=o.out;omega)));go_wp2_with fail
 rw[Xh];go_wp2_with (simp only[C])
 refine(kF g 8 24 24 c _ _ oM oM oM M (by rw[UO]) i).mono ?_;rintro e Q ⟨rfl,u,z⟩;replace k:=Holds.same k u (by simp);replace b1:=Holds.same b1 u (by simp);replace s:=Holds.same s u (by simp);have p:=mk1 (r.trans (u.below r.size (by have:=o.out;omega)));go_wp2_with fail
 rw[Xh];go_wp2_with (simp only[D])
 refine(kF g 0 32 32 d _ _ oM oM oM hd (by rw[UO]) k).mono ?_;rintro e S ⟨rfl,t,H⟩;replace b1:=Holds.same b1 t (by simp);replace s:=Holds.same s t (by simp);replace z:=Holds.same z t (by simp);have E:=mk1 (p.trans (t.below p.size (by have:=o.out;omega)));have K:=mk1 (Holds.join H z s b1);go_wp2_with fail
 rw[Xh];go_wp2
 go_ret;exact⟨_,rfl,E.out,g,a,b,c,d,rfl,by have:=o.out;omega,rfl,K.out⟩
theorem jJ(a b t:Nat)(c:t<=56)(k:a<2^t)(f:b<256):bits .or .u64 (a:Int) ((b*2^t:Nat):Int)=((a+b*2^t:Nat):Int)/\a+b*2^t<2^(t+8):=by
 have i:2^t<=2^56:=VN dC c;have j:b*2^t<=255*2^t:=WX _ oM;have g:2^(t+8)=256*2^t:=by rw[Yh,Vv]
 have d:(2:Nat)^56=72057594037927936:=dC;have e:=YR k b;refine⟨?_,oM⟩;rw[bits_or_u64_nat _ _ oM oM,yBY,Vv b,<-e,yAS]
theorem pQ(b:UInt8)(t:Nat)(k:t<=56):Vw.wrap (Vw.wrap (ub b)*((2^t:Nat):Int))=((b.toNat*2^t:Nat):Int):=by
 have e:=b.toNat_lt;have d:2^t<=2^56:=VN dC k;have f:b.toNat*2^t<=255*2^t:=WX _ oM;have c:(2:Nat)^56=72057594037927936:=dC;unfold ub;rw[wrapN _ oM,mulN,wrapN _ oM]
def w8(b0 b1 k c f e d b:UInt8):Nat:=
 b.toNat+d.toNat*256+e.toNat*65536+f.toNat*16777216+c.toNat*4294967296+k.toNat*1099511627776+b1.toNat*281474976710656+b0.toNat*72057594037927936
theorem Es(b0 b1 k c f e d b:UInt8):w8 b0 b1 k c f e d b<18446744073709551616:=by
 have:=b0.toNat_lt;have:=b1.toNat_lt;have:=k.toNat_lt;have:=c.toNat_lt
 have:=f.toNat_lt;have:=e.toNat_lt;have:=d.toNat_lt;have:=b.toNat_lt
 unfold w8;omega
theorem KW(b0 b1 f b c e d k:UInt8):
 bits .or .u64 (bits .or .u64 (bits .or .u64 (bits .or .u64 (bits .or .u64 (bits .or .u64 (bits .or .u64 (Vw.wrap (ub k)) (Vw.wrap (Vw.wrap (ub d)*256)))
  (Vw.wrap (Vw.wrap (ub e)*65536))) (Vw.wrap (Vw.wrap (ub c)*16777216))) (Vw.wrap (Vw.wrap (ub b)*4294967296)))
  (Vw.wrap (Vw.wrap (ub f)*1099511627776))) (Vw.wrap (Vw.wrap (ub b1)*281474976710656))) (Vw.wrap (Vw.wrap (ub b0)*72057594037927936))=((w8 b0 b1 f b c e d k:Nat):Int):=by
 have B:=k.toNat_lt;have v:Vw.wrap (ub k)=(k.toNat:Int):=wrapN _ oM;have z:=pQ d 8 dC;have g:=pQ e 16 dC;have e3:=pQ c 24 dC;have a:=pQ b 32 dC;have j:=pQ f 40 dC;have l:=pQ b1 48 dC;have u:=pQ b0 56 dC;obtain⟨x,s⟩:=jJ k.toNat d.toNat 8 dC oM (by have:=d.toNat_lt;omega);obtain⟨A,r⟩:=jJ _ e.toNat 16 dC s (by have:=e.toNat_lt;omega);obtain⟨m,o⟩:=jJ _ c.toNat 24 dC r (by have:=c.toNat_lt;omega);obtain⟨i,n⟩:=jJ _ b.toNat 32 dC o (by have:=b.toNat_lt;omega);obtain⟨y,t⟩:=jJ _ f.toNat 40 dC n (by have:=f.toNat_lt;omega);obtain⟨p,w⟩:=jJ _ b1.toNat 48 dC t (by have:=b1.toNat_lt;omega);obtain⟨q,C⟩:=jJ _ b0.toNat 56 dC w (by have:=b0.toNat_lt;omega);rw[show(256:Int)=((2^8:Nat):Int) from rfl,show(65536:Int)=((2^16:Nat):Int) from rfl,show(16777216:Int)=((2^24:Nat):Int) from rfl,
  show(4294967296:Int)=((2^32:Nat):Int) from rfl,show(1099511627776:Int)=((2^40:Nat):Int) from rfl,show(281474976710656:Int)=((2^48:Nat):Int) from rfl,show(72057594037927936:Int)=((2^56:Nat):Int) from rfl,
  v,z,g,e3,a,j,l,u,x,A,m,i,y,p,q]
 rfl
theorem word_any(g o n cap:Nat)(k:Bs)(w:Ut)(F:8<=n)(z:n<=cap)(c:cap<=1048576)(s:8<=k.size)(b:Holds encB w g o k):
 UK prog 195 #[.slice (some ⟨g,o,none⟩) n cap] w λe w'=>e=.returned (.int .u64 ((w8 k[0]! k[1]! k[2]! k[3]! k[4]! k[5]! k[6]! k[7]!:Nat):Int))/\∃n,w'=w.drewN n:=by
 obtain⟨q,i⟩:=b 0 oM;obtain⟨c1,t⟩:=b 1 oM;obtain⟨c2,f2⟩:=b 2 oM;obtain⟨y,C⟩:=b 3 oM;obtain⟨D,x⟩:=b 4 oM;obtain⟨a,u⟩:=b 5 oM;obtain⟨A,E⟩:=b 6 oM;obtain⟨B,v⟩:=b 7 oM;rw[Xm]at q i;unfold encB at *;generalize k[0]! = b0 at *;generalize k[1]! = b1 at *;generalize k[2]! = r at *;generalize k[3]! = d at *;generalize k[4]! = f at *;generalize k[5]! = p at *;generalize k[6]! = m at *;generalize k[7]! = j at *;have l:=mk1 (KW b0 b1 r d f p m j);go_enter func195,ntmps195;go_wp2;go_quiet (fail);go_wp2;go_ret;exact⟨ret_int l.out,_,rfl⟩
def beV(l:List UInt8):Nat:=l.foldl (λn b=>256*n+b.toNat) 0
theorem DX(l:List UInt8):∀n,l.foldl (λn b=>256*n+b.toNat) n=n*256^l.length+beV l:=by
 induction l with
 | nil=>intro n;simp[beV]
 | cons x r ih =>
  intro n;have k:=ih (256*n+x.toNat);have c:=ih (256*0+x.toNat);simp only[yBk,Vg,beV]at *;rw[k,c,V8,XH,Zn,UF,Vv 256 n,XK,Vv 256];omega
theorem jR(l r:List UInt8):beV (l++r)=beV l*256^r.length+beV r:=by
 rw[beV,List.foldl_append,DX];rfl
theorem Ha(n:Nat)(l:List UInt8):beV (VG n 0++l)=beV l:=by
 rw[jR];have:beV (VG n 0)=0:=by
  induction n with
  | zero=>rfl
  | succ k ih=>rw[List.replicate_succ',jR,ih];rfl
 rw[this,ZW,UF]
theorem J8(s a y z v u r t x w n g l k i j x16 x17 q o f x21 d x23 b p x26 x27 c m x30 e:UInt8):
 beV [s,a,y,z,v,u,r,t,x,w,n,g,l,k,i,j,x16,x17,q,o,f,x21,d,x23,b,p,x26,x27,c,m,x30,e]
  = val (w8 b p x26 x27 c m x30 e) (w8 x16 x17 q o f x21 d x23) (w8 x w n g l k i j) (w8 s a y z v u r t):=by
 simp only[beV,yBk,List.foldl_nil,w8,val];omega
theorem Hb(k:Bs)(h:k.size=32):beV k.toList=val (w8 k[24]! k[25]! k[26]! k[27]! k[28]! k[29]! k[30]! k[31]!) (w8 k[16]! k[17]! k[18]! k[19]! k[20]! k[21]! k[22]! k[23]!)
 (w8 k[8]! k[9]! k[10]! k[11]! k[12]! k[13]! k[14]! k[15]!) (w8 k[0]! k[1]! k[2]! k[3]! k[4]! k[5]! k[6]! k[7]!):=by
 obtain⟨l⟩:=k;match l,h with
 | [x0,x1,x2,x3,x4,x5,x6,x7,x8,x9,x10,x11,x12,x13,x14,x15,x16,x17,x18,x19,x20,x21,x22,x23,x24,x25,x26,x27,x28,x29,x30,x31],_=>exact J8 x0 x1 x2 x3 x4 x5 x6 x7 x8 x9 x10 x11 x12 x13 x14 x15 x16 x17 x18 x19 x20 x21 x22 x23 x24 x25 x26 x27 x28 x29 x30 x31
theorem zero32:∀w:Ut,(zeroValue 273).run prog w=.ok (.agg (UM 32 (.int .u8 0))) w:=λ_=>kR
theorem ints5:(prog.info? 5).map (·.size)=some 1:=kR
def padded(n:Nat)(k:Bs):Bs:=UM (32-n) 0++k
theorem tX(n:Nat)(k:Bs)(b:k.size=n)(c:n<=32):(padded n k).size=32:=by
 unfold padded;rw[VP,UO];omega
theorem Dy(n:Nat)(k:Bs):beV (padded n k).toList=beV k.toList:=by
 unfold padded;rw[Array.toList_append,XT,Ha]
theorem MU{w:Ut}{b g o n cap:Nat}{c:Bs}(i:Holds encB w b 0 (UM 32 0))(t:n<=32)(q:Holds encB w g o c)(l:c.size=n):
 (Ya #[23,23] 3 #[.slice (some ⟨b,32-n,none⟩) n n,.slice (some ⟨g,o,none⟩) n cap]).run prog w=.ok (goInt n) (w.setCells b (32-n) (c.toList.map encB))
  /\ Holds encB (w.setCells b (32-n) (c.toList.map encB)) b 0 (padded n c):=by
 have k:(c.toList.map encB).length=n:=by rw[US,UL,l]
 refine⟨?_,?_⟩
 ·have:=run_copy_cells (P:=prog) w 23 23 3 5 b (32-n) n n ⟨g,o,none⟩ n cap (c.toList.map encB) slice22 ints5 (by rw[k];exact(Nat.min_self n).symm)
   (λj u d=>by
    obtain⟨e,f⟩:=UG.1 d;rw[k]at e;have p:=(q j oM).1;rw[getElem!_pos c j oM]at p;rw[Xi,XG]at f;have s:(⟨g,o,none⟩:Addr).add j=⟨g,o+j,none⟩:=by
     unfold Zr;by_cases m:j=0
     ·subst m;rw[yCk rfl];rfl
     ·rw[yCl m]
    rw[s,p,f])
   (λj d=>by
    have:=(i (32-n+j) (by rw[UO];omega)).1;rw[UF]at this;rw[this];rfl)
   (λj d=>by
    have:=(i (32-n+j) (by rw[UO];omega)).2;rwa[UF]at this)
   (λu m=>by obtain⟨x,_,rfl⟩:=List.mem_map.1 m;rfl)
  rw[k]at this;exact this
 ·have:=Holds.setCells (r:=padded n c) i (c.toList.map encB) (32-n) (by rw[tX n c l t,UO]) (by rw[k,UO];omega) (λj d=>?_) (λj e f=>?_)
  ·rw[UF]at this;exact this
  ·rw[k]at d;rw[Xi,XG];unfold padded;rw[app_back _ _ _ (by rw[UO];omega) (by rw[UO];omega),UO,show 32-n+j-(32-n)=j by omega,getElem!_pos c j oM]
  ·rw[UO]at e;rw[k]at f;unfold padded;rw[app_front _ _ j (by rw[UO];omega),Wr,rep_at 32 j e]
theorem EN{w:Ut}{g:Nat}{T:Bs}(p:Nat)(h:Holds encB w g 0 T)(k:p+8<=T.size):Holds encB w g p #[T[p]!,T[p+1]!,T[p+2]!,T[p+3]!,T[p+4]!,T[p+5]!,T[p+6]!,T[p+7]!]:=by
 have:=Holds.part (p:=p) (e:=#[T[p]!,T[p+1]!,T[p+2]!,T[p+3]!,T[p+4]!,T[p+5]!,T[p+6]!,T[p+7]!]) h (by simpa using k) (λj b=>by
  have:j<8:=by simpa using b
  match j,this with
  | 0,_=>rfl
  | 1,_=>rfl
  | 2,_=>rfl
  | 3,_=>rfl
  | 4,_=>rfl
  | 5,_=>rfl
  | 6,_=>rfl
  | 7,_=>rfl)
 rwa[UF]at this
theorem nQ(g o n cap:Nat)(b0 b1 j b c i f d:UInt8)(w:Ut)(p:8<=n)(m:n<=cap)(k:cap<=1048576)(l:Holds encB w g o #[b0,b1,j,b,c,i,f,d]):
 UK prog 195 #[.slice (some ⟨g,o,none⟩) n cap] w λe w'=>e=.returned (uZ ((w8 b0 b1 j b c i f d:Nat):Int))/\∃n,w'=w.drewN n:=
 word_any g o n cap #[b0,b1,j,b,c,i,f,d] w p m k (Uy 8) l
theorem Holds.far{w:Ut}{g o i:Nat}{k:Bs}(h:Holds encB w g o k)(c:j≠g)(v:Uv):Holds encB (w.setCell ⟨j,i,none⟩ v) g o k:=by
 intro l b;rw[UV _ _ _ _ (bH (U6 c)),VK];exact h l b
theorem kM(z:Option Addr)(g o n cap:Nat)(m:Bs)(w:Ut)(hn:n<=32)(hc:n<=cap)(hs:m.size=n)(W:n=0\/(z=some ⟨g,o,none⟩/\Holds encB w g o m)):
 UK prog 125 #[.slice z n cap] w (rZ w λe w'=>Four e (beV m.toList)):=by
 have G:=tX n m hs hn;have D:=mk1 ((Dy n m).symm.trans (Hb _ G));have zv:=zero32;have h7:(n:Int)<=32:=oM;have d0:(0:Int)<=32-(n:Int):=oM;have d1:(32:Int)-(n:Int)<=32:=oM;have d2:((32:Int)-(n:Int)).toNat=32-n:=oM;go_enter func125,ntmps125
 go_upto_region 2 with fail
 have R:=(At4.made w 47 0 0 0 0 rfl).alloc (.cells (UM 32 (.int .u8 0)) 273);have Z:Holds encB ((w.alloc (.cells #[uZ 0,uZ 0,uZ 0,uZ 0] 47)).alloc (.cells (UM 32 (.int .u8 0)) 273)) (w.heap.size+1) 0 (UM 32 0):=by
  have:=Holds.new (enc:=encB) (w.alloc (.cells #[uZ 0,uZ 0,uZ 0,uZ 0] 47)) 273 (UM 32 0);rw[Array.map_replicate,UD]at this;exact this
 have BL:=below2 w (.cells #[uZ 0,uZ 0,uZ 0,uZ 0] 47) (.cells (UM 32 (.int .u8 0)) 273);simp only[WM]at R;have I:n=0\/(z=some ⟨g,o,none⟩/\Holds encB ((w.alloc (.cells #[uZ 0,uZ 0,uZ 0,uZ 0] 47)).alloc (.cells (UM 32 (.int .u8 0)) 273)) g o m):=by
  rcases W with h|⟨h1,b⟩
  ·exact U6 h
  ·by_cases B:n=0
   ·exact U6 B
   ·exact U2 ⟨h1,Holds.below b BL (Holds.lt b oM)⟩
 clear W;generalize XB _ _=U at R Z BL I⊢
 go_cut [] (λwx=>Holds encB wx (w.heap.size+1) 0 (padded n m)/\At4 wx w.heap.size 0 0 0 0/\kZ w wx)
 case first =>
  by_cases B:n=0
  ·subst B;have c:∀w d b dc,(Ya #[23,23] 3 #[.slice d b dc,.slice z 0 cap]).run prog w=.ok (goInt 0) w:=λw d b dc=>run_copy_none w 23 23 3 5 d z b dc 0 cap slice22 ints5 (by simp)
   have f:padded 0 m=UM 32 0:=by
    have:m=#[]:=Array.eq_empty_of_size_eq_zero hs;rw[this];rfl
   go_wp2
   go_meet
   exact⟨by rw[f];exact Z,R,BL⟩
  ·obtain⟨rfl,W⟩:z=some ⟨g,o,none⟩/\Holds encB U g o m:=I.resolve_left B;obtain⟨c,f⟩:=MU (cap:=cap) Z hn W hs;have l:32-(32-n)=n:=oM;have j:At4 (U.setCells (w.heap.size+1) (32-n) (m.toList.map encB)) w.heap.size 0 0 0 0:=by
    have b:=heap_setCells (w.heap.size+1) (k:=w.heap.size) oM (m.toList.map encB) (32-n) U;exact⟨by rw[<-R.c0];exact U0 b,by rw[<-R.c1];exact U0 b,by rw[<-R.c2];exact U0 b,by rw[<-R.c3];exact U0 b,λo=>by rw[<-R.f o];exact VR b⟩
   have y:kZ w (U.setCells (w.heap.size+1) (32-n) (m.toList.map encB)):=below_setCells (Y4 _) _ _ _ BL;have b:=mk3 f j y;go_wp2
   go_meet
   exact b.out
 case rest =>
  obtain⟨E,j,y⟩:=hcut;generalize padded n m=T at E G D⊢;have V:=EN 24 E oM;have p2:=EN 16 E oM;have p1:=EN 8 E oM;have p0:=EN 0 E oM;have zk:=j.lt;have q:=Holds.lt E oM;generalize K:w8 T[24]! T[25]! T[26]! T[27]! T[28]! T[29]! T[30]! T[31]! = x at D;generalize O:w8 T[16]! T[17]! T[18]! T[19]! T[20]! T[21]! T[22]! T[23]! = a at D;generalize J:w8 T[8]! T[9]! T[10]! T[11]! T[12]! T[13]! T[14]! T[15]! = F at D;generalize M:w8 T[0]! T[1]! T[2]! T[3]! T[4]! T[5]! T[6]! T[7]! = r at D;have l3:=K ▸ Es _ _ _ _ _ _ _ _;have l2:=O ▸ Es _ _ _ _ _ _ _ _;have l1:=J ▸ Es _ _ _ _ _ _ _ _;have l0:=M ▸ Es _ _ _ _ _ _ _ _;go_wp2;have N:=At4.made wc 47 0 0 0 0 rfl;simp only[WM]at N;replace V:=Holds.below V (aC wc (.cells #[uZ 0,uZ 0,uZ 0,uZ 0] 47)) q;replace p2:=Holds.below p2 (aC wc (.cells #[uZ 0,uZ 0,uZ 0,uZ 0] 47)) q;replace p1:=Holds.below p1 (aC wc (.cells #[uZ 0,uZ 0,uZ 0,uZ 0] 47)) q;replace p0:=Holds.below p0 (aC wc (.cells #[uZ 0,uZ 0,uZ 0,uZ 0] 47)) q;have BL:=mk1 (y.alloc (XN zk) (.cells #[uZ 0,uZ 0,uZ 0,uZ 0] 47));replace j:=j.alloc (.cells #[uZ 0,uZ 0,uZ 0,uZ 0] 47);have A:w.heap.size≠wc.heap.size:=oM;have s:w.heap.size+1≠wc.heap.size:=oM;have Q:Hid (w.heap.size<=wc.heap.size):=by unfold Hid;omega
  generalize wc.heap.size=S at N A s Q⊢;generalize h1:w.heap.size+1=Y at V p2 p1 p0 s⊢;generalize B:w.heap.size=X at j A BL Q⊢;have H0:=mk1 (B);refine wp_loop_rounds 5 ?_;obtain⟨l,c,f,b,t⟩:=id N;have u:=N.lt;rw[Xh];go_wp2_with fail
  refine(nQ Y 24 8 8 _ _ _ _ _ _ _ _ _ dC dC dC V).mono ?_;rintro e w1 ⟨rfl,C,rfl⟩;rw[K];replace N:=N.drewN C;obtain⟨l,c,f,b,t⟩:=id N;have u:=N.lt;go_wp2_with fail
  replace N:=N.set0 x;replace j:=(j.drewN C).other (o:=0) A.symm (uZ x);replace BL:Hid (Below X w _):=(mJ BL.out C).setCell (p:=⟨S,0,none⟩) Q.out (uZ x);replace p2:=Holds.far (Holds.drewN p2 C) (i:=0) s.symm (uZ x);replace p1:=Holds.far (Holds.drewN p1 C) (i:=0) s.symm (uZ x);replace p0:=Holds.far (Holds.drewN p0 C) (i:=0) s.symm (uZ x);obtain⟨l,c,f,b,t⟩:=id N;have u:=N.lt;rw[Xh];go_wp2_with fail
  refine(nQ Y 16 16 16 _ _ _ _ _ _ _ _ _ dC dC dC p2).mono ?_;rintro e w1 ⟨rfl,H,rfl⟩;rw[O];replace N:=N.drewN H;obtain⟨l,c,f,b,t⟩:=id N;have u:=N.lt;go_wp2_with fail
  replace N:=N.set1 a;replace j:=(j.drewN H).other (o:=1) A.symm (uZ a);replace BL:Hid (Below X w _):=(mJ BL.out H).setCell (p:=⟨S,1,none⟩) Q.out (uZ a);replace p1:=Holds.far (Holds.drewN p1 H) (i:=1) s.symm (uZ a);replace p0:=Holds.far (Holds.drewN p0 H) (i:=1) s.symm (uZ a);obtain⟨l,c,f,b,t⟩:=id N;have u:=N.lt;rw[Xh];go_wp2_with fail
  refine(nQ Y 8 24 24 _ _ _ _ _ _ _ _ _ dC dC dC p1).mono ?_;rintro e w1 ⟨rfl,P,rfl⟩;rw[J];replace N:=N.drewN P;obtain⟨l,c,f,b,t⟩:=id N;have u:=N.lt;go_wp2_with fail
  replace N:=N.set2 F;replace j:=(j.drewN P).other (o:=2) A.symm (uZ F);replace BL:Hid (Below X w _):=(mJ BL.out P).setCell (p:=⟨S,2,none⟩) Q.out (uZ F);replace p0:=Holds.far (Holds.drewN p0 P) (i:=2) s.symm (uZ F);obtain⟨l,c,f,b,t⟩:=id N;have u:=N.lt;rw[Xh];go_wp2_with fail
  refine(nQ Y 0 32 32 _ _ _ _ _ _ _ _ _ dC dC dC p0).mono ?_;rintro e w1 ⟨rfl,q3,rfl⟩;rw[M];replace N:=N.drewN q3;obtain⟨l,c,f,b,t⟩:=id N;have u:=N.lt;go_wp2_with fail
  replace N:=N.set3 r;replace j:=(j.drewN q3).other (o:=3) A.symm (uZ r);replace BL:Hid (Below X w _):=(mJ BL.out q3).setCell (p:=⟨S,3,none⟩) Q.out (uZ r);obtain⟨l,c,f,b,t⟩:=id N;have u:=N.lt;obtain⟨h6,h4,h5,h3,rf⟩:=id j;have zr:=j.lt;rw[Xh];go_wp2
  have L:=j.self4 x a F r;unfold set4 at L;refine UH (v:=?v) ?hr rfl ?hR
  case hr=>simp[results,Tryz.results125,go_sem,L.c0,L.c1,L.c2,L.c3];rfl
  refine⟨_,rfl,?_,Four.mk l3 l2 l1 l0 D.out⟩;rw[H0.out];exact aL BL.out (Uy _) _ _ _ _
theorem rO(f i l P:Nat)(hG:Gap f i l P)(w:Ut):
 UK prog 222 #[.agg #[uZ f,uZ i,uZ l,uZ 0]] w (rZ w λe w'=>Four e P):=by
 have r:=hG.hg;go_enter func222,ntmps222;go_wp2_with fail
 have R:=At4.made (w.alloc (.cells #[uZ f,uZ i,uZ l,uZ 0] 120)) 47 0 0 0 0 (UD _ _);have BL:=below2 w (.cells #[uZ f,uZ i,uZ l,uZ 0] 120) (.cells #[uZ 0,uZ 0,uZ 0,uZ 0] 47);simp only[WM]at R;refine(sK _ _ 0 _ (Four.mk (a:=0) (b:=0) (c:=0) (d:=0) dC dC dC dC rfl) (Four.mk hG.h0 hG.h1 hG.h2 dC rfl) _).mono ?_;rintro e F ⟨v,rfl,j,v2,t,k,rfl,n,D,p⟩;replace p:t+val f i l 0=0+top*k:=p;have q:t=P:=by
  have g:=n.lt;have m:=hG.hP;have:k=0\/k=1:=oM;rcases this with h|h<;>rw[h]at p<;>omega
 subst q;replace R:=R.call j;have o:=mk1 (BL.trans (j.mono BL.size));obtain⟨a,b,c,d,rfl,G,I,H,hd,C⟩:=id n;have z:=R.lt;go_wp2_with fail
 refine(jK _ _ n _).mono ?_;rintro e x ⟨B,rfl,g,rfl⟩;replace o:Hid (kZ w x):=(o.alloc oM _).trans (g.mono (by simp;omega));replace R:=(R.alloc _).call g;obtain⟨y,u,s,A,E⟩:=id R;have z:=R.lt;go_wp2;have m:=R.self4 a b c d;unfold set4 at m;refine UH (v:=?v) ?hr rfl ?hR
 case hr=>simp[results,Tryz.results222,go_sem,m.c0,m.c1,m.c2,m.c3];rfl
 exact⟨_,rfl,aL o.out (Y4 _) _ _ _ _,n⟩
end
section
open Go.RowKit Go.Sort
variable {P:Nat}[NeZero P]{N:Nat}
theorem NJ(w:Ut)(t0 t1 t2:Vb)(a b c d e f g h i j k l:Nat):
 Kept w w.heap.size [⟨w.heap.size,0,a,b,c,d⟩,⟨w.heap.size+1,0,e,f,g,h⟩,⟨w.heap.size+1+1,0,i,j,k,l⟩]
  (((w.alloc (.cells #[uZ a,uZ b,uZ c,uZ d] t0)).alloc (.cells #[uZ e,uZ f,uZ g,uZ h] t1)).alloc (.cells #[uZ i,uZ j,uZ k,uZ l] t2)):=by
 refine(((Kept.mk1 (below3 w _ _ _) (below3 w _ _ _).size).cons ?_).cons ?_).cons ?_
 ·exact(At4.made _ t2 i j k l (by simp)).blk
 ·exact((At4.made _ t1 e f g h (by simp)).alloc _).blk
 ·exact(((At4.made _ t0 a b c d rfl).alloc _).alloc _).blk
theorem uI(f i g P:Nat)(x:Uv)(m:Nat)(hG:Gap f i g P)(j:2<=P%18446744073709551616)(hx:Four x m)(w:Ut):
 UK prog 185 #[.agg #[uZ f,uZ i,uZ g,uZ 0],x] w (rZ w λe w'=>Four e (m^(P-2)%P)):=by
 obtain⟨a,b,c,d,rfl,F,hb,H,hd,E⟩:=id hx;have HX:Hid (Four _ m):=hx;have A:Hid (Gap f i g P):=hG;clear E hx F hb H hd hG;go_enter func185,ntmps185;go_wp2_with fail
 have k:=NJ w 120 47 47 f i g 0 a b c d 0 0 0 0;simp only[WM]at k;generalize XB _ _=W0 at k⊢;generalize h2:w.heap.size+1+1=X at k⊢;generalize h1:w.heap.size+1=k1 at k⊢;have z:Hid (w.heap.size<=X):=by unfold Hid;omega
 generalize h0:w.heap.size=k0 at k z⊢;have H0:=mk1 (h0);refine(rO f i g P A.out _).mono ?_;rintro e w1 ⟨v,rfl,y,p⟩;obtain⟨q,W,T,R,rfl,M,r,s,u,B⟩:=id p;replace k:=k.call y;have h6:2<=q:=by rw[B]at j;unfold val at j;omega
 obtain⟨o,n⟩:∃o,q=o+2:=⟨q-2,oM⟩
 have HE:Hid (Four (.agg #[uZ o,uZ W,uZ T,uZ R]) (P-2)):=by
  refine Four.mk oM r s u ?_;rw[B,n];unfold val;omega
 have hw:=wrapN o oM;obtain⟨I,Y,V,Z,xf⟩:=k.tail.head.at4;have zx:=k.tail.head.lt;obtain⟨h7,L,C,h4,pf⟩:=k.head.at4;have N:=k.head.lt;have n1:=Xk zx;have n0:=Xk N;go_wp2_with fail
 refine(zO f i g P _ _ _ _ A.out HX.out HE.out _).mono ?_;rintro e w2 ⟨v,rfl,t,p⟩;replace k:=(k.alloc _).call t;obtain⟨U,qb,qc,qd,rfl,h5,Q,G,D,eQ⟩:=id p;have J:=mk1 (p);obtain⟨h3,O,S,K,rf⟩:=k.tail.tail.head.at4;have zr:=k.tail.tail.head.lt;go_wp2;have l:=k.tail.tail.head.at4.self4 U qb qc qd;unfold set4 at l;refine UH (v:=?v) ?hr rfl ?hR
 case hr=>simp[results,Tryz.results185,go_sem,l.c0,l.c1,l.c2,l.c3];rfl
 refine⟨_,rfl,?_,J.out⟩;rw[H0.out];exact aL k.bl z.out _ _ _ _
theorem QC:prog.underlying 22=some (.int .u64):=kR
theorem Tn:∀w,(sizeOf 22).run prog w=.ok 1 w:=λ_=>kR
theorem Te:prog.underlying 47=some (.array 4 22):=kR
theorem Fv(D:Nat)(a b c d p q r s:Nat)(w:Ut):
 (yCc (D+1+1) 47 (.agg #[uZ a,uZ b,uZ c,uZ d]) (.agg #[uZ p,uZ q,uZ r,uZ s])).run prog w=.ok (decide (a=p/\b=q/\c=r/\d=s)) w:=by
 have k:=λ(x y:Nat)=>run_equalIn_int (P:=prog) w D 22 .u64 .u64 (x:Int) (y:Int) QC
 rw[yCc];simp only[UW,Yn Te,Vr,Tn];simp only[Std.Legacy.Range.forIn_eq_forIn_range',Std.Legacy.Range.size,yBQ,List.forIn_cons,List.forIn_nil];by_cases e:a=p
 ·by_cases f:b=q
  ·by_cases g:c=r
   ·by_cases i:d=s
    ·simp[e,f,g,i,part,k]
    ·simp[e,f,g,i,part,k];omega
   ·simp[e,f,g,part,k];omega
  ·simp[e,f,part,k];omega
 ·simp[e,part,k];omega
theorem Ro(a b c d p q r s:Nat)(w:Ut):
 (binOp .neq 47 (.agg #[uZ a,uZ b,uZ c,uZ d]) (.agg #[uZ p,uZ q,uZ r,uZ s])).run prog w=.ok (.bool (!decide (a=p/\b=q/\c=r/\d=s))) w:=by
 rw[run_neq_struct,Fv 9998];rfl
theorem OM(a b c d:Nat)(w:Ut):(binOp .neq 47 (.agg #[uZ a,uZ b,uZ c,uZ d]) (.agg #[uZ a,uZ b,uZ c,uZ d])).run prog w=.ok (.bool false) w:=by
 rw[Ro,decide_eq_true ⟨rfl,rfl,rfl,rfl⟩];rfl
theorem Mr{a b c d p:Nat}(h:¬(a=p/\b=q/\c=r/\d=s))(w:Ut):(binOp .neq 47 (.agg #[uZ a,uZ b,uZ c,uZ d]) (.agg #[uZ p,uZ q,uZ r,uZ s])).run prog w=.ok (.bool true) w:=by
 rw[Ro,decide_eq_false h];rfl
theorem O3(a b:Nat)(d:a<18446744073709551616):bits .or .u64 ((a/4:Nat):Int) ((b*4611686018427387904%18446744073709551616:Nat):Int)=((a/4+b*4611686018427387904%18446744073709551616:Nat):Int)/\a/4+b*4611686018427387904%18446744073709551616<18446744073709551616:=by
 have k:b*4611686018427387904%18446744073709551616=2^62*(b%4):=oM;have c:=YR (i:=62) (b:=a/4) oM (b%4);rw[bits_or_u64_nat _ _ oM oM,k,yBY,<-c];omega
theorem B8(x:Uv)(m:Nat)(hx:Four x m)(w:Ut):
 UK prog 226 #[x] w (rZ w λe w'=>Four e (m/4)):=by
 obtain⟨a,b,c,d,rfl,s,u,t,hd,n⟩:=id hx;obtain⟨f,j⟩:=O3 a b s;obtain⟨g,p⟩:=O3 b c u;obtain⟨i,o⟩:=O3 c d t;have k:=Dt a b c d;rw[<-n]at k;have s0:(a:Int)/4=((a/4:Nat):Int):=oM;have s1:(b:Int)/4=((b/4:Nat):Int):=oM;have s2:(c:Int)/4=((c/4:Nat):Int):=oM;have s3:(d:Int)/4=((d/4:Nat):Int):=oM;have t1:Vw.wrap ((b:Int)*4611686018427387904)=((b*4611686018427387904%18446744073709551616:Nat):Int):=by rw[XJ];omega
 have t2:Vw.wrap ((c:Int)*4611686018427387904)=((c*4611686018427387904%18446744073709551616:Nat):Int):=by rw[XJ];omega
 have r:Vw.wrap ((d:Int)*4611686018427387904)=((d*4611686018427387904%18446744073709551616:Nat):Int):=by rw[XJ];omega
 have l:d/4<18446744073709551616:=oM;generalize a/4+b*4611686018427387904%18446744073709551616=y at f j k;generalize b/4+c*4611686018427387904%18446744073709551616=C at g p k;generalize c/4+d*4611686018427387904%18446744073709551616=D at i o k;generalize b*4611686018427387904%18446744073709551616=v1 at f t1;generalize c*4611686018427387904%18446744073709551616=v2 at g t2;generalize d*4611686018427387904%18446744073709551616=z at i r;generalize a/4=A at f s0;generalize b/4=E at g s1;generalize c/4=B at i s2;generalize d/4=F at s3 l k;have q:Hid _:=k;clear k n hx;go_enter func226,ntmps226;go_wp2;refine UH (v:=?v) ?hr rfl ?hR
 case hr=>simp[results,Tryz.results226,go_sem];rfl
 exact⟨_,rfl,below2 _ _ _,Four.mk j p o l q.symm⟩
theorem Gc(x:Uv)(m:Nat)(hx:Four x m)(w:Ut):
 UK prog 116 #[x] w (rZ w λe w'=>e=.bool (decide (m%2=1))):=by
 obtain⟨a,b,c,d,rfl,f,l,j,hd,k⟩:=id hx;have ho:=and_one a f;have i:m%2=a%2:=by rw[k];unfold val;omega
 rw[i];have g:a%2=0\/a%2=1:=oM;rcases g with h|h
 ·rw[h]at ho⊢;go_enter func116,ntmps116;go_wp2;go_ret;exact⟨_,rfl,aC _ _,rfl⟩
 ·rw[h]at ho⊢;go_enter func116,ntmps116;go_wp2;go_ret;exact⟨_,rfl,aC _ _,rfl⟩
theorem qQ{w W:Ut}{k f o e a b c d n i rd g l:Nat}(h:Kept w k [⟨k,0,g,j,l,0⟩,⟨e,0,m,n,i,rd⟩,⟨f,0,a,b,c,d⟩,⟨o,0,0,0,0,0⟩] W):W.cell? ⟨k,0,none⟩=some (uZ g)/\W.cell? ⟨k,1,none⟩=some (uZ j)/\W.cell? ⟨k,2,none⟩=some (uZ l)/\W.cell? ⟨k,3,none⟩=some (uZ 0)/\W.cell? ⟨e,0,none⟩=some (uZ m)/\W.cell? ⟨e,1,none⟩=some (uZ n)/\W.cell? ⟨e,2,none⟩=some (uZ i)/\W.cell? ⟨e,3,none⟩=some (uZ rd)/\W.cell? ⟨f,0,none⟩=some (uZ a)/\W.cell? ⟨f,1,none⟩=some (uZ b)/\W.cell? ⟨f,2,none⟩=some (uZ c)/\W.cell? ⟨f,3,none⟩=some (uZ d)/\Kept w k [⟨k,0,g,j,l,0⟩,⟨e,0,m,n,i,rd⟩,⟨f,0,a,b,c,d⟩,⟨o,0,0,0,0,0⟩] W:=
 ⟨h.head.c0,h.head.c1,h.head.c2,h.head.c3,h.tail.head.c0,h.tail.head.c1,h.tail.head.c2,h.tail.head.c3,h.tail.tail.head.c0,h.tail.tail.head.c1,h.tail.tail.head.c2,h.tail.tail.head.c3,h⟩
theorem four_ne{a b c d n:Nat}{v:Uv}(h:Four v n)(e:Four (.agg #[uZ a,uZ b,uZ c,uZ d]) m)(k:¬n=m):
 ∃p q r s:Nat,v=.agg #[uZ p,uZ q,uZ r,uZ s]/\¬(p=a/\q=b/\r=c/\s=d):=by
 obtain⟨p,q,r,s,rfl,f⟩:=id h;refine⟨p,q,r,s,rfl,?_⟩;rintro⟨rfl,rfl,rfl,rfl⟩;exact k (h.num e)
def even(P r:Nat):Nat:=if r%2=1 then P-r else r
def RootR(P m R:Nat)(e:Uv):Prop:=∃(d k b c:Nat) (ok:Bool),e=.tuple #[.agg #[uZ d,uZ k,uZ b,uZ c],.bool ok] /\
 (ok=true->R*R%P=m/\Four (.agg #[uZ d,uZ k,uZ b,uZ c]) (even P R))/\(ok=false->¬R*R%P=m)/\(ok=false->d=0/\k=0/\b=0/\c=0)
theorem RootR.yes{P R d k b c:Nat}(h:R*R%P=m)(e:Four (.agg #[uZ d,uZ k,uZ b,uZ c]) (even P R)):RootR P m R (.tuple #[.agg #[uZ d,uZ k,uZ b,uZ c],.bool true]):=
 ⟨d,k,b,c,true,rfl,λ_=>⟨h,e⟩,λh=>YG h,λh=>YG h⟩
theorem RootR.no{P R:Nat}(h:¬R*R%P=m):RootR P m R (.tuple #[.agg #[uZ 0,uZ 0,uZ 0,uZ 0],.bool false]):=
 ⟨0,0,0,0,false,rfl,λh=>YG h,λ_=>h,λ_=>⟨rfl,rfl,rfl,rfl⟩⟩
theorem CX(l o n P:Nat)(x:Uv)(m:Nat)(hG:Gap l o n P)(J:P/4%18446744073709551616<18446744073709551615)(hx:Four x m)(w:Ut):
 UK prog 191 #[.agg #[.int .u64 l,.int .u64 o,.int .u64 n,.int .u64 0],x] w (Ret λe w'=>Below w.heap.size w w'/\RootR P m (m^(P/4+1)%P) e):=by
 obtain⟨a,b,c,d,rfl,ha,hb,hc,hd,em⟩:=id hx;have HX:Hid (Four _ m):=hx;have HG:Hid (Gap l o n P):=hG;obtain⟨R,hR⟩:∃R,m^(P/4+1)%P=R:=⟨_,rfl⟩
 have h5:R<P:=by
  rw[<-hR];refine V6 _ ?_;have:=hG.hP2;omega
 rw[hR];have hn:Hid (m^(P/4+1)%P=R):=hR;have S:Hid (R<P):=h5;clear em hx ha hb hc hd hG hR h5;go_enter func191,ntmps191;go_wp2_with fail
 have k:=NJ w 120 47 47 l o n 0 a b c d 0 0 0 0;simp only[WM]at k;generalize XB _ _=W0 at k⊢;generalize h2:w.heap.size+1+1=N at k⊢;generalize h1:w.heap.size+1=s at k⊢;have Q2:Hid (w.heap.size<=N):=by unfold Hid;omega
 generalize h0:w.heap.size=i at k Q2⊢;have H0:Hid (w.heap.size=i):=h0;clear h0 h1 h2;refine(rO l o n P HG.out _).mono ?_;rintro e w1 ⟨v,rfl,f,G⟩;obtain⟨pa,pb,pc,pd,rfl,-⟩:=id G;replace k:=k.call f;clear f;go_wp2_with fail
 refine(B8 _ _ G _).mono ?_;rintro e w2 ⟨v,rfl,h9,he⟩;obtain⟨qa,qb,qc,qd,rfl,hu,h6,Z,Y,eq⟩:=id he;replace k:=k.call h9;clear h9 G he;have hm:qa<18446744073709551615:=by rw[eq]at J;unfold val at J;omega
 obtain⟨qe,F⟩:∃qe,qa+1=qe:=⟨_,rfl⟩
 have HE:Hid (Four (.agg #[.int .u64 qe,.int .u64 qb,.int .u64 qc,.int .u64 qd]) (P/4+1)):=by
  refine Four.mk oM h6 Z Y ?_;rw[eq,<-F];unfold val;omega
 have hg:(qa:Int)+1=(qe:Int):=oM;have hw:=wrapN qe oM;clear hm eq J hu h6 Z Y F;obtain⟨hk,hs,hp,ht,xf⟩:=k.tail.head.at4;have zx:=k.tail.head.lt;obtain⟨X,M,H,O,pf⟩:=k.head.at4;have zp:=k.head.lt;have n1:s≠w2.heap.size:=Xk zx;have n0:i≠w2.heap.size:=Xk zp;go_wp2_with fail
 refine(zO l o n P _ _ _ _ HG.out HX.out HE.out _).mono ?_;rintro e V ⟨v,rfl,h4,G⟩;replace k:=(k.alloc _).call h4;clear h4 hk hs hp ht xf zx X M H O pf zp n0 n1 HE hg hw;obtain⟨E,z,A,rd,rfl,-⟩:=id G;rw[hn.out]at G;have K:Hid (Four _ R):=G;clear G
 go_upto_region 4 with fail
 have hi:Kept w i [⟨i,0,l,o,n,0⟩,⟨V.heap.size,0,E,z,A,rd⟩,⟨s,0,a,b,c,d⟩,⟨N,0,0,0,0,0⟩] _:=((((Kept.mk1 (k.alloc (.cells #[.int .u64 E,.int .u64 z,.int .u64 A,.int .u64 rd] 47)).bl (k.alloc _).le).cons (k.alloc _).tail.tail.head).cons (k.alloc _).tail.head).cons (At4.made V 47 E z A rd rfl).blk).cons (x:=⟨i,0,l,o,n,0⟩) (k.alloc _).head |> λh=>by exact h
 have hl:V.heap.size≠i:=Wp k.head.lt;have h7:V.heap.size≠N:=Wp k.tail.tail.head.lt;have hq:V.heap.size≠s:=Wp k.tail.head.lt;have Q7:Hid (i<=V.heap.size):=k.le;clear k;have k:=hi;clear hi;generalize XB _ _=W4 at k⊢;generalize V.heap.size=t at k hl hq h7 Q7⊢;by_cases q:R*R%P=m
 ·have hj:=OM a b c d;go_region_held3 (λw'=>w'.cell? ⟨i,0,none⟩=some (.int .u64 l)/\w'.cell? ⟨i,1,none⟩=some (.int .u64 o)/\w'.cell? ⟨i,2,none⟩=some (.int .u64 n)/\w'.cell? ⟨i,3,none⟩=some (.int .u64 0)/\w'.cell? ⟨t,0,none⟩=some (.int .u64 E)/\w'.cell? ⟨t,1,none⟩=some (.int .u64 z)/\w'.cell? ⟨t,2,none⟩=some (.int .u64 A)/\w'.cell? ⟨t,3,none⟩=some (.int .u64 rd)/\w'.cell? ⟨s,0,none⟩=some (.int .u64 a)/\w'.cell? ⟨s,1,none⟩=some (.int .u64 b)/\w'.cell? ⟨s,2,none⟩=some (.int .u64 c)/\w'.cell? ⟨s,3,none⟩=some (.int .u64 d)/\Kept w i [⟨i,0,l,o,n,0⟩,⟨t,0,E,z,A,rd⟩,⟨s,0,a,b,c,d⟩,⟨N,0,0,0,0,0⟩] w') (first|(with_reducible exact qQ k)|(with_reducible exact qQ k.drew)|fail) (first|(go_at_call 154;refine(oN l o n P _ _ _ _ HG.out K.out K.out _).mono ?_;rintro e w5 ⟨v,rfl,f,r⟩;rw[q]at r;obtain rfl:=r.inj HX.out;clear r;(first|(with_reducible (have p:=k.drew.call f))|(with_reducible (have p:=k.call f))|fail);clear k f;have k:=p;clear p))
  have D:Hid (R*R%P=m):=q;clear q
  rename_i hHeld
  clear hHeld;obtain⟨u,C,y,B,tf⟩:=k.tail.head.at4;have zt:=k.tail.head.lt;go_wp2_with fail
  clear u C y B tf zt;refine(Gc _ _ K.out _).mono ?_;rintro e w6 ⟨v,rfl,h8,rfl⟩;replace k:=k.call h8;clear h8;obtain⟨u,C,y,B,tf⟩:=k.tail.head.at4;have zt:=k.tail.head.lt;obtain⟨W,Q,I,L,uf⟩:=k.tail.tail.tail.head.at4;have zu:=k.tail.tail.tail.head.lt;by_cases g:R%2=1
  ·have hd:decide (R%2=1)=true:=decide_eq_true g;rw[hd];have HO:Hid (R%2=1):=g;clear hd g;obtain⟨X,M,H,O,pf⟩:=k.head.at4;have zp:=k.head.lt;go_wp2_with fail
   refine(tJ l o n P _ _ 0 _ HG.out (Four.mk (a:=0) (b:=0) (c:=0) (d:=0) dC dC dC dC rfl) K.out (by have:=S.out;omega) S.out _).mono ?_;rintro e w8 ⟨v,rfl,h3,U⟩;obtain⟨sa,sb,sc,sd,rfl,-⟩:=id U;have T:Hid (Four (.agg #[.int .u64 sa,.int .u64 sb,.int .u64 sc,.int .u64 sd]) (even P R)):=by
    have h1:(0+P-R)%P=even P R:=by
     unfold even;rw[yCk HO.out,UF];exact UU (by have:=S.out;have:=HO.out;omega)
    unfold Hid;rw[<-h1];exact U
   replace k:=k.call h3;clear h3 U u C y B tf zt W Q I L uf zu X M H O pf zp;obtain⟨u,C,y,B,tf⟩:=k.tail.head.at4;have zt:=k.tail.head.lt;obtain⟨W,Q,I,L,uf⟩:=k.tail.tail.tail.head.at4;have zu:=k.tail.tail.tail.head.lt;go_wp2;have j:=(k.tail.tail.tail.head.at4.other4 h7 (.int .u64 sa) (.int .u64 sb) (.int .u64 sc) (.int .u64 sd)).self4 sa sb sc sd;unfold set4 at j;refine UH (v:=?v) ?hr rfl ?hR
   case hr=>simp[results,Tryz.results191,go_sem,j.c0,j.c1,j.c2,j.c3];rfl
   refine⟨_,rfl,?_,RootR.yes D.out T.out⟩;rw[H0.out];exact aL (aL k.bl Q7.out _ _ _ _) Q2.out _ _ _ _
  ·have hd:decide (R%2=1)=false:=decide_eq_false g;rw[hd];have T:Hid (Four (.agg #[.int .u64 E,.int .u64 z,.int .u64 A,.int .u64 rd]) (even P R)):=by
    have h1:even P R=R:=by unfold even;rw[yCl g]
    unfold Hid;rw[h1];exact K.out
   clear hd g;go_wp2;have j:=k.tail.tail.tail.head.at4.self4 E z A rd;unfold set4 at j;refine UH (v:=?v2) ?hr2 rfl ?hR2
   case hr2=>simp[results,Tryz.results191,go_sem,j.c0,j.c1,j.c2,j.c3];rfl
   refine⟨_,rfl,?_,RootR.yes D.out T.out⟩;rw[H0.out];exact aL k.bl Q2.out _ _ _ _
 ·go_region_held3 (λw'=>w'.cell? ⟨i,0,none⟩=some (.int .u64 l)/\w'.cell? ⟨i,1,none⟩=some (.int .u64 o)/\w'.cell? ⟨i,2,none⟩=some (.int .u64 n)/\w'.cell? ⟨i,3,none⟩=some (.int .u64 0)/\w'.cell? ⟨t,0,none⟩=some (.int .u64 E)/\w'.cell? ⟨t,1,none⟩=some (.int .u64 z)/\w'.cell? ⟨t,2,none⟩=some (.int .u64 A)/\w'.cell? ⟨t,3,none⟩=some (.int .u64 rd)/\w'.cell? ⟨s,0,none⟩=some (.int .u64 a)/\w'.cell? ⟨s,1,none⟩=some (.int .u64 b)/\w'.cell? ⟨s,2,none⟩=some (.int .u64 c)/\w'.cell? ⟨s,3,none⟩=some (.int .u64 d)/\Kept w i [⟨i,0,l,o,n,0⟩,⟨t,0,E,z,A,rd⟩,⟨s,0,a,b,c,d⟩,⟨N,0,0,0,0,0⟩] w') (first|(with_reducible exact qQ k)|(with_reducible exact qQ k.drew)|fail) (first|(go_at_call 154;refine(oN l o n P _ _ _ _ HG.out K.out K.out _).mono ?_;rintro e w5 ⟨v,rfl,f,r⟩;obtain⟨B,y,T,C,rfl,g⟩:=four_ne r HX.out q;have u:=Mr g;clear r;(first|(with_reducible (have p:=k.drew.call f))|(with_reducible (have p:=k.call f))|fail);clear k f;have k:=p;clear p))
  have D:Hid (¬R*R%P=m):=q;clear q
  rename_i hHeld
  clear hHeld;obtain⟨W,Q,I,L,uf⟩:=k.tail.tail.tail.head.at4;have zu:=k.tail.tail.tail.head.lt;go_wp2;have j:At4 (set4 w5 N (.int .u64 0) (.int .u64 0) (.int .u64 0) (.int .u64 0)) N 0 0 0 0:=k.tail.tail.tail.head.at4.self4 0 0 0 0;unfold set4 at j;refine UH (v:=?v3) ?hr3 rfl ?hR3
  case hr3=>simp[results,Tryz.results191,go_sem,j.c0,j.c1,j.c2,j.c3];rfl
  refine⟨_,rfl,?_,RootR.no D.out⟩;rw[H0.out];exact aL k.bl Q2.out _ _ _ _
end
section
open Go.RowKit Go.Sort
def wn(n:Nat):List Uv:=[uZ ((n%18446744073709551616:Nat):Int),uZ ((n/18446744073709551616%18446744073709551616:Nat):Int),uZ ((n/340282366920938463463374607431768211456%18446744073709551616:Nat):Int),uZ ((n/6277101735386680763835789423207666416102355444464034512896%18446744073709551616:Nat):Int)]
def nv(n:Nat):Uv:=.agg (wn n).toArray
theorem vE{n:Nat}(h:n<top):Four (nv n) n:=by
 refine⟨n%18446744073709551616,n/18446744073709551616%18446744073709551616,n/340282366920938463463374607431768211456%18446744073709551616,n/6277101735386680763835789423207666416102355444464034512896%18446744073709551616,rfl,?_,?_,?_,?_,?_⟩
 ·omega
 ·omega
 ·omega
 ·omega
 ·unfold val;unfold top at h;omega
theorem Four.nv{v:Uv}{n:Nat}(h:Four v n):v=Go.Proofs.YtdoammpgchejcaaGreat.nv n:=h.inj (vE h.lt)
variable {P:Nat}[NeZero P]
abbrev ws(x:Fin P):List Uv:=wn x.val
abbrev fv(x:Fin P):Uv:=nv x.val
def pv(x y:Fin P):Uv:=.agg (ws x++ws y).toArray
def rv(x y z:Fin P):Uv:=.agg (ws x++(ws y++ws z)).toArray
def Gives(f:Xl)(args:Array Uv)(v:Uv):Prop:=∀w,UK prog f args w (rZ w λe w'=>e=v)
structure Fld(P:Nat)[NeZero P]:Prop where
 gap:Gap 4294968273 0 0 P
 cur:EC.Cur P
 p2:2<=P%18446744073709551616
 p4:P/4%18446744073709551616<18446744073709551615
 p3:P%4=3
 p7:7<P
theorem Fld.top(h:Fld P)(x:Fin P):x.val<top:=by have:=h.gap.hP;have:=x.isLt;omega
theorem Fld.four(h:Fld P)(x:Fin P):Four (fv x) x.val:=vE (h.top x)
theorem lJ:(U5 #[uZ 0,uZ 0,uZ 0,uZ 0])=fv (0:Fin P):=by
 have h:Four (U5 #[uZ 0,uZ 0,uZ 0,uZ 0]) (0:Fin P).val:=by
  rw[EC.val_zero];exact Four.mk (a:=0) (b:=0) (c:=0) (d:=0) dC dC dC dC rfl
 exact h.nv
theorem O4(h:Fld P):(U5 #[uZ 1,uZ 0,uZ 0,uZ 0])=fv (1:Fin P):=by
 have h:Four (U5 #[uZ 1,uZ 0,uZ 0,uZ 0]) (1:Fin P).val:=by
  rw[EC.val_one h.cur.pr];exact Four.mk (a:=1) (b:=0) (c:=0) (d:=0) dC dC dC dC rfl
 exact h.nv
theorem bO:Gives 114 #[] gv0:=λw=>(uQ w).mono (by rintro e w' ⟨rfl,rfl⟩;exact⟨_,rfl,aC _ _,rfl⟩)
theorem QM(h:Fld P)(x y:Fin P):Gives 215 #[gv0,fv x,fv y] (fv (x+y)):=λw =>
 (sum_any 4294968273 0 0 P _ _ x.val y.val h.gap (h.four x) (h.four y) x.isLt y.isLt w).mono (by
  rintro e w' ⟨v,rfl,k,b⟩;exact⟨_,rfl,k,b.nv⟩)
omit [NeZero P] in
theorem AK(x y:Fin P):(x.val+P-y.val)%P=(x-y).val:=by
 rw[Fin.sub_def];show _=(P-y.val+x.val)%P
 congr 1
 have:=y.isLt;omega
theorem Ba(h:Fld P)(x y:Fin P):Gives 221 #[gv0,fv x,fv y] (fv (x-y)):=λw =>
 (nM 4294968273 0 0 P _ _ x.val y.val h.gap (h.four x) (h.four y) x.isLt y.isLt w).mono (by
  rintro e w' ⟨v,rfl,b,k⟩;rw[AK]at k;exact⟨_,rfl,b,k.nv⟩)
theorem Gx(h:Fld P)(x y:Fin P):Gives 213 #[gv0,fv x,fv y] (fv (x*y)):=λw =>
 (dO 4294968273 0 0 P _ _ x.val y.val h.gap (h.four x) (h.four y) w).mono (by
  rintro e w' ⟨v,rfl,k,b⟩;exact⟨_,rfl,k,b.nv⟩)
theorem PO(h:Fld P)(x:Fin P):Gives 127 #[fv x] (fv x):=λw=>(jP _ _ (h.four x) w).mono (by rintro e w' ⟨v,rfl,k,rfl⟩;exact⟨_,rfl,k,rfl⟩)
theorem I3(h:Fld P)(x:Fin P):Gives 214 #[fv x] (fv x):=λw=>(jK _ _ (h.four x) w).mono (by rintro e w' ⟨v,rfl,k,rfl⟩;exact⟨_,rfl,k,rfl⟩)
theorem rN(h:Fld P)(x y:Fin P):Gives 154 #[gv0,fv x,fv y] (fv (x*y)):=λw =>
 (oN 4294968273 0 0 P _ _ x.val y.val h.gap (h.four x) (h.four y) w).mono (by
  rintro e w' ⟨v,rfl,k,b⟩;exact⟨_,rfl,k,b.nv⟩)
theorem F6(h:Fld P)(x y:Fin P):Gives 155 #[gv0,fv x,fv y] (fv (x+y)):=λw =>
 (CY 4294968273 0 0 P _ _ x.val y.val h.gap (h.four x) (h.four y) x.isLt y.isLt w).mono (by
  rintro e w' ⟨v,rfl,k,b⟩;exact⟨_,rfl,k,b.nv⟩)
theorem Kv(h:Fld P)(x y:Fin P):Gives 198 #[gv0,fv x,fv y] (fv (x-y)):=λw =>
 (tJ 4294968273 0 0 P _ _ x.val y.val h.gap (h.four x) (h.four y) x.isLt y.isLt w).mono (by
  rintro e w' ⟨v,rfl,b,k⟩;rw[AK]at k;exact⟨_,rfl,b,k.nv⟩)
theorem BO(h:Fld P):(U5 #[uZ 7,uZ 0,uZ 0,uZ 0])=fv (7:Fin P):=by
 have h:Four (U5 #[uZ 7,uZ 0,uZ 0,uZ 0]) (7:Fin P).val:=by
  have k:(7:Fin P).val=7%P:=rfl;rw[k,UU h.p7];exact Four.mk (a:=7) (b:=0) (c:=0) (d:=0) dC dC dC dC rfl
 exact h.nv
theorem Aw:([uZ 0,uZ 0,uZ 0,uZ 0]:List Uv)=ws (0:Fin P):=by
 have h:=lJ (P:=P);unfold nv at h;injection h with h
 exact congrArg Array.toList h
theorem gI:(U5 #[uZ 0,uZ 0,uZ 0,uZ 0,uZ 0,uZ 0,uZ 0,uZ 0])=pv (0:Fin P) 0:=by
 unfold pv;rw[<-Aw];rfl
theorem KO:(U5 #[uZ 0,uZ 0,uZ 0,uZ 0,uZ 0,uZ 0,uZ 0,uZ 0,uZ 0,uZ 0,uZ 0,uZ 0])=rv (0:Fin P) 0 0:=by
 unfold rv;rw[<-Aw];rfl
theorem Hg(h:Fld P)(x:Fin P):Gives 185 #[gv0,fv x] (fv (EC.inv x)):=λw =>
 (uI 4294968273 0 0 P _ x.val h.gap h.p2 (h.four x) w).mono (by
  rintro e w' ⟨v,rfl,k,b⟩;exact⟨_,rfl,k,b.nv⟩)
end
section
open Go.RowKit Go.Sort
variable {P:Nat}[NeZero P]{N:Nat}
omit [NeZero P] in
theorem Gives.e{f:Xl}{x c:Fin P}(h:Gives f args (fv x))(e:c=x):Gives f args (fv c):=e ▸ h
omit [NeZero P] in
theorem Gives.e3{f:Xl}{x y a b c:Fin P}(h:Gives f args (rv x y z))(e:a=x)(e':b=y)(k:c=z):Gives f args (rv a b c):=e ▸ e' ▸ k ▸ h
theorem eqW(a b c d p q r s:Int)(w:Ut):(binOp .eql 183 (.agg #[uZ a,uZ b,uZ c,uZ d]) (.agg #[uZ p,uZ q,uZ r,uZ s])).run prog w=.ok (.bool (decide (a=p/\b=q/\c=r/\d=s))) w:=by
 go_simp;by_cases f:a=p<;>by_cases k:b=q<;>by_cases g:c=r<;>by_cases e:d=s<;>simp[f,k,g,e]
theorem AA{n:Nat}(k:m<top)(b:n<top):(m%18446744073709551616=n%18446744073709551616/\m/18446744073709551616%18446744073709551616=n/18446744073709551616%18446744073709551616/\m/340282366920938463463374607431768211456%18446744073709551616=n/340282366920938463463374607431768211456%18446744073709551616/\m/6277101735386680763835789423207666416102355444464034512896%18446744073709551616=n/6277101735386680763835789423207666416102355444464034512896%18446744073709551616)↔m=n:=by
 constructor
 ·rintro⟨e,d,f,c⟩;unfold top at k b;omega
 ·rintro rfl;exact⟨rfl,rfl,rfl,rfl⟩
theorem eqC(h:Fld P)(x y:Fin P)(w:Ut):(binOp .eql 183 (fv x) (fv y)).run prog w=.ok (.bool (decide (x=y))) w:=by
 have k:=eqW ((x.val%18446744073709551616:Nat):Int) ((x.val/18446744073709551616%18446744073709551616:Nat):Int) ((x.val/340282366920938463463374607431768211456%18446744073709551616:Nat):Int) ((x.val/6277101735386680763835789423207666416102355444464034512896%18446744073709551616:Nat):Int) ((y.val%18446744073709551616:Nat):Int) ((y.val/18446744073709551616%18446744073709551616:Nat):Int) ((y.val/340282366920938463463374607431768211456%18446744073709551616:Nat):Int) ((y.val/6277101735386680763835789423207666416102355444464034512896%18446744073709551616:Nat):Int) w;refine k.trans ?_;have b:=AA (h.top x) (h.top y);simp only[yBJ,b,<-yB5]
theorem Fw(h:Fld P){x y:Fin P}(e:x=y)(w:Ut):(binOp .eql 183 (fv x) (fv y)).run prog w=.ok (.bool true) w:=by rw[eqC h,decide_eq_true e]
theorem JF(h:Fld P){x y:Fin P}(e:¬x=y)(w:Ut):(binOp .eql 183 (fv x) (fv y)).run prog w=.ok (.bool false) w:=by rw[eqC h,decide_eq_false e]
theorem Ss(a b c d p q r s f m n g o j i l:Nat)(w:Ut):(binOp .eql 93 (.agg #[uZ a,uZ b,uZ c,uZ d,uZ f,uZ m,uZ n,uZ g]) (.agg #[uZ p,uZ q,uZ r,uZ s,uZ o,uZ j,uZ i,uZ l])).run prog w=.ok (.bool (decide (a=p/\b=q/\c=r/\d=s) && decide (f=o/\m=j/\n=i/\g=l))) w:=by
 go_simp;rw[Fv 9997,Vr];by_cases k:a=p/\b=q/\c=r/\d=s
 ·rw[decide_eq_true k];simp only[Bool.true_eq_false,if_false];rw[Fv 9997,Vr];by_cases e:f=o/\m=j/\n=i/\g=l
  ·rw[decide_eq_true e];simp[k.1,k.2.1,k.2.2.1,k.2.2.2,e.1,e.2.1,e.2.2.1,e.2.2.2]
  ·rw[decide_eq_false e];simp only[if_true,Vr];have t:(decide (f=o) && (decide (m=j) && (decide (n=i) && decide (g=l))))=false:=by simpa using e
   rw[t,Bool.and_false]
 ·rw[decide_eq_false k];simp only[if_true,Vr];have t:(decide (a=p) && (decide (b=q) && (decide (c=r) && decide (d=s))))=false:=by simpa using k
  rw[t,Bool.false_and]
theorem eqPt(h:Fld P)(x y z t:Fin P)(w:Ut):(binOp .eql 93 (pv x y) (pv z t)).run prog w=.ok (.bool (decide (x=z/\y=t))) w:=by
 refine(Ss (x.val%18446744073709551616) (x.val/18446744073709551616%18446744073709551616) (x.val/340282366920938463463374607431768211456%18446744073709551616) (x.val/6277101735386680763835789423207666416102355444464034512896%18446744073709551616) (z.val%18446744073709551616) (z.val/18446744073709551616%18446744073709551616) (z.val/340282366920938463463374607431768211456%18446744073709551616) (z.val/6277101735386680763835789423207666416102355444464034512896%18446744073709551616) (y.val%18446744073709551616) (y.val/18446744073709551616%18446744073709551616) (y.val/340282366920938463463374607431768211456%18446744073709551616) (y.val/6277101735386680763835789423207666416102355444464034512896%18446744073709551616) (t.val%18446744073709551616) (t.val/18446744073709551616%18446744073709551616) (t.val/340282366920938463463374607431768211456%18446744073709551616) (t.val/6277101735386680763835789423207666416102355444464034512896%18446744073709551616) w).trans ?_;simp only[AA (h.top x) (h.top z),AA (h.top y) (h.top t),<-yB5,Bool.decide_and]
theorem JE(h:Fld P){x y t:Fin P}(e:x=z/\y=t)(w:Ut):(binOp .eql 93 (pv x y) (pv z t)).run prog w=.ok (.bool true) w:=by rw[eqPt h,decide_eq_true e]
theorem DY(h:Fld P){x y t:Fin P}(e:¬(x=z/\y=t))(w:Ut):(binOp .eql 93 (pv x y) (pv z t)).run prog w=.ok (.bool false) w:=by rw[eqPt h,decide_eq_false e]
theorem aS:(prog.underlying 183).map (·.isRow)=some true:=kR
theorem aJ:(prog.info? 183).map (·.size)=some 4:=kR
theorem u85:(prog.underlying 47).map (·.isRow)=some true:=kR
theorem i85:(prog.info? 47).map (·.size)=some 4:=kR
theorem iH:(prog.underlying 185).map (·.isRow)=some true:=kR
theorem i117:(prog.info? 185).map (·.size)=some 12:=kR
theorem gV:(prog.underlying 93).map (·.isRow)=some true:=kR
theorem i109:(prog.info? 93).map (·.size)=some 8:=kR
theorem u79:(prog.underlying 120).map (·.isRow)=some true:=kR
theorem i79:(prog.info? 120).map (·.size)=some 4:=kR
theorem aW(C:Fld P)(x y:Fin P):Gives 179 #[(fv x),(fv y)] (fv (x*y)):=by
 intro w;obtain⟨c1,d⟩:∃c,c=x*y:=⟨_,rfl⟩
 have k:((fv c1):Uv)=(fv (x*y)):=by
  subst_vars;rfl
 rw[<-k];go_enter func179,ntmps179;refine RG.M.enter [(0,.v (fv x)),(1,.v (fv y))] 9 kR ?_;intro a0 f;repeat refine UC ?_
 refine f.T [.m 0,.m 1,.m 2] [(0,ws x),(1,ws y),(2,RG.z 4)] [] [ws x,ws y,RG.z 4] [2,3,4] ⟨RG.mk 0 183,RG.mk 1 183,RG.mk 2 183,yCm⟩ ?_;intro m i j n l e;repeat refine UC ?_
 refine e.D [.c gv0,.x (fv x),.x (fv y),.c (fv c1),.u 2] [] [(2,4,ws c1)] [ws x,ws y,ws c1] [4] ⟨RG.cl bO,RG.ld aS aJ,RG.ld aS aJ,RG.cl ((Gx C x y).e d),RG.pt aJ,yCm⟩ ?_;intro a2 g b;refine Wy ?_;refine UH (v:=(fv c1)) (RG.aI b.st 4 183 rfl 2 _ rfl (b.at (s:=(.p 2 0))) aS aJ) b.sl.defers ?_;exact⟨_,rfl,b.st.bel.below,rfl⟩
theorem Gf(C:Fld P)(x y:Fin P):Gives 181 #[(fv x),(fv y)] (fv (x+y)):=by
 intro w;obtain⟨c1,d⟩:∃c,c=x+y:=⟨_,rfl⟩
 have k:((fv c1):Uv)=(fv (x+y)):=by
  subst_vars;rfl
 rw[<-k];go_enter func181,ntmps181;refine RG.M.enter [(0,.v (fv x)),(1,.v (fv y))] 9 kR ?_;intro a0 f;repeat refine UC ?_
 refine f.T [.m 0,.m 1,.m 2] [(0,ws x),(1,ws y),(2,RG.z 4)] [] [ws x,ws y,RG.z 4] [2,3,4] ⟨RG.mk 0 183,RG.mk 1 183,RG.mk 2 183,yCm⟩ ?_;intro m i j n l e;repeat refine UC ?_
 refine e.D [.c gv0,.x (fv x),.x (fv y),.c (fv c1),.u 2] [] [(2,4,ws c1)] [ws x,ws y,ws c1] [4] ⟨RG.cl bO,RG.ld aS aJ,RG.ld aS aJ,RG.cl ((QM C x y).e d),RG.pt aJ,yCm⟩ ?_;intro a2 g b;refine Wy ?_;refine UH (v:=(fv c1)) (RG.aI b.st 4 183 rfl 2 _ rfl (b.at (s:=(.p 2 0))) aS aJ) b.sl.defers ?_;exact⟨_,rfl,b.st.bel.below,rfl⟩
theorem eX(C:Fld P)(x y:Fin P):Gives 182 #[(fv x),(fv y)] (fv (x-y)):=by
 intro w;obtain⟨c1,d⟩:∃c,c=x-y:=⟨_,rfl⟩
 have k:((fv c1):Uv)=(fv (x-y)):=by
  subst_vars;rfl
 rw[<-k];go_enter func182,ntmps182;refine RG.M.enter [(0,.v (fv x)),(1,.v (fv y))] 9 kR ?_;intro a0 f;repeat refine UC ?_
 refine f.T [.m 0,.m 1,.m 2] [(0,ws x),(1,ws y),(2,RG.z 4)] [] [ws x,ws y,RG.z 4] [2,3,4] ⟨RG.mk 0 183,RG.mk 1 183,RG.mk 2 183,yCm⟩ ?_;intro m i j n l e;repeat refine UC ?_
 refine e.D [.c gv0,.x (fv x),.x (fv y),.c (fv c1),.u 2] [] [(2,4,ws c1)] [ws x,ws y,ws c1] [4] ⟨RG.cl bO,RG.ld aS aJ,RG.ld aS aJ,RG.cl ((Ba C x y).e d),RG.pt aJ,yCm⟩ ?_;intro a2 g b;refine Wy ?_;refine UH (v:=(fv c1)) (RG.aI b.st 4 183 rfl 2 _ rfl (b.at (s:=(.p 2 0))) aS aJ) b.sl.defers ?_;exact⟨_,rfl,b.st.bel.below,rfl⟩
theorem vP(C:Fld P)(x:Fin P):Gives 187 #[(fv x)] (fv x):=by
 intro w;go_enter func187,ntmps187;refine RG.M.enter [(0,.v (fv x))] 5 kR ?_;intro a0 c;repeat refine UC ?_
 refine c.T [.m 0,.m 1] [(0,ws x),(1,RG.z 4)] [] [ws x,RG.z 4] [1,2] ⟨RG.mk 0 47,RG.mk 1 183,yCm⟩ ?_;intro f i g d b;repeat refine UC ?_
 refine b.T [.x (fv x),.c (fv x),.u 1] [] [(1,2,ws x)] [ws x,ws x] [2] ⟨RG.ld u85 i85,RG.cl (PO C x),RG.pt aJ,yCm⟩ ?_;intro a2 e k;refine Wy ?_;refine UH (v:=(fv x)) (RG.aI k.st 2 183 rfl 1 _ rfl (k.at (s:=(.p 1 0))) aS aJ) k.sl.defers ?_;exact⟨_,rfl,k.st.bel.below,rfl⟩
theorem Eo(C:Fld P)(x:Fin P):Gives 186 #[(fv x)] (fv x):=by
 intro w;go_enter func186,ntmps186;refine RG.M.enter [(0,.v (fv x))] 5 kR ?_;intro a0 c;repeat refine UC ?_
 refine c.T [.m 0,.m 1] [(0,ws x),(1,RG.z 4)] [] [ws x,RG.z 4] [1,2] ⟨RG.mk 0 183,RG.mk 1 47,yCm⟩ ?_;intro f i g d b;repeat refine UC ?_
 refine b.T [.x (fv x),.c (fv x),.u 1] [] [(1,2,ws x)] [ws x,ws x] [2] ⟨RG.ld aS aJ,RG.cl (I3 C x),RG.pt i85,yCm⟩ ?_;intro a2 e k;refine Wy ?_;refine UH (v:=(fv x)) (RG.aI k.st 2 47 rfl 1 _ rfl (k.at (s:=(.p 1 0))) u85 i85) k.sl.defers ?_;exact⟨_,rfl,k.st.bel.below,rfl⟩
theorem fQ(C:Fld P)(x:Fin P):Gives 180 #[(fv x)] (fv (EC.dbl x)):=by
 intro w;obtain⟨c1,d⟩:∃c,c=x+x:=⟨_,rfl⟩
 have k:((fv c1):Uv)=(fv (EC.dbl x)):=by
  subst_vars;rfl
 rw[<-k];go_enter func180,ntmps180;refine RG.M.enter [(0,.v (fv x))] 6 kR ?_;intro a0 f;repeat refine UC ?_
 refine f.T [.m 0,.m 1] [(0,ws x),(1,RG.z 4)] [] [ws x,RG.z 4] [1,2] ⟨RG.mk 0 183,RG.mk 1 183,yCm⟩ ?_;intro j m l g e;repeat refine UC ?_
 refine e.T [.x (fv x),.x (fv x),.c (fv c1),.u 1] [] [(1,3,ws c1)] [ws x,ws c1] [2] ⟨RG.ld aS aJ,RG.ld aS aJ,RG.cl ((Gf C x x).e d),RG.pt aJ,yCm⟩ ?_;intro a2 i b;refine Wy ?_;refine UH (v:=(fv c1)) (RG.aI b.st 2 183 rfl 1 _ rfl (b.at (s:=(.p 1 0))) aS aJ) b.sl.defers ?_;exact⟨_,rfl,b.st.bel.below,rfl⟩
end
end Go.Proofs.YtdoammpgchejcaaGreat
