import Derived.Sort.Row
import Derived.ProofKit
import Derived.Deep.MidRow
import Derived.Test.YtdoammpgchejcaaGreatRows
import Derived.Lib.Mul64
import Derived.StillTailTactics
import Derived.BigQuiet
import Derived.WalkSpells
import Derived.WalkLawsBesides
import Derived.Deep.CutRange
set_option linter.unusedVariables false
set_option linter.defProp false
set_option linter.constructorNameAsVariable false
set_option linter.unusedSimpArgs false
set_option maxRecDepth 1000000
set_option maxHeartbeats 4000000
namespace Go.Proofs.YtdoammpgchejcaaGreat
open _root_ renaming Array->yu,Bool->zk,Fin->B,Int->Y,List->H,Nat->I,Option->zb,rfl->Z
open Go.RowKit renaming Hid->E
open _root_.Bool renaming false->D,true->J
open _root_.Option renaming none->G,some->F
variable {P:Nat}[NeZero P]{N:Nat}
theorem yFU{c:Prop}{h:Decidable c}(hc:c){α:Sort _}{t e:α}:ite c t e=t:=if_pos hc
theorem yFV{c:Prop}{h:Decidable c}(hc:¬c){α:Sort _}{t e:α}:ite c t e=e:=if_neg hc
theorem yFW:True:=True.intro
open _root_.Array renaming all_eq_true'->oT,any_eq_true'->rz,getD_eq_getD_getElem?->YG,getElem?_eq_getElem->Y0,getElem?_eq_none->uz,getElem?_eq_some_iff->YX,getElem?_replicate->yCD,getElem?_setIfInBounds->r9,getElem?_toList->Zz,mapM_eq_mapM_toList->yBd,replicate->YD,size_setIfInBounds->Zg
open _root_.Bool renaming and_eq_true->YJ,or_false->qx,true_or->tF
open _root_.Classical renaming byContradiction->Z1
open _root_.Fin renaming ext->pw,val->yEO,val_mul->qy
open _root_.Go renaming Calls->Zl,Exit->an,FuncId->ak,Oper->Y9,Operand->am,Program->Zw,TypeId->YW,Value->Yq,World->Yp,bodyPost_ret->YB,execOp->Za,run_loadVar_mid->oX,undef->ae
open _root_.Go.Code renaming region->ZP
open _root_.Go.Instr renaming alloc->yFk,indexAt->ZW,loadAt->yDV,sliceAt->gS,storeAt->yC2,sureAddr->xn
open _root_.Go.IntKind renaming u64->Zk,wrap_u64->rj
open _root_.Go.Lib renaming half_mul_le->yDB
open _root_.Go.Next renaming value->fI
open _root_.Go.Oper renaming upon_enter->rl,wp->ZY
open _root_.Go.Region renaming binds->ZH,ready->Y6,wanted->gE
open _root_.Go.Result renaming andThen->yDw
open _root_.Go.RowKit renaming Below->yD9
open _root_.Go.RowKit.Below renaming refl->YH
open _root_.Go.Sem renaming run_bind->YU
open _root_.Go.World renaming cell?->pn,cell?_alloc_new->Zj,cell?_of_block->Y1,cell?_setCell_other->Z8,frozen?_alloc_new->qj,frozen?_of_block->ZZ,frozen?_setCell->ve,rangeAt_setCells_apart->Zv,rangeAt_setCells_same->sg,setCells->xL,size_alloc->YE,there_setCells->tS
open _root_.Int renaming add_zero->yDv,eq_ofNat_of_zero_le->yD1,natCast_zero->Zt
open _root_.List renaming all_eq_true->Zf,append_nil->po,cons_append->ZI,countP_cons->yEI,ext_getElem?->vj,find?_some->yBR,foldl_cons->yDE,foldl_nil->yE4,getD_eq_getElem?_getD->yAM,getElem?_append_left->Zc,getElem?_append_right->Zx,getElem?_cons_succ->YP,getElem?_cons_zero->YS,getElem?_drop->yC5,getElem?_eq_getElem->YC,getElem?_eq_none->qz,getElem?_eq_some_iff->YF,getElem?_map->ZE,getElem?_of_mem->rm,getElem?_set->yEt,getElem?_take->qk,getElem_map->qm,length_append->Yx,length_cons->Y2,length_drop->yCL,length_map->YO,length_nil->Z2,length_take->sj,mapM_cons->yCs,mapM_nil->yCB,map_append->pe,map_cons->pg,map_inj_left->yDd,map_nil->xo,map_toArray->yEE,mem_append->ZN,mem_cons_of_mem->Zd,mem_cons_self->Zm,mem_map->YT,mem_of_find?_eq_some->xS,mem_of_getElem?->Y7,mem_range->Z6,mem_singleton->ZX,mem_zipIdx_iff_getElem?->yCj,nil_append->ZQ,nodup_append->yCF,not_mem_nil->YI,range->ZD,set_cons_succ->Yy,set_cons_zero->Yz,size_toArray->Zq
open _root_.Nat renaming Coprime->yDu,add_mod->rh,add_mul->ph,add_mul_mod_self_left->yCy,add_sub_cancel_left->tT,add_zero->ao,ble_eq->yFK,dvd_of_mod_eq_zero->yBu,dvd_trans->yC4,eq_zero_of_dvd_of_lt->yCE,gcd->yEC,gcd_dvd_left->yDs,gcd_dvd_right->yDi,le_of_ble_eq_true->Zh,le_of_dvd->xV,le_of_lt->ax,le_refl->Ys,le_succ->ue,le_total->yFr,le_trans->YA,lt_of_lt_of_le->Yr,lt_of_succ_le->rn,lt_or_ge->iB,mod_add_mod->yEZ,mod_eq_of_lt->YL,mod_eq_sub_mod->yEo,mod_eq_zero_of_dvd->yB6,mod_lt->ZL,mod_mod->yFC,mod_mod_of_dvd->yC9,mod_mul_mod->yEY,mul_add->pi,mul_assoc->kI,mul_comm->Ze,mul_le_mul->lp,mul_left_comm->yDh,mul_mod->mi,mul_one->ay,one_mul->px,pow_add->ox,pow_dvd_pow->yEW,pow_mod->yEb,pow_mul->ye,pow_one->yCz,pow_succ->Z5,pow_zero->gF,strongRecOn->yEV,zero_add->Yv,zero_le->aw,zero_mul->yFn,zero_pow->yFm
open _root_.Nat.Coprime renaming mul_dvd_of_dvd_of_dvd->yAB
open _root_.Option renaming isSome_iff_exists->ZT,map_eq_some_iff->Yu,some->YR
open _root_.Or renaming inl->Y3,inr->YZ
open _root_.Prod renaming mk->ZV
open Go.Proofs.Tryz
open Go.RowKit Go.Sort
variable {C after us vs:List Yq}{L L':Array Bool}{Q:Nat->Prop}{W W' w w':Yp}{X bs ks ks2:List Nat}{a:Act}{args tmps:Array Yq}{b g h i j k n off r y:Nat}{cs cs2:List (List Yq)}{e:Func}{f:ak}{iv v1 v2:Yq}{p0 p1 p2:Prop}{rs:List (Nat × List Yq)}{t1 t2:Tmp}{μ ν:Nat->Nat}
abbrev uZ(n:Y):Yq:=.int .u64 n
abbrev iZ(n:Y):Yq:=.int .i64 n
abbrev aZ(k:I):Go.Addr:=⟨k,0,G⟩
abbrev jZ(k:I):Yq:=.pointer (F ⟨k,0,G⟩)
abbrev sZ(k n c:I):Yq:=.slice (F ⟨k,0,G⟩) n c
abbrev oZ(k o:I):Yq:=.pointer (F ⟨k,o,G⟩)
abbrev qZ(k o n c:I):Yq:=.slice (F ⟨k,o,G⟩) n c
abbrev nZ:Yq:=.slice G 0 0
abbrev tZ:Yq:=.bool J
abbrev fZ:Yq:=.bool D
abbrev lZ(w:Yp)(c:H Yq)(T:YW):Yp:=w.alloc (.cells c.toArray T)
abbrev gZ(T:YW)(n:I):Prop:=(prog.info? T).map (·.size)=F n
abbrev yZ(T:YW):Prop:=(prog.underlying T).map (·.isRow)=F J
abbrev wZ(T:YW):Prop:=(prog.underlying T).map (·.isRow)=F D
abbrev cZ(f:ak)(a:yu Yq)(w:Yp)(Q:Go.Ending->Yp->Prop):Prop:=Go.Calls prog f a w Q
theorem gQ{T:YW}(h:(prog.info? T).map (·.size)=F n:=by kernel_rfl):gZ T n:=h
theorem yQ{T:YW}(h:(prog.underlying T).map (·.isRow)=F J:=by kernel_rfl):yZ T:=h
theorem wQ{T:YW}(h:(prog.underlying T).map (·.isRow)=F D:=by kernel_rfl):wZ T:=h
theorem vH{α:Sort _}(x:α):∃y,x=y:=⟨x,Z⟩
theorem yH{α:Sort _}(x:α):∃y,Go.RowKit.Hid (x=y):=⟨x,Z⟩
theorem oN{p q:Prop}(h:q)(k:q->p:=by intro _;omega):p:=k h
def oM{p:Prop}(h:p:=by omega):p:=h
def kR{p:Prop}(h:p:=by kernel_rfl):p:=h
def dC{p:Prop}(h:p:=by decide):p:=h
def dK{p:Prop}(h:p:=by decide +kernel):p:=h
section
def hE{α:Sort _}(x:α):∃y,E (x=y):=⟨x,Z⟩
def mk1{p:Prop}(h:p):E p:=h
def mk2(k:p0)(h1:p1):E (p0/\p1):=⟨k,h1⟩
def mk3(k:p0)(h1:p1)(b:p2):E (p0/\p1/\p2):=⟨k,h1,b⟩
def mk4{k:Prop}(b:p0)(h1:p1)(d:p2)(c:k):E (p0/\p1/\p2/\k):=⟨b,h1,d,c⟩
def mk5{b k:Prop}(c:p0)(h1:p1)(f:p2)(d:b)(e:k):E (p0/\p1/\p2/\b/\k):=⟨c,h1,f,d,e⟩
def mk6{c b k:Prop}(d:p0)(h1:p1)(i:p2)(e:c)(g:b)(f:k):E (p0/\p1/\p2/\c/\b/\k):=⟨d,h1,i,e,g,f⟩
def mk7{c b k p6:Prop}(d:p0)(h1:p1)(j:p2)(e:c)(g:b)(f:k)(i:p6):E (p0/\p1/\p2/\c/\b/\k/\p6):=⟨d,h1,j,e,g,f,i⟩
section
variable {P:Zw}{ops:Array Y9}{rest:List Y9}{op:Y9}{a:Act}{w w':Yp}{Q:an->Act->Yp->Prop}{T:YW}{y:am}{g o:Nat}{cs:List Yq}{v:Yq}{ob:Obj}
def stR(t:Tmp)(c:E (w.setCells g o cs=w'))(hv:E (.agg cs.toArray=v))(th:w.there g o cs.toArray.size)(b:(P.info? T).map (·.size)=F cs.toArray.size)(h1:cs.toArray.all (·.oneCell')=J)(h:wpList P ops Q rest (a.put op.dst ae) w')(k:op.guard=G:=by rfl)(ho:op.op=.store T (.tmp t) y:=by rfl)(hx:a.eval (.tmp t)=oZ g o:=by rfl)(d:a.eval y=v:=by rfl):wpList P ops Q (op :: rest) a w:=
 wpList_store_mid k T (.tmp t) y ho g o cs.toArray hx (d.trans hv.symm) th b h1 (by rw[show cs.toArray.toList=cs from Z,c.out];exact h)
def ldR(t:Tmp)(b:w.rangeAt g o cs)(hv:E (.agg cs.toArray=v))(c:(P.underlying T).map (·.isRow)=F J)(e:(P.info? T).map (·.size)=F cs.length)(h:wpList P ops Q rest (a.put op.dst v) w)(k:op.guard=G:=by rfl)(ho:op.op=.load T (.tmp t):=by rfl)(hx:a.eval (.tmp t)=oZ g o:=by rfl):wpList P ops Q (op :: rest) a w:=by
 let⟨d,h1,f⟩:=Yu.1 c
 exact wpList_load_mid k T (.tmp t) ho g o hx cs d b h1 f e (hv.out▸h)
def alR(t:Tmp)(c:E (w.heap.size=g))(d:E (w.alloc ob=w'))(h:wpList P ops Q rest (a.put op.dst (jZ g)) w')(hd:op.dst=F t:=by rfl)(k:op.guard=G:=by rfl)(b:(Za a.eval op).run P w=.ok (.value (jZ w.heap.size)) (w.alloc ob):=by kernel_rfl):wpList P ops Q (op :: rest) a w:=
 wpList_plain k λK e=>by
  rw[ZY,b,c.out,d.out];exact e _ _ h
end
end
def val(a b c d:I):I:=a+18446744073709551616*b+340282366920938463463374607431768211456*c+6277101735386680763835789423207666416102355444464034512896*d
def Four(v:Yq)(n:I):Prop:=∃a b c d:I,v=.agg #[uZ a,uZ b,uZ c,uZ d] /\
 a<2^64/\b<2^64/\c<2^64/\d<2^64/\n=val a b c d
def top:I:=115792089237316195423570985008687907853269984665640564039457584007913129639936
def jK{a c d:I}(k:a<2^64)(f:b<2^64)(e:c<2^64)(hd:d<2^64):val a b c d<top:=by
 unfold val top;omega
def Four.lt{v:Yq}(h:Four v n):n<top:=by
 obtain⟨a,b,c,d,-,k,f,e,hd,rfl⟩:=h;exact jK k f e hd
def val_inj{a c d p q s:I}(k:a<2^64)(i:b<2^64)(f:c<2^64)
 (e:p<2^64) (j:q<2^64) (g:r<2^64) (h:val a b c d=val p q r s):a=p/\b=q/\c=r/\d=s:=by
 unfold val at h;omega
def Four.inj{v k:Yq}(h:Four v n)(i:Four k n):v=k:=by
 obtain⟨a,b,c,d,rfl,l,j,m,hd,e⟩:=h;obtain⟨p,q,r,s,rfl,f,o,g,hs,e'⟩:=i;obtain⟨rfl,rfl,rfl,rfl⟩:=val_inj l j m f o g (e.symm.trans e');rfl
def Four.num{v:Yq}{m:I}(h:Four v n)(k:Four v m):n=m:=by
 obtain⟨a,b,c,d,rfl,j,i,l,hd,rfl⟩:=h;obtain⟨p,q,r,s,e,f,o,g,hs,rfl⟩:=k;simp only[Value.agg.injEq,yu.mk.injEq,H.cons.injEq,Value.int.injEq,true_and,and_true,Int.ofNat_inj]at e;obtain⟨rfl,rfl,rfl,rfl⟩:=e;rfl
def Four.mk{a c d:I}(k:a<2^64)(g:b<2^64)(e:c<2^64)(hd:d<2^64)(f:n=val a b c d):
 Four (.agg #[uZ a,uZ b,uZ c,uZ d]) n:=⟨a,b,c,d,Z,k,g,e,hd,f⟩
def ret_int{k:IntKind}{a b:Y}(h:a=b):Ending.returned (.int k a)=.returned (.int k b):=by rw[h]
def mixed:prog.follows .mixedOrders=J:=kR
def oY{x c:I}(hx:x<2^64)(d:y<2^64)(b:c<=1):
 ∃s k:I,(∀w,(callFunc 175 #[uZ x,uZ y,uZ c]).run prog w=.ok (.value (.tuple #[uZ s,uZ k])) w) /\
  s<2^64/\k<=1/\s+18446744073709551616*k=x+y+c:=by
 refine⟨(x+y+c)%18446744073709551616,(x+y+c)/18446744073709551616,λw=>?_,oM,oM,oM⟩;rw[run_callFunc_extern func175 kR kR kR (e:=add64Entry) kR,run_add64 x y c oM oM oM oM];simp only[yDw]
 congr 5<;>omega
def lM{c:I}(x y:I)(hx:x<2^64)(d:y<2^64)(b:c<=1):
 ∃s k:I,(∀w,(callFunc 167 #[uZ x,uZ y,uZ c]).run prog w=.ok (.value (.tuple #[uZ s,uZ k])) w) /\
  s<2^64/\k<=1/\s+y+c=x+18446744073709551616*k:=by
 refine⟨(x+18446744073709551616-y-c)%18446744073709551616,if x<y+c then 1 else 0,λw=>?_,oM,by split<;>omega,by split<;>omega⟩;rw[run_callFunc_extern func167 kR kR kR (e:=(Extern.MathBitsCarry.rows[1]).2) kR];have:c=0\/c=1:=oM;rcases this with rfl|rfl<;>rfl
def vT{x:I}(hx:x<2^64)(b:y<2^64):
 ∃s k:I,(∀w,(callFunc 175 #[uZ x,uZ y,uZ 0]).run prog w=.ok (.value (.tuple #[uZ s,uZ k])) w) /\
  s<2^64/\k<=1/\s+18446744073709551616*k=x+y:=oY hx b (aw 1)
def Cm(x y:I)(hx:x<2^64)(b:y<2^64):
 ∃s k:I,(∀w,(callFunc 167 #[uZ x,uZ y,uZ 0]).run prog w=.ok (.value (.tuple #[uZ s,uZ k])) w) /\
  s<2^64/\k<=1/\s+y=x+18446744073709551616*k:=lM x y hx b (aw 1)
def maskN{a:I}(k:a<2^64):bits .and .u64 (a:Y) 4294967295=((a%4294967296:I):Y):=by
 have h:=bits_and_u64_nat a 4294967295 k oM;rw[show a &&& 4294967295=a%4294967296 from I.and_two_pow_sub_one_eq_mod a 32]at h;exact h
def divN(a:I):(a:Y)/4294967296=((a/4294967296:I):Y):=oM
def mulN(a b:I):(a:Y)*(b:Y)=((a*b:I):Y):=(Y.natCast_mul a b).symm
def addN(a b:I):(a:Y)+(b:Y)=((a+b:I):Y):=(Y.natCast_add a b).symm
def wrapN{a:I}(k:a<2^64):Zk.wrap (a:Y)=(a:Y):=by rw[rj];omega
def wrapM(a:I):Zk.wrap (a:Y)=((a%18446744073709551616:I):Y):=by rw[rj];omega
def T9(x y:I)(hx:x<2^64)(f:y<2^64)(w:Yp):
 Zl prog 174 #[uZ x,uZ y] w λe w'=>e=.returned (.tuple #[uZ ((x*y/18446744073709551616:I):Y),uZ ((x*y%18446744073709551616:I):Y)])/\w'=w:=by
 let⟨i,d,bw,c⟩:=Lib.mul64_hi x y hx f
 have m:=yDB (a:=x/4294967296) (b:=y/4294967296) oM oM;have bb:=yDB (a:=x/4294967296) (b:=y%4294967296) oM oM;have n:=yDB (a:=x%4294967296) (b:=y/4294967296) oM oM;have b1:x/4294967296*(y/4294967296)<2^64:=oM;have l:x/4294967296*(y%4294967296)<2^64:=oM;have g:x%4294967296*(y/4294967296)<2^64:=oM;have k:x/4294967296*(y/4294967296)+(x/4294967296*(y%4294967296)+x%4294967296*(y%4294967296)/4294967296)/4294967296<2^64:=oM;have j:x/4294967296*(y/4294967296)+(x/4294967296*(y%4294967296)+x%4294967296*(y%4294967296)/4294967296)/4294967296+((x/4294967296*(y%4294967296)+x%4294967296*(y%4294967296)/4294967296)%4294967296+x%4294967296*(y/4294967296))/4294967296<2^64:=oM;go_enter func174,ntmps174;go_wp2;simp only[maskN hx,maskN f,divN,mulN,addN,wrapN i,wrapN l,wrapN d,maskN d,wrapN g,wrapN bw,wrapN b1,wrapN k,wrapN j,wrapM (x*y)];rw[c]
 go_ret2
 exact⟨Z,Z⟩
def MX{x:I}(hx:x<2^64)(b:y<2^64):
 ∃h l:I,(∀w,Zl prog 174 #[uZ x,uZ y] w λe w'=>e=.returned (.tuple #[uZ h,uZ l])/\w'=w) /\
  h<2^64/\l<2^64/\l+18446744073709551616*h=x*y:=by
 have k:x*y<=18446744073709551615*18446744073709551615:=lp oM oM;exact⟨_,_,λw=>T9 x y hx b w,oM,oM,oM⟩
def V5{x:I}(hx:x<2^64)(f:y<2^64):
 Zl prog 174 #[uZ x,uZ y] w λe w'=>w'=w/\∃h l:I,e=.returned (.tuple #[uZ h,uZ l]) /\
  h<2^64/\l<2^64/\l+18446744073709551616*h=x*y:=by
 let⟨h,l,c,h1,d,b⟩:=MX hx f
 exact(c w).mono λe w' k=>⟨k.2,h,l,k.1,h1,d,b⟩
def dB{x o c:I}(hx:x<2^64)(q:y<2^64)(ho:o<2^64)(r:c<2^64):
 ∃h l s1 k s2 b g d:I,(∀w,Zl prog 174 #[uZ x,uZ y] w λe w'=>e=.returned (.tuple #[uZ h,uZ l])/\w'=w) /\
  (∀w,(callFunc 175 #[uZ l,uZ c,uZ 0]).run prog w=.ok (.value (.tuple #[uZ s1,uZ k])) w) /\
  (∀w,(callFunc 175 #[uZ o,uZ s1,uZ 0]).run prog w=.ok (.value (.tuple #[uZ s2,uZ b])) w) /\
  Zk.wrap ((h:Y)+(k:Y))=(g:Y)/\Zk.wrap ((g:Y)+(b:Y))=(d:Y) /\
  s2<2^64/\d<2^64/\s2+18446744073709551616*d=x*y+o+c:=by
 have s:x*y<=18446744073709551615*18446744073709551615:=lp oM oM;let⟨h,l,j,hh,hl,u⟩:=MX hx q
 let⟨s1,k,m,f,p,t⟩:=vT hl r
 let⟨s2,b,n,d,i,e3⟩:=vT ho f
 refine⟨h,l,s1,k,s2,b,h+k,h+k+b,j,m,n,?_,?_,d,oM,oM⟩
 .rw[addN];exact wrapN oM
 rw[addN];exact wrapN oM
def t9(x y o c:I)(hx:x<2^64)(j:y<2^64)(ho:o<2^64)(m:c<2^64)(w:Yp):
 Zl prog 243 #[uZ x,uZ y,uZ o,uZ c] w λe w'=>w'=w/\∃l h:I,e=.returned (.tuple #[uZ l,uZ h]) /\
  h<2^64/\l<2^64/\l+18446744073709551616*h=x*y+o+c:=by
 have p:x*y<=18446744073709551615*18446744073709551615:=lp oM oM;go_enter func243,ntmps243;go_wp2_with fail
 apply(V5 hx j).mono;rintro e i ⟨rfl,h,l,rfl,hh,hl,r⟩;let⟨s1,k,t,d,g,q⟩:=vT hl ho
 let⟨s2,b,u,n,f,e3⟩:=vT d m
 have i:Zk.wrap ((h:Y)+(k:Y))=((h+k:I):Y):=by rw[addN];exact wrapN oM
 have s:Zk.wrap (((h+k:I):Y)+(b:Y))=((h+k+b:I):Y):=by rw[addN];exact wrapN oM
 go_wp2
 go_ret2
 refine⟨Z,s2,h+k+b,?_,oM,oM,oM⟩;rfl
def Ret(Q:Yq->Yp->Prop)(e:Ending)(w:Yp):Prop:=∃v,e=.returned v/\Q v w
abbrev rZ(w:Yp)(Q:Yq->Yp->Prop):Go.Ending->Yp->Prop:=Ret λe w'=>yD9 w.heap.size w w'/\Q e w'
abbrev dZ(f:ak)(a:yu Yq)(w:Yp)(Q:Yq->Yp->Prop):Prop:=cZ f a w (rZ w Q)
abbrev eZ(f:ak)(a:yu Yq)(w:Yp)(v:Yq):Prop:=cZ f a w (rZ w λe _=>e=v)
abbrev kZ(w W:Yp):Prop:=yD9 w.heap.size w W
def aD(k:Obj):kZ w (w.alloc k):=(YH _ _).alloc (Ys _) k
def below2(w:Yp)(b k:Obj):kZ w ((w.alloc b).alloc k):=(aD b).alloc (by simp) k
def below3(b k c:Obj):kZ w (((w.alloc b).alloc k).alloc c):=(below2 w b k).alloc (by simp;omega) c
def iN(w:Yp)(k b c d:Obj):kZ w ((((w.alloc k).alloc b).alloc c).alloc d):=(below3 k b c).alloc (by simp;omega) d
def tG(x y:Yq)(m n:I)(hx:Four x m)(T:Four y n)(w:Yp):
 dZ 126 #[x,y] w λe w'=>∃(v:Yq) (s k:I),e=.tuple #[v,uZ k]/\Four v s/\k<=1/\s+top*k=m+n:=by
 obtain⟨a,b,c,d,rfl,V,P,W,hd,N⟩:=hx;obtain⟨p,q,r,s,rfl,A,hq,M,hs,en⟩:=T;let⟨s0,Q,a0,u,o,e0⟩:=vT V A
 let⟨s1,O,K,l,j,e1⟩:=oY P hq o
 let⟨s2,C,L,t,i,e2⟩:=oY W M j
 let⟨s3,z,X,f,g,e3⟩:=oY hd hs i
 have hv:val s0 s1 s2 s3+top*z=m+n:=by rw[N,en];unfold val top;omega
 go_enter func126,ntmps126;go_wp2_with (first|simp only[a0]|simp only[K]|simp only[L]|simp only[X])
 refine YB (by simp[results,Tryz.results126,go_sem];rfl) Z ?_;exact⟨_,Z,below3 _ _ _,_,_,z,Z,Four.mk u l t f Z,g,hv⟩
def vE(x y:Yq)(m n:I)(hx:Four x m)(T:Four y n)(w:Yp):
 dZ 239 #[x,y] w λe w'=>∃(v:Yq) (s k:I),e=.tuple #[v,uZ k]/\Four v s/\k<=1/\s+n=m+top*k:=by
 obtain⟨a,b,c,d,rfl,V,P,W,hd,N⟩:=hx;obtain⟨p,q,r,s,rfl,A,hq,M,hs,en⟩:=T;let⟨s0,Q,a0,u,o,e0⟩:=Cm a p V A
 let⟨s1,O,K,l,j,e1⟩:=lM b q P hq o
 let⟨s2,C,L,t,i,e2⟩:=lM c r W M j
 let⟨s3,z,X,f,g,e3⟩:=lM d s hd hs i
 have hv:val s0 s1 s2 s3+n=m+top*z:=by rw[N,en];unfold val top;omega
 go_enter func239,ntmps239;go_wp2_with (first|simp only[a0]|simp only[K]|simp only[L]|simp only[X])
 refine YB (by simp[results,Tryz.results239,go_sem];rfl) Z ?_;exact⟨_,Z,below3 _ _ _,_,_,z,Z,Four.mk u l t f Z,g,hv⟩
def kL{x:Yq}{m:I}(hx:Four x m):
 eZ 127 #[x] w x:=by
 obtain⟨a,b,c,d,rfl,k,i,f,hd,g⟩:=hx;go_enter func127,ntmps127;go_wp2;refine YB (by simp[results,Tryz.results127,go_sem];rfl) Z ?_;exact⟨_,Z,below2 _ _ _,Z⟩
def kJ{x:Yq}{m:I}(hx:Four x m):
 eZ 214 #[x] w x:=by
 obtain⟨a,b,c,d,rfl,k,i,f,hd,g⟩:=hx;go_enter func214,ntmps214;go_wp2;refine YB (by simp[results,Tryz.results214,go_sem];rfl) Z ?_;exact⟨_,Z,below2 _ _ _,Z⟩
def CH(x a b c d:I):x*val a b c d=val (x*a) (x*b) (x*c) (x*d):=by
 unfold val;rw[pi,pi,pi,yDh x _ b,yDh x _ c,yDh x _ d]
def sM{x a c d p q s l0 l1 l2 l3 h1 f e m:I}(g:m=val a b c d)(en:n=val p q r s)
 (l:l0+18446744073709551616*k=x*a+p+0) (j:l1+18446744073709551616*h1=x*b+q+k)
 (i:l2+18446744073709551616*f=x*c+r+h1) (e3:l3+18446744073709551616*e=x*d+s+f) :
 l0+18446744073709551616*val l1 l2 l3 e=x*m+n:=by
 rw[g,en,CH x a b c d];unfold val;omega
def kW(x:I)(y z:Yq)(m n:I)(hx:x<2^64)(Q:Four y m)(W:Four z n)(w:Yp):
 dZ 234 #[uZ x,y,z] w λe w'=>∃(l:I) (v:Yq) (s:I),e=.tuple #[uZ l,v]/\l<2^64/\Four v s/\l+18446744073709551616*s=x*m+n:=by
 obtain⟨a,b,c,d,rfl,T,P,V,hd,O⟩:=Q;obtain⟨p,q,r,s,rfl,C,hq,N,hs,en⟩:=W;go_enter func234,ntmps234;go_wp2_with fail
 apply(t9 x a p 0 hx T C dC _).mono;rintro e u ⟨rfl,l0,K,rfl,A,f,e0⟩;go_wp2_with fail
 apply(t9 x b q K hx P hq A _).mono;rintro e u ⟨rfl,l1,h1,rfl,i,k,M⟩;go_wp2_with fail
 apply(t9 x c r h1 hx V N i _).mono;rintro e u ⟨rfl,l2,X,rfl,g,o,L⟩;go_wp2_with fail
 apply(t9 x d s X hx hd hs g _).mono;rintro e u ⟨rfl,l3,h3,rfl,j,t,e3⟩;go_wp2;refine YB (by simp[results,Tryz.results234,go_sem];rfl) Z ?_;exact⟨_,Z,below3 _ _ _,l0,_,_,Z,f,Four.mk k o t j Z,sM O en e0 M L e3⟩
namespace RG
inductive SV where
 | v (x:Yq)
 | p (b o:I)
 | s (b n c:I)
 | t (b n c:I) (y:Yq)
def SV.at(μ:I->I):SV->Yq
 | .v x=>x
 | .p b o=>oZ (μ b) o
 | .s b n c=>sZ (μ b) n c
 | .t b n c y=>.tuple #[sZ (μ b) n c,y]
def SV.blk:SV->zb I
 | .v _=>G
 | .p b _=>F b
 | .s b _ _=>F b
 | .t b _ _ _=>F b
def SV.at_congr{s:SV}(h:∀b,s.blk=F b->μ b=ν b):s.at μ=s.at ν:=by
 cases s with
 | v x=>rfl
 | p b o=>show oZ (μ b) o=oZ (ν b) o;rw[h b Z]
 | s b n c=>show sZ (μ b) n c=sZ (ν b) n c;rw[h b Z]
 | t b n c y=>show Value.tuple #[sZ (μ b) n c,y]=.tuple #[sZ (ν b) n c,y];rw[h b Z]
inductive Kind where
 | stay
 | pass
 | call
 | make (b:I)
 | put (b:I)
structure It where
 dst:zb Tmp
 need:H (Tmp × I)
 out:SV
 kind:Kind
structure Bl where
 before:H Yq
 after:H Yq
 al:zb I
 st:zb I
def on(L:yu zk)(i:I):zk:=L.getD i D
def Bl.live(e:Bl)(L:yu zk):zk:=(e.al.map (on L)).getD J
def Bl.put(e:Bl)(L:yu zk):zk:=(e.st.map (on L)).getD false
def Bl.now(e:Bl)(L:yu zk):H Yq:=if e.put L=J then e.after else e.before
def fF(h:i<L.size):on (L.setIfInBounds i J) j=(on L j || i == j):=by
 unfold on;simp only[YG,r9];by_cases k:i=j
 .subst k;simp[h]
 simp[k]
def jI{e:Bl}(h:i<L.size):e.live (L.setIfInBounds i J)=(e.live L || e.al == F i):=by
 unfold Bl.live;cases c:e.al with
 | none=>rfl
 | some j =>
  show on _ j=(on L j || _);rw[fF h];by_cases k:i=j
  .subst k;simp
  have h1:(i == j)=D:=by simpa using k
  have b:(F j == F i)=D:=by simpa using λh=>k h.symm
  rw[h1,b]
def lA{e:Bl}(h:i<L.size):e.put (L.setIfInBounds i J)=(e.put L || e.st == F i):=by
 unfold Bl.put;cases c:e.st with
 | none=>rfl
 | some j =>
  show on _ j=(on L j || _);rw[fF h];by_cases k:i=j
  .subst k;simp
  have h1:(i == j)=D:=by simpa using k
  have b:(F j == F i)=D:=by simpa using λh=>k h.symm
  rw[h1,b]
def range_below{B o:I}{cs:H Yq}(h:w.rangeAt k o cs)(c:Below B w w')(b:k<B):w'.rangeAt k o cs:=λj v hv=>by
 rw[c.cell (p:=⟨k,o+j,G⟩) b];exact h j v hv
def jD{B o:I}(h:w.there k o n)(c:Below B w w')(b:k<B):w'.there k o n:=λj d=>by
 rw[c.cell (p:=⟨k,o+j,G⟩) b,c.frozen (p:=⟨k,o+j,G⟩) b];exact h j d
def below_setCells{B k:I}{c:Yp}(b:B<=k):∀(vs:H Yq) (o:I) (w:Yp),Below B c w->Below B c (w.setCells k o vs)
 | [],_,_,h=>h
 | v :: r,o,w,h=>below_setCells b r (o+1) _ (h.setCell (p:=⟨k,o,G⟩) b v)
def setCells_size(k:I):∀(vs:H Yq) (o:I) (w:Yp),(w.setCells k o vs).heap.size=w.heap.size
 | [],_,_=>rfl
 | v :: r,o,w=>by
  rw[xL,setCells_size k r (o+1)];simp[World.setCell]
def there_setCells{k b o n:I}:∀(vs:H Yq) (i:I) (w:Yp),w.there b o n->(w.setCells k i vs).there b o n
 | [],_,_,h=>h
 | v :: r,i,w,h=>there_setCells r (i+1) _ λj c=>⟨World.isSome_setCells k [v] i w _ (h j c).1,by rw[ve];exact(h j c).2⟩
structure BelX(k0:I)(X:H I)(w w':Yp):Prop where
 os:w'.os=w.os
 tape:w'.tape=w.tape
 output:w'.output=w.output
 size:w.heap.size<=w'.heap.size
 block:∀j,j<k0->j ∉ X->w'.heap[j]? = w.heap[j]?
def BelX.below(h:BelX k [] w w'):Below k w w':=⟨h.os,h.tape,h.output,h.size,λj b=>h.block j b YI⟩
def BelX.drew(h:BelX k X w w'):BelX k X w w'.drew:=⟨h.os,h.tape,h.output,h.size,h.block⟩
def BelX.refl(k:I)(X:H I)(w:Yp):BelX k X w w:=⟨Z,Z,Z,Ys _,λ_ _ _=>rfl⟩
def BelX.trans{d:I}{a b c:Yp}(h:BelX d X a b)(k:BelX d X b c):BelX d X a c:=
 ⟨k.os.trans h.os,k.tape.trans h.tape,k.output.trans h.output,YA h.size k.size,λi e hx=>(k.block i e hx).trans (h.block i e hx)⟩
structure Wd(w0:Yp)(k0:I)(X:H I)(bl:H Bl)(L:yu zk)(μ:I->I)(w:Yp):Prop where
 bel:BelX k0 X w0 w
 le:k0<=w.heap.size
 has:∀(b:I) (e:Bl),bl[b]? = F e->e.live L=J->w.rangeAt (μ b) 0 (e.now L)/\w.there (μ b) 0 e.before.length/\μ b<w.heap.size/\(k0<=μ b\/μ b∈X)
 inj:∀(b c:I) (e f:Bl),bl[b]? = F e->bl[c]? = F f->e.live L=J->f.live L=J->b≠c->μ b≠μ c
variable {w0 w w':Yp}{k0:Nat}{X:List Nat}{bl:List Bl}{L:Array Bool}{μ:Nat->Nat}
def Wd.same(h:Wd w0 k0 X bl L μ w)(hl:∀(b:I) (e:Bl),bl[b]? = F e->e.live L'=e.live L/\e.put L'=e.put L):Wd w0 k0 X bl L' μ w:=by
 refine⟨h.bel,h.le,λb e k hv=>?_,λb c e f k d g hf=>h.inj b c e f k d ((hl b e k).1 ▸ g) ((hl c f d).1 ▸ hf)⟩;have:=h.has b e k ((hl b e k).1 ▸ hv);unfold Bl.now at this⊢;rw[(hl b e k).2];exact this
def Wd.call(h:Wd w0 k0 X bl L μ w)(c:kZ w w'):Wd w0 k0 X bl L μ w':=by
 refine⟨h.bel.trans ⟨c.os,c.tape,c.output,c.size,λk g _=>c.block k (Yr g h.le)⟩,YA h.le c.size,λb e f hv=>?_,h.inj⟩;let⟨h1,j,d,i⟩:=h.has b e f hv
 exact⟨range_below h1 c d,jD j c d,Yr d c.size,i⟩
def upd(μ:I->I)(b k:I):I->I:=λc=>if c=b then k else μ c
structure Made(w:Yp)(k:I)(c:H Yq)(w':Yp):Prop where
 bel:kZ w w'
 le:w.heap.size<=k
 lt:k<w'.heap.size
 range:w'.rangeAt k 0 c
 there:w'.there k 0 c.length
def Made.alloc(w:Yp)(c:H Yq)(t:YW):Made w w.heap.size c (w.alloc (.cells c.toArray t)):=by
 refine⟨aD _,Ys _,by rw[YE];omega,λj v k=>?_,λj k=>⟨?_,qj _ _ _ _⟩⟩
 .rw[Yv,Zj];simpa using k
 rw[Yv,Zj];simp[k]
def Wd.make{e:Bl}(h:Wd w0 k0 X bl L μ w)(z:i<L.size)(y:bl[b]? = F e)(K:e.al=F i)(v:∀(c:I) (f:Bl),bl[c]? = F f->c≠b->f.al≠F i)
 (j:∀(c:I) (f:Bl),bl[c]? = F f->f.st≠F i) (u:e.put L=false) (t:Made w k e.before w') :
 Wd w0 k0 X bl (L.setIfInBounds i J) (upd μ b k) w':=by
 have o:∀(c:I) (f:Bl),bl[c]? = F f->f.put (L.setIfInBounds i J)=f.put L:=λc f m=>by
  rw[lA z,show(f.st == F i)=false by simpa using j c f m,qx]
 have n:∀(c:I) (f:Bl),bl[c]? = F f->c≠b->f.live (L.setIfInBounds i J)=f.live L:=λc f m j=>by
  rw[jI z,show(f.al == F i)=false by simpa using v c f m j,qx]
 have p:∀(c:I) (f:Bl),bl[c]? = F f->c≠b->f.live (L.setIfInBounds i J)=J->μ c<w.heap.size:=λc f m j hv=>(h.has c f m (n c f m j ▸ hv)).2.2.1
 have l:=t.bel;have r:=t.le;refine⟨h.bel.trans ⟨l.os,l.tape,l.output,l.size,λk a _=>l.block k (Yr a h.le)⟩,YA h.le l.size,λc f m hv=>?_,λc d f g m hd hf x q=>?_⟩
 .by_cases j:c=b
  .subst j;rw[y]at m;obtain rfl:e=f:=YR.inj m;have s:e.now (L.setIfInBounds i J)=e.before:=by unfold Bl.now;rw[o c e y,u];rfl
   rw[s];rw[upd,yFU Z];exact⟨t.range,t.there,t.lt,Y3 (YA h.le r)⟩
  let⟨h1,C,u,A⟩:=h.has c f m (n c f m j ▸ hv)
  rw[upd,yFV j];have s:f.now (L.setIfInBounds i J)=f.now L:=by unfold Bl.now;rw[o c f m]
  rw[s];exact⟨range_below h1 l u,jD C l u,Yr u l.size,A⟩
 unfold upd;by_cases j:c=b
 .subst j;rw[yFU Z,yFV (λh=>q h.symm)];exact I.ne_of_gt (Yr (p d g hd (λh=>q h.symm) x) r)
 by_cases s:d=b
 .subst s;rw[yFU Z,yFV j];exact I.ne_of_lt (Yr (p c f m j hf) r)
 rw[yFV j,yFV s];exact h.inj c d f g m hd (n c f m j ▸ hf) (n d g hd s ▸ x) q
structure PutTo(k n:I)(cs:H Yq)(w w':Yp):Prop where
 os:w'.os=w.os
 tape:w'.tape=w.tape
 output:w'.output=w.output
 size:w.heap.size<=w'.heap.size
 block:∀j,j<w.heap.size->j≠k->w'.heap[j]? = w.heap[j]?
 range:w'.rangeAt k 0 cs
 there:w'.there k 0 n
def aL(k:I):∀(vs:H Yq) (o:I) (w:Yp) (j:I),j≠k->(w.setCells k o vs).heap[j]? = w.heap[j]?
 | [],_,_,_,_=>rfl
 | v :: r,o,w,j,h=>by
  rw[xL,aL k r (o+1) _ j h,Below.heap_setCell _ _ _ _ h]
def nN(k:I):∀(vs:H Yq) (o:I) (w:Yp),(w.setCells k o vs).os=w.os/\(w.setCells k o vs).tape=w.tape/\(w.setCells k o vs).output=w.output
 | [],_,_=>⟨Z,Z,Z⟩
 | v :: r,o,w=>by rw[xL];exact nN k r (o+1) _
def PutTo.store{o:I}{b:H Yq}(f:w.there k 0 n)(l:w.rangeAt k 0 b)(hl:o+vs.length<=n)(m:∀j,after[j]? = if o<=j/\j<o+vs.length then vs[j-o]? else b[j]?):PutTo k n after w (w.setCells k o vs):=by
 let⟨h1,r,p⟩:=nN k vs o w
 refine⟨h1,r,p,by rw[setCells_size];exact Ys _,λj _ c=>aL k vs o w j c,λj v hv=>?_,there_setCells _ _ _ f⟩;have d:w.there k o vs.length:=λj c=>by have:=f (o+j) oM;rwa[Yv]at this
 rw[m j]at hv;rw[Yv];by_cases c:o<=j/\j<o+vs.length
 .rw[yFU c]at hv;have:=sg w k o vs d (j-o) v hv;rwa[show o+(j-o)=j by omega]at this
 rw[yFV c]at hv;have g:w.rangeAt k j [v]:=λi u e=>by
  cases i with
  | zero =>
   obtain rfl:v=u:=by simpa using e
   have:=l j v hv;rwa[Yv]at this
  | succ i=>simp at e
 have q:=Zv g k o vs (YZ (by simp only[Y2,Z2];omega));have:=q 0 v Z;exact this
def PutTo.whole{b:H Yq}(e:w.there k 0 b.length)(d:w.rangeAt k 0 b)(hl:after.length=b.length):PutTo k b.length after w (w.setCells k 0 after):=
 PutTo.store e d oM (λj=>by
  by_cases c:0<=j/\j<0+after.length
  .rw[yFU c];rfl
  rw[yFV c,qz oM,qz oM])
def Wd.put{e:Bl}(h:Wd w0 k0 X bl L μ w)(u:i<L.size)(s:bl[b]? = F e)(hs:e.st=F i)(hv:e.live L=J)(l:PutTo (μ b) e.before.length e.after w w')
 (x:∀(c:I) (f:Bl),bl[c]? = F f->c≠b->f.st≠F i) (k:∀(c:I) (f:Bl),bl[c]? = F f->f.al≠F i) :
 Wd w0 k0 X bl (L.setIfInBounds i J) μ w':=by
 have m:∀(c:I) (f:Bl),bl[c]? = F f->f.live (L.setIfInBounds i J)=f.live L:=λc f n=>by
  rw[jI u,show(f.al == F i)=false by simpa using k c f n,qx]
 let⟨O,N,M,A⟩:=h.has b e s hv
 have K:=h.le;refine⟨h.bel.trans ⟨l.os,l.tape,l.output,l.size,λj q hx=>l.block j oM (λe=>A.elim (λh=>oM) (λh=>hx (e ▸ h)))⟩,YA h.le l.size,λc f n o=>?_,λc d f g n hd hf z=>h.inj c d f g n hd (m c f n ▸ hf) (m d g hd ▸ z)⟩;rw[m c f n]at o;let⟨h1,C,t,y⟩:=h.has c f n o
 by_cases p:c=b
 .subst p;rw[s]at n;obtain rfl:e=f:=YR.inj n;have r:e.now (L.setIfInBounds i J)=e.after:=by
   unfold Bl.now;rw[lA u,hs];simp
  rw[r];exact⟨l.range,l.there,Yr t l.size,y⟩
 have r:f.now (L.setIfInBounds i J)=f.now L:=by
  unfold Bl.now;rw[lA u,show(f.st == F i)=false by simpa using x c f n p,qx]
 rw[r];have k:=l.block (μ c) t (h.inj c b f e n s o hv p);refine⟨λj v q=>?_,λj q=>?_,Yr t l.size,y⟩
 .rw[Y1 (w:=w) (a:=⟨μ c,0+j,G⟩) k];exact h1 j v q
 rw[Y1 (w:=w) (a:=⟨μ c,0+j,G⟩) k,ZZ (w:=w) (a:=⟨μ c,0+j,G⟩) k];exact C j q
end RG
section
def Row(W:Yp)(k:I)(vs:H Yq):Prop:=k<W.heap.size/\W.rangeAt k 0 vs/\W.there k 0 vs.length
def Row.below(h:Row W k vs)(c:kZ W W'):Row W' k vs:=by
 have e:=c.block k h.1;refine⟨Yr h.1 c.size,λj v b=>?_,λj b=>?_⟩
 .exact(Y1 e).trans (h.2.1 j v b)
 have h1:=h.2.2 j b;exact⟨by rw[Y1 e];exact h1.1,(ZZ e).trans h1.2⟩
def aC{T:YW}{P:Zw}{c:Func}(t:Tmp)(e:c.results=#[.cell t T])(h:Row W k vs)(i:tmps[t]? = F (jZ k))(b:(P.underlying T).map (·.isRow)=F J)(f:(P.info? T).map (·.size)=F vs.length):(results c tmps).run P W=.ok (.agg vs.toArray) W:=by
 let⟨d,b,hd⟩:=Yu.1 b
 have h1:=oX (P:=P) W k 0 T vs d h.2.1 b hd f;have g:tmps.getD t ae=jZ k:=by rw[YG,i];rfl
 rw[results,e];simp only[yBd,yCs,yCB,g,asAddr];simp[YU,h1]
def Row.put(h:Row W k vs)(hl:us.length=vs.length):Row (W.setCells k 0 us) k us:=
 ⟨by rw[RG.setCells_size];exact h.1,sg W k 0 us (by rw[hl];exact h.2.2),by rw[hl];exact tS h.2.2 _ _ _⟩
def Row.other(h:Row W k vs)(b:k≠j):Row (W.setCells j 0 us) k vs:=
 ⟨by rw[RG.setCells_size];exact h.1,Zv h.2.1 j 0 us (Y3 b),tS h.2.2 _ _ _⟩
def aF{c:H Yq}{T:YW}:Row (w.alloc (.cells c.toArray T)) w.heap.size c:=
 have h:=RG.Made.alloc w c T
 ⟨h.lt,h.range,h.there⟩
def yN(h:Row W k vs)(hs:W.heap.size<=W'.heap.size)(e:W'.heap[k]? = W.heap[k]?):Row W' k vs:=
 ⟨Yr h.1 hs,λj v b=>by rw[Y1 (a:=⟨k,0+j,G⟩) e];exact h.2.1 j v b,λj b=>by rw[Y1 (a:=⟨k,0+j,G⟩) e,ZZ (a:=⟨k,0+j,G⟩) e];exact h.2.2 j b⟩
def aK{k:Yp}{z:H Yq}{T:YW}(b:E (w.heap.size=g))(h1:E (w.alloc (.cells z.toArray T)=k)):E (kZ w k/\Row k g z):=by
 rw[<-h1.out,<-b.out];exact⟨aD _,aF⟩
section
variable {Q Q':Nat->Prop}{W W':Yp}
structure Kq(Q:I->Prop)(W W':Yp):Prop where
 size:W.heap.size<=W'.heap.size
 block:∀g,Q g->g<W.heap.size->W'.heap[g]? = W.heap[g]?
def Kq.of_below(k:kZ W W'):Kq Q W W':=⟨k.size,λg _ h=>k.block g h⟩
end
structure Pq where
 p:(I->Prop)->Yp->Prop
 kp:∀Q W W',Kq Q W W'->p Q W->p Q W'
 mo:∀Q Q' W,(∀g,g<W.heap.size->Q g->Q' g)->p Q W->p Q' W
def Nk(rs:H (I × H Yq))(g:I):Prop:=g ∉ rs.map (·.1)
structure Mp(w W:Yp)(rs:H (I × H Yq))(S:H Pq):Prop where
 bl:kZ w W
 rw:∀x∈rs,w.heap.size<=x.1/\Row W x.1 x.2
 nd:(rs.map (·.1)).Nodup
 ob:∀s∈S,s.p (Nk rs) W
namespace Mp
variable {w W W':Yp}{rs rs':List (Nat × List Yq)}{S S':List Pq}{k r i:Nat}{c c':List Yq}
def start(w:Yp):Mp w w [] []:=⟨YH _ _,λ_ h=>(YI h).elim,H.nodup_nil,λ_ h=>(YI h).elim⟩
def grow(h:Mp w W rs S)(k:kZ W W'):Mp w W' rs S:=⟨h.bl.trans (k.mono h.bl.size),λx hx=>⟨(h.rw x hx).1,(h.rw x hx).2.below k⟩,h.nd,λs hs=>s.kp _ _ _ (Kq.of_below k) (h.ob s hs)⟩
def drew(h:Mp w W rs S):Mp w W.drew rs S:=h.grow ⟨Z,Z,Z,Ys _,λ_ _=>rfl⟩
def lt(h:Mp w W rs S)(k:g∈rs.map (·.1)):w.heap.size<=g/\g<W.heap.size:=by
 obtain⟨x,hx,rfl⟩:=YT.1 k;exact⟨(h.rw x hx).1,(h.rw x hx).2.1⟩
def nk(h:Mp w W rs S)(g:I)(k:W.heap.size<=g):Nk rs g:=λe=>oN ((h.lt e).2)
def at_(h:Mp w W rs S)(i:I)(b:rs[i]? = F (k,c):=by rfl):Row W k c:=(h.rw _ (Y7 b)).2
def key(b:rs[i]? = F (k,c)):k∈rs.map (·.1):=YT.2 ⟨_,Y7 b,Z⟩
def get(h:Mp w W rs S)(j:I){s:Pq}(k:S[j]? = F s:=by rfl):s.p (Nk rs) W:=h.ob _ (Y7 k)
def has(h:Mp w W rs S)(s:Pq)(hs:s.p (Nk rs) W)(e:S++[s]=S':=by(simp only[ZI,ZQ])<;>rfl):Mp w W rs S':=e ▸ ⟨h.bl,h.rw,h.nd,λx hx=>by
 rcases ZN.1 hx with hx|hx
 .exact h.ob x hx
 rw[ZX.1 hx];exact hs⟩
def gets(h:Mp w W rs S)(k:kZ W W')(s:Pq)(hs:s.p (W.heap.size<=·) W')(e:S++[s]=S':=by(simp only[ZI,ZQ])<;>rfl):Mp w W' rs S':=(h.grow k).has s (s.mo _ _ _ (λg _ b=>h.nk g b) hs) e
def q(_:Mp w W rs S):∃Q,E (Nk rs=Q):=⟨_,Z⟩
def wX(h:Mp w W rs S)(k:E (Nk rs=Q))(j:I){s:Pq}(b:S[j]? = F s:=by rfl):s.p Q W:=k.out▸h.get j b
def nkq(h:Mp w W rs S)(k:E (Nk rs=Q))(g:I)(b:W.heap.size<=g):Q g:=k.out▸h.nk g b
def Qo(h:Mp w W rs S)(k:E (Nk rs=Q))(s:Pq)(hs:s.p Q W)(e:S++[s]=S':=by(simp only[ZI,ZQ])<;>rfl):Mp w W rs S':=h.has s (k.out▸hs) e
def ne(_:Mp w W rs S)(d:E (Nk rs=Q))(i:I)(f:rs[i]? = F (k,c):=by rfl)(g:I)(b:Q g):g≠k:=λe=>by
 rw[<-d.out]at b;exact b (by rw[e];exact YT.2 ⟨_,Y7 f,Z⟩)
def add(h:Mp w W rs S)(f:kZ W W')(m:Row W' k c)(j:W.heap.size<=k)(e:rs++[(k,c)]=rs':=by(simp only[ZI,ZQ])<;>rfl):Mp w W' rs' S:=by
 subst e;have i:=h.grow f;refine⟨i.bl,λx hx=>?_,?_,λs hs=>?_⟩
 .rcases ZN.1 hx with hx|hx
  .exact i.rw x hx
  rw[ZX.1 hx];exact⟨YA h.bl.size j,m⟩
 .rw[pe,yCF];refine⟨h.nd,by simp,λa l b d e=>?_⟩;have h1:=(h.lt l).2;simp at d;omega
 refine s.kp _ _ _ (Kq.of_below f) (s.mo _ _ _ (λg l d e=>?_) (h.ob s hs));rw[pe,ZN]at e;rcases e with e|e
 .exact d e
 simp at e;omega
def adds(h:Mp w W rs S)(l:kZ W W')(ns:H (I × H Yq))(k:(ns.map (·.1)).Nodup)(c:∀x∈ns,W.heap.size<=x.1/\Row W' x.1 x.2)(e:rs++ns=rs':=by(simp only[ZI,ZQ])<;>rfl):Mp w W' rs' S:=by
 subst e;have j:=h.grow l;have i:∀g,g∈ns.map (·.1)->W.heap.size<=g:=λg f=>by
  obtain⟨x,hx,rfl⟩:=YT.1 f;exact(c x hx).1
 refine⟨j.bl,λx hx=>?_,?_,λs hs=>?_⟩
 .rcases ZN.1 hx with hx|hx
  .exact j.rw x hx
  exact⟨YA h.bl.size (c x hx).1,(c x hx).2⟩
 .rw[pe,yCF];refine⟨h.nd,k,λa m b d e=>?_⟩;have h1:=(h.lt m).2;have n:=i b d;omega
 refine s.kp _ _ _ (Kq.of_below l) (s.mo _ _ _ (λg f k e=>?_) (h.ob s hs));rw[pe,ZN]at e;rcases e with e|e
 .exact k e
 have:=i g e;omega
def new{T:YW}(h:Mp w W rs S)(b:E (W.heap.size=k))(d:E (W.alloc (.cells c.toArray T)=W'))(e:rs++[(k,c)]=rs':=by(simp only[ZI,ZQ])<;>rfl):Mp w W' rs' S:=by
 have f:=aK b d;exact h.add f.1 f.2 (I.le_of_eq b) e
def keys(b:rs[i]? = F (k,c)):(rs.set i (k,c')).map (·.1)=rs.map (·.1):=by
 rw[H.map_set];refine vj λj=>?_
 rw[yEt];split
 .rename_i e
  subst e;rw[yFU (by simpa using((YF.1 b).1)),ZE,b];rfl
 rfl
def VZ(b:rs[i]? = F (k,c)):Nk (rs.set i (k,c'))=Nk rs:=funext λg=>by unfold Nk;rw[keys b]
def turn(h:Mp w W rs S)(d:rs[i]? = F (k,c))(y:kZ w W')(hs:W.heap.size<=W'.heap.size)(ho:∀g,g≠k->g<W.heap.size->W'.heap[g]? = W.heap[g]?)(u:Row W' k c'):Mp w W' (rs.set i (k,c')) S:=by
 refine⟨y,λx hx=>?_,by rw[keys d];exact h.nd,λs l=>?_⟩
 .have v:=hx;let⟨j,n,e⟩:=H.mem_iff_getElem.1 hx
  rw[H.length_set]at n;rw[H.getElem_set]at e;by_cases b:i=j
  .rw[yFU b]at e;rw[<-e];exact⟨(h.lt (key d)).1,u⟩
  rw[yFV b]at e;have hh:=h.rw _ (H.getElem_mem n);rw[<-e];have o:rs[j].1≠k:=λe'=>by
   have hl:=(YF.1 d)
   let⟨f,m⟩:=hl
   have q:=H.pairwise_iff_getElem.1 h.nd;have t:(rs.map (·.1))[i]'(by simpa using f)=k:=by rw[qm,m]
   have r:(rs.map (·.1))[j]'(by simpa using n)=k:=by rw[qm];exact e'
   rcases iB i j with p|z
   .exact q i j _ _ p (t.trans r.symm)
   exact q j i _ _ oM (r.trans t.symm)
  exact⟨hh.1,yN hh.2 hs (ho _ o hh.2.1)⟩
 rw[VZ d];exact s.kp _ _ _ ⟨hs,λg b hl=>ho g (λe=>b (by rw[e];exact key d)) hl⟩ (h.ob s l)
def upd{o:I}(h:Mp w W rs S)(i:I)(b:E (W.setCells k o us=W'))(d:Row (W.setCells k o us) k c')(f:rs[i]? = F (k,c):=by rfl)(e:rs.set i (k,c')=rs':=by(simp only[Yy,Yz])<;>rfl):Mp w W' rs' S:=by
 subst e;rw[b.out]at d;refine h.turn f ?_ ?_ (λg j _=>?_) d
 .rw[<-b.out];exact RG.below_setCells (h.lt (key f)).1 _ _ _ h.bl
 .rw[<-b.out,RG.setCells_size];exact Ys _
 rw[<-b.out];exact RG.aL k us o W g j
def put(h:Mp w W rs S)(i:I)(d:E (W.setCells k 0 c'=W'))(b:rs[i]? = F (k,c):=by rfl)(hl:c'.length=c.length:=by rfl)(e:rs.set i (k,c')=rs':=by(simp only[Yy,Yz])<;>rfl):Mp w W' rs' S:=h.upd i d ((h.at_ i b).put hl) b e
def th(h:Mp w W rs S)(i:I)(b:rs[i]? = F (k,c):=by rfl)(hl:c'.length=c.length:=by rfl):W.there k 0 c'.length:=by rw[hl];exact(h.at_ i b).2.2
end Mp
def Mp.pop{x:I × H Yq}(h:Mp w W (rs++[x]) []):Mp w W rs []:=⟨h.bl,λy k=>h.rw y (H.mem_append_left _ k),(by have:=h.nd;rw[pe]at this;exact(yCF.1 this).1),λ_ h=>(YI h).elim⟩
def wn(n:I):H Yq:=[uZ ((n%18446744073709551616:I):Y),uZ ((n/18446744073709551616%18446744073709551616:I):Y),uZ ((n/340282366920938463463374607431768211456%18446744073709551616:I):Y),uZ ((n/6277101735386680763835789423207666416102355444464034512896%18446744073709551616:I):Y)]
def nv(n:I):Yq:=.agg (wn n).toArray
def fD(h:n<top):Four (nv n) n:=by
 refine⟨n%18446744073709551616,n/18446744073709551616%18446744073709551616,n/340282366920938463463374607431768211456%18446744073709551616,n/6277101735386680763835789423207666416102355444464034512896%18446744073709551616,Z,?_,?_,?_,?_,?_⟩
 .omega
 .omega
 .omega
 .omega
 unfold val;unfold top at h;omega
def Four.nv{v:Yq}(h:Four v n):v=Go.Proofs.YtdoammpgchejcaaGreat.nv n:=h.inj (fD h.lt)
def aM:(wn n).toArray.all (·.oneCell')=J:=kR
def hG{α:Sort _}{p:Prop}(x:α)(h:∀y,E (x=y)->p):p:=h x Z
end
namespace RG
variable {P:Zw}{ops:Array Y9}{Q:an->Act->Yp->Prop}{w0 w:Yp}{k0:Nat}{X:List Nat}{its:List It}{bl:List Bl}{olds:List (Tmp × SV)}{a0:Act}{L:Array Bool}{μ μ' μ0:Nat->Nat}
structure Ac(its:H It)(bl:H Bl)(a0:Act)(L:yu zk)(μ:I->I)(a:Act):Prop where
 defers:a.defers=a0.defers
 size:a.tmps.size=a0.tmps.size
 got:∀(i:I) (it:It) (d:Tmp),its[i]? = F it->on L i=J->it.dst=F d->a.tmps[d]? = F (it.out.at μ)/\∀b,it.out.blk=F b->∃e:Bl,bl[b]? = F e/\e.live L=J
 rest:∀t:Tmp,(∀(i:I) (it:It),its[i]? = F it->on L i=J->it.dst≠F t)->a.tmps[t]? = a0.tmps[t]?
def bZ(o:Y9)(j:I):zk:=o.after.any (λe=>ZH .any e && e.on == j)
def I2(b:yu Y9)(k:H It)(i:I)(t:Tmp):zk:=k.zipIdx.all (λx=>x.1.dst != F t || (match b[x.2]? with|some o=>bZ o i|none=>D))
def Known(c:yu Y9)(i:I)(k:H It)(olds:H (Tmp × SV))(b:H (Tmp × I))(μ:I->I)(a:Act):Prop:=
 (∀(t:Tmp) (j:I) (it:It),(t,j)∈b->k[j]? = F it->a.eval (.tmp t)=it.out.at μ)/\(∀(t:Tmp) (s:SV),(t,s)∈olds->I2 c k i t=J->a.eval (.tmp t)=s.at μ)
def readB(k:yu Y9)(i:I)(e:Bl):zk:=match e.st with|none=>J|some s=>match k[s]? with|some o=>bZ o i|none=>D
def Reads(k:yu Y9)(i:I)(bl:H Bl)(μ:I->I)(w:Yp):Prop:=∀(b:I) (e:Bl),bl[b]? = F e->(e.al=G\/∃(o:Y9) (j:I),k[i]? = F o/\e.al=F j/\bZ o j=J)->readB k i e=J->w.rangeAt (μ b) 0 e.before
def Does(P:Zw)(Q:an->Act->Yp->Prop)(bl:H Bl)(o:Y9)(it:It)(μ:I->I)(a:Act)(w:Yp)(K:Act->Yp->Prop):Kind->Prop
 | .stay=>K (a.put o.dst (it.out.at μ)) w->o.wp P a w K Q
 | .pass=>it.out=.v ae
 | .call=>(∀w',kZ w w'->K (a.put o.dst (it.out.at μ)) w')->o.wp P a w K Q
 | .make b=>∀e:Bl,bl[b]? = F e->(∀(k:I) (w':Yp),Made w k e.before w'->K (a.put o.dst (it.out.at (upd μ b k))) w')->o.wp P a w K Q
 | .put b=>∀e:Bl,bl[b]? = F e->w.there (μ b) 0 e.before.length->w.rangeAt (μ b) 0 e.before->(∀w',PutTo (μ b) e.before.length e.after w w'->K (a.put o.dst (it.out.at μ)) w')->o.wp P a w K Q
def Cert(P:Zw)(Q:an->Act->Yp->Prop)(c:Yp)(d:I)(X:H I)(b:yu Y9)(i:I)(k:H It)(bl:H Bl)(olds:H (Tmp × SV))(o:Y9)(it:It):Prop:=
 ∀(μ:I->I) (a:Act) (w:Yp) (K:Act->Yp->Prop),Known b i k olds it.need μ a->Reads b i bl μ w->BelX d X c w->Does P Q bl o it μ a w K it.kind
def Nj(k:H It)(bl:H Bl)(o:Y9)(it:It)(b:I):zk:=
 (match bl[b]? with|some e=>(match e.al with|none=>J|some j=>bZ o j)|none=>D) || it.need.any (λx=>bZ o x.2 && (match k[x.2]? with|some jt=>jt.dst.isSome && jt.out.blk == F b|none=>D))
def BP(k:H It)(bl:H Bl)(i:I)(o:Y9)(it:It):Kind->zk
 | .stay | .pass | .call=>bl.all (λe=>e.al != F i && e.st != F i) && (match it.out.blk with|none=>J|some b=>Nj k bl o it b)
 | .make b=>(match it.out.blk with|some c=>c == b|none=>D) && bl.zipIdx.all (λx=>x.1.st != F i && (x.1.al == F i) == (x.2 == b)) && (bl[b]?).isSome
 | .put b=>(match it.out with | .v _=>J|_=>D) && bl.zipIdx.all (λx=>x.1.al != F i && (x.1.st == F i) == (x.2 == b)) && (match bl[b]? with|some e=>(match e.al with|none=>J|some j=>bZ o j)|none=>D)
def Kind.isPass:Kind->zk
 | .pass=>J
 | _=>false
def Ny(k:H It)(o:Y9)(it:It):zk:=
 match o.guard with
 | none=>!it.kind.isPass
 | some (j,want)=>bZ o j && (match k[j]? with|some jt=>jt.dst.isSome && (match jt.out with | .v (.bool b)=>(b == want) == !it.kind.isPass|_=>D)|none=>D)
def okB(k:H It)(bl:H Bl)(i:I)(o:Y9)(it:It):zk:=
 (o.dst == it.dst) && Ny k o it && o.after.all (λe=>!ZH .any e || e.on<i) && it.need.all (λb=>bZ o b.2 && ((k[b.2]?).bind (·.dst)) == F b.1) && BP k bl i o it it.kind
def Bg:H It->zk
 | []=>J
 | it :: r=>(match it.dst with|none=>J|some d=>r.all (λk=>k.dst != F d)) && Bg r
def XG(bl:H Bl)(olds:H (Tmp × SV)):zk:=
 olds.all (λx=>(match x.2.blk with|none=>J|some b=>match bl[b]? with|some e=>e.al.isNone|none=>D))
def allB(b:yu Y9)(k:H It)(bl:H Bl)(olds:H (Tmp × SV))(n:I):zk:=
 b.size == k.length && Bg k && XG bl olds && k.all (λit=>match it.dst with|none=>J|some d=>d<n) &&
 (ZD k.length).all (λi=>match b[i]?,k[i]? with|some o,F it=>okB k bl i o it|_,_=>D)
def NM:∀ {k:H It},Bg k=J->∀(i j:I) (it b:It) (d:Tmp),k[i]? = F it->k[j]? = F b->it.dst=F d->b.dst=F d->i=j
 | [],_,i,_,_,_,_,h,_,_,_=>by simp at h
 | x :: r,h,i,j,it,b,d,hi,hj,di,dj=>by
  simp only[Bg,YJ]at h;match i,j with
  | 0,0=>rfl
  | 0,j+1 =>
   simp only[YS,YR.injEq]at hi;simp only[YP]at hj;subst hi;rw[di]at h;have:=Zf.1 h.1 b (Y7 hj);rw[dj]at this;simp at this
  | i+1,0 =>
   simp only[YS,YR.injEq]at hj;simp only[YP]at hi;subst hj;rw[dj]at h;have:=Zf.1 h.1 it (Y7 hi);rw[di]at this;simp at this
  | i+1,j+1 =>
   simp only[YP]at hi hj;rw[NM h.2 i j it b d hi hj di dj]
def qE{e:Bl}(k:i<L.size)(h:e.live L=J):e.live (L.setIfInBounds i J)=J:=by rw[jI k,h,tF]
def Ac.put{it:It}(h:Ac its bl a0 L μ a)(hd:Bg its=J)(p:i<L.size)(n:its[i]? = F it)(hμ:∀(b:I) (e:Bl),bl[b]? = F e->e.live L=J->μ' b=μ b)
 (o:∀d,it.dst=F d->d<a0.tmps.size) (hl:∀d,it.dst=F d->∀b,it.out.blk=F b->∃e:Bl,bl[b]? = F e/\e.live (L.setIfInBounds i J)=J)
 (v:Yq) (hv:∀d,it.dst=F d->v=it.out.at μ'):Ac its bl a0 (L.setIfInBounds i J) μ' (a.put it.dst v):=by
 have m:∀(j:I) (f:It) (d:Tmp),its[j]? = F f->on L j=J->f.dst=F d->a.tmps[d]? = F (f.out.at μ')/\∀b,f.out.blk=F b->∃e:Bl,bl[b]? = F e/\e.live (L.setIfInBounds i J)=J:=λj f d g ho c=>by
  obtain⟨h1,q⟩:=h.got j f d g ho c;refine⟨?_,λb l=>?_⟩
  .rw[h1]
   congr 1
   refine SV.at_congr λb r=>?_
   obtain⟨e,k,hl⟩:=q b r;rw[hμ b e k hl]
  obtain⟨e,k,hl⟩:=q b l;exact⟨e,k,qE p hl⟩
 cases k:it.dst with
 | none =>
  show Ac its bl a0 _ μ' a;refine⟨h.defers,h.size,λj f d g ho c=>?_,λt q=>h.rest t λj f g ho=>q j f g (by rw[fF p,ho,tF])⟩;rw[fF p]at ho;by_cases l:i=j
  .subst l;rw[n]at g;obtain rfl:it=f:=YR.inj g;rw[k]at c;cases c
  exact m j f d g (by simpa[l]using ho) c
 | some d0 =>
  refine⟨h.defers,?_,λj f d g ho c=>?_,λt q=>?_⟩
  .show(a.tmps.setIfInBounds d0 v).size=_;rw[Zg];exact h.size
  .show(a.tmps.setIfInBounds d0 v)[d]? = _/\_;rw[r9];rw[fF p]at ho;by_cases l:i=j
   .subst l;rw[n]at g;obtain rfl:it=f:=YR.inj g;rw[k]at c;obtain rfl:d0=d:=YR.inj c;rw[yFU Z,yFU (by rw[h.size];exact(o d0 k)),hv d0 k];exact⟨Z,hl d0 k⟩
   have o:d0≠d:=λr=>l (NM hd i j it f d0 n g k (r ▸ c))
   rw[yFV o];exact m j f d g (by simpa[l]using ho) c
  show(a.tmps.setIfInBounds d0 v)[t]? = _;have o:d0≠t:=λl=>q i it n (by rw[fF p];simp) (by rw[k,l])
  rw[r9,yFV o];exact h.rest t λj f g ho=>q j f g (by rw[fF p,ho,tF])
structure Inv(ops:yu Y9)(its:H It)(bl:H Bl)(a0:Act)(w0:Yp)(k0:I)(X:H I)(μ0:I->I)(L:yu zk)(a:Act)(w:Yp):Prop where
 size:L.size=its.length
 cl:∀(i:I) (o:Y9),ops[i]? = F o->on L i=J->∀e∈o.after,ZH .any e=J->on L e.on=J
 all:∃μ,(∀(b:I) (e:Bl),bl[b]? = F e->e.al=G->μ b=μ0 b)/\Ac its bl a0 L μ a/\Wd w0 k0 X bl L μ w/\∀(b:I) (e:Bl),bl[b]? = F e->e.put L=J->e.live L=J
def Du{o:Y9}(h:o.guard=G)(y:I->zb zk):gE o y=J:=by unfold gE;rw[h]
def kO{p:Bl × I->zk}(h:bl.zipIdx.all p=J)(e:Bl)(k:bl[b]? = F e):p (e,b)=J:=
 Zf.1 h (e,b) (by rw[yCj];exact k)
def two{s t:zb I}{c:I}(h:(s != F i && (t == F i) == (c == b))=J):s≠F i/\(t=F i↔c=b):=by
 rw[YJ]at h;refine⟨by simpa using h.1,?_⟩;have k:(t == F i)=(c == b):=by simpa using h.2
 constructor
 .intro d;rw[d]at k;simpa using k.symm
 intro d;rw[d]at k;simpa using k
def step{o:Y9}{it:It}(hd:Bg its=J)(ho:ops[i]? = F o)(ht:its[i]? = F it)(kc:okB its bl i o it=J)(hu:∀d,it.dst=F d->d<a0.tmps.size)
 (holds:∀(t:Tmp) (s:SV),(t,s)∈olds->a0.tmps[t]? = F (s.at μ0)/\∀b,s.blk=F b->∃e:Bl,bl[b]? = F e/\e.al=G)
 (l:∀(j:I) (oj:Y9) (T:It),ops[j]? = F oj->its[j]? = F T->oj.dst=T.dst) (O:ops.size=its.length) (C:Cert P Q w0 k0 X ops i its bl olds o it) (k1:on L i=D) (k2:∀e∈o.after,ZH .any e=J->on L e.on=J) (h:Inv ops its bl a0 w0 k0 X μ0 L a w) :
 wpOp P ops Q i (Inv ops its bl a0 w0 k0 X μ0 (L.setIfInBounds i J)) a w:=by
 obtain⟨kb,k3,μ,hμ,hA,hW,hO⟩:=h;have M:i<L.size:=by rw[kb];exact(YF.1 ht).1
 simp only[okB,YJ]at kc;obtain⟨⟨⟨⟨k9,hg⟩,kh⟩,k6⟩,g⟩:=kc;have K:o.dst=it.dst:=by simpa using k9
 have r:∀j,bZ o j=J->on L j=J:=λj hj=>by
  obtain⟨e,he,m⟩:=rz.1 hj;simp only[YJ,beq_iff_eq]at m;rw[<-m.2];exact k2 e he m.1
 have k5:gE o (yielded ops a.tmps) = !it.kind.isPass:=by
  unfold gE;unfold Ny at hg;cases ka:o.guard with
  | none=>rw[ka]at hg;dsimp only at hg⊢;rw[hg]
  | some jw =>
   obtain⟨j,q⟩:=jw;rw[ka]at hg;dsimp only at hg⊢;rw[YJ]at hg;cases hj:its[j]? with
   | none=>rw[hj]at hg;cases hg.2
   | some T =>
    rw[hj]at hg;obtain⟨h1,A⟩:=hg;dsimp only at A;rw[YJ]at A;obtain⟨d,W⟩:=ZT.1 A.1;have kd:j<its.length:=(YF.1 hj).1;have N:ops[j]? = F (ops[j]'(by rw[O];exact kd)):=Y0 _;have V:=(hA.got j T d hj (r j h1) W).1;have h4:yielded ops a.tmps j=match T.out.at μ with | .bool b=>F b|_=>G:=by
     unfold yielded;rw[N];show(match (ops[j]'(by rw[O];exact kd)).dst.bind (a.tmps[·]?) with|some (.bool b)=>F b|_=>G)=_;rw[l j _ T N hj,W];show(match a.tmps[d]? with|some (.bool b)=>F b|_=>G)=_;rw[V];cases T.out.at μ<;>rfl
    rw[h4];have l:=A.2;cases n:T.out with
    | p b x=>rw[n]at l;cases l
    | s b x y=>rw[n]at l;cases l
    | t b x y z=>rw[n]at l;cases l
    | v x =>
     rw[n]at l;cases x with
     | bool b =>
      show(F b == F q)=_;dsimp only at l;have:(b == q) = !it.kind.isPass:=by simpa using l
      rw[<-this];cases b<;>cases q<;>rfl
     | _=>cases l
 have hK:Known ops i its olds it.need μ a:=by
  refine⟨λt j T hm hj=>?_,λt s hm k4=>?_⟩
  .have h1:=Zf.1 k6 (t,j) hm;simp only[YJ,hj]at h1;have A:T.dst=F t:=by simpa using h1.2
   have V:=(hA.got j T t hj (r j h1.1) A).1;show a.tmps.getD t ae=_;rw[YG,V];rfl
  obtain⟨A,V⟩:=holds t s hm;have h4:=hA.rest t (λj T hj hr W=>by
   have l:=Zf.1 k4 (T,j) (by rw[yCj];exact hj);dsimp only at l;rw[W]at l;cases N:ops[j]? with
   | none=>rw[N]at l;simp at l
   | some oj =>
    rw[N]at l;have q:bZ oj i=J:=by simpa using l
    obtain⟨e',k8,O⟩:=rz.1 q;simp only[YJ,beq_iff_eq]at O;have:=k3 j oj N hr e' k8 O.1;rw[O.2,k1]at this;cases this)
  show a.tmps.getD t ae=_;rw[YG,h4,A];show s.at μ0=s.at μ;refine SV.at_congr λb m=>?_
  obtain⟨e,he,q⟩:=V b m;rw[hμ b e he q]
 have hR:Reads ops i bl μ w:=λb e m q h8=>by
  have:=(hW.has b e m (by
   unfold Bl.live;rcases q with q|⟨W,j,l,q,hd⟩
   .rw[q];rfl
   rw[q];show on L j=J;rw[ho]at l;obtain rfl:=YR.inj l;exact r j hd)).1
  unfold Bl.now Bl.put at this;unfold readB at h8;cases hs:e.st with
  | none=>rw[hs]at this;exact this
  | some s =>
   rw[hs]at this h8;dsimp only at h8;cases l:ops[s]? with
   | none=>rw[l]at h8;cases h8
   | some os =>
    rw[l]at h8;have W:on L s=D:=by
     cases hr:on L s with
     | false=>rfl
     | true =>
      obtain⟨e',k8,O⟩:=rz.1 h8;simp only[YJ,beq_iff_eq]at O;have:=k3 s os l hr e' k8 O.1;rw[O.2,k1]at this;cases this
    rw[show(zb.map (on L) (F s)).getD D=on L s from Z,W]at this;exact this
 have hw:∀b,Nj its bl o it b=J->∃e:Bl,bl[b]? = F e/\e.live L=J:=λb m=>by
  unfold Nj at m;rw[zk.or_eq_true]at m;rcases m with A|A
  .cases he:bl[b]? with
   | none=>rw[he]at A;cases A
   | some e =>
    rw[he]at A;dsimp only at A;refine⟨e,Z,?_⟩;unfold Bl.live;cases q:e.al with
    | none=>rfl
    | some j=>rw[q]at A;exact r j A
  obtain⟨x,hx,V⟩:=H.any_eq_true.1 A;rw[YJ]at V;cases hj:its[x.2]? with
  | none=>rw[hj]at V;cases V.2
  | some T =>
   rw[hj]at V;dsimp only at V;rw[YJ]at V;obtain⟨d,l⟩:=ZT.1 V.2.1;exact(hA.got x.2 T d hj (r x.2 V.1) l).2 b (by simpa using V.2.2)
 have T:∀(j:I) (oj:Y9),ops[j]? = F oj->on (L.setIfInBounds i J) j=J->∀e∈oj.after,ZH .any e=J->on (L.setIfInBounds i J) e.on=J:=λj oj N hr e he m=>by
  rw[fF M]at hr⊢;by_cases l:i=j
  .subst l;rw[ho]at N;obtain rfl:o=oj:=YR.inj N;rw[k2 e he m,tF]
  rw[k3 j oj N (by simpa[l]using hr) e he m,tF]
 have V:(L.setIfInBounds i J).size=its.length:=by rw[Zg];exact kb
 have hC:=C μ a w (Inv ops its bl a0 w0 k0 X μ0 (L.setIfInBounds i J)) hK hR hW.bel;unfold wpOp;rw[ho];dsimp only;rw[k5];cases hk:it.kind with
 | pass =>
  rw[hk]at hC g;simp only[BP,YJ]at g;have W:∀(b:I) (e:Bl),bl[b]? = F e->e.al≠F i/\e.st≠F i:=λb e m=>by simpa using Zf.1 g.1 e (Y7 m)
  have l:∀(b:I) (e:Bl),bl[b]? = F e->e.live (L.setIfInBounds i J)=e.live L/\e.put (L.setIfInBounds i J)=e.put L:=λb e m =>
   ⟨by rw[jI M,show(e.al == F i)=D by simpa using(W b e m).1,qx],by rw[lA M,show(e.st == F i)=D by simpa using(W b e m).2,qx]⟩
  show Inv ops its bl a0 w0 k0 X μ0 (L.setIfInBounds i J) (a.put o.dst ae) w;refine⟨V,T,μ,hμ,?_,hW.same l,λb e m=>by rw[(l b e m).1,(l b e m).2];exact hO b e m⟩;rw[K];have n:it.out=.v ae:=hC;refine hA.put hd M ht (λ_ _ _ _=>rfl) hu (λ_ _ b hq=>?_) _ (λ_ _=>by rw[n];rfl);rw[n]at hq;cases hq
 | stay =>
  rw[hk]at hC g;simp only[BP,YJ]at g;show o.wp P a w _ Q\/_;left;refine hC ?_;have W:∀(b:I) (e:Bl),bl[b]? = F e->e.al≠F i/\e.st≠F i:=λb e m=>by simpa using Zf.1 g.1 e (Y7 m)
  have l:∀(b:I) (e:Bl),bl[b]? = F e->e.live (L.setIfInBounds i J)=e.live L/\e.put (L.setIfInBounds i J)=e.put L:=λb e m =>
   ⟨by rw[jI M,show(e.al == F i)=D by simpa using(W b e m).1,qx],by rw[lA M,show(e.st == F i)=D by simpa using(W b e m).2,qx]⟩
  refine⟨V,T,μ,hμ,?_,hW.same l,λb e m=>by rw[(l b e m).1,(l b e m).2];exact hO b e m⟩;rw[K];refine hA.put hd M ht (λ_ _ _ _=>rfl) hu (λ_ _ b hq=>?_) _ (λ_ _=>rfl);have A:=g.2;rw[hq]at A;obtain⟨e,he,hl⟩:=hw b A;exact⟨e,he,qE M hl⟩
 | call =>
  rw[hk]at hC g;simp only[BP,YJ]at g;show o.wp P a w _ Q\/_;left;refine hC λw' O=>?_
  have W:∀(b:I) (e:Bl),bl[b]? = F e->e.al≠F i/\e.st≠F i:=λb e m=>by simpa using Zf.1 g.1 e (Y7 m)
  have l:∀(b:I) (e:Bl),bl[b]? = F e->e.live (L.setIfInBounds i J)=e.live L/\e.put (L.setIfInBounds i J)=e.put L:=λb e m =>
   ⟨by rw[jI M,show(e.al == F i)=D by simpa using(W b e m).1,qx],by rw[lA M,show(e.st == F i)=D by simpa using(W b e m).2,qx]⟩
  refine⟨V,T,μ,hμ,?_,(hW.call O).same l,λb e m=>by rw[(l b e m).1,(l b e m).2];exact hO b e m⟩;rw[K];refine hA.put hd M ht (λ_ _ _ _=>rfl) hu (λ_ _ b hq=>?_) _ (λ_ _=>rfl);have A:=g.2;rw[hq]at A;obtain⟨e,he,hl⟩:=hw b A;exact⟨e,he,qE M hl⟩
 | make b =>
  rw[hk]at hC g;simp only[BP,YJ]at g;obtain⟨⟨n,hz⟩,h7⟩:=g;obtain⟨e,l⟩:=ZT.1 h7;have ha:e.al=F i:=(two (kO hz e l)).2.2 Z;have O:∀(c:I) (f:Bl),bl[c]? = F f->f.st≠F i:=λc f C=>(two (kO hz f C)).1
  have h9:∀(c:I) (f:Bl),bl[c]? = F f->c≠b->f.al≠F i:=λc f C hn h=>hn ((two (kO hz f C)).2.1 h)
  have W:e.live L=D:=by unfold Bl.live;rw[ha];exact k1
  have hpt:e.put L=D:=by
   cases hp:e.put L with
   | false=>rfl
   | true=>have:=hO b e l hp;rw[W]at this;cases this
  have k7:it.out.blk=F b:=by
   cases h0:it.out.blk with
   | none=>rw[h0]at n;cases n
   | some c =>
    rw[h0]at n;rw[show c=b by simpa using n]
  show o.wp P a w _ Q\/_;left;refine hC e l λk w' hm=>?_
  have hμb:∀(c:I) (f:Bl),bl[c]? = F f->f.live L=J->upd μ b k c=μ c:=λc f C hl=>by
   unfold upd;rw[yFV];rintro rfl;rw[l]at C;obtain rfl:e=f:=YR.inj C;rw[W]at hl;cases hl
  refine⟨V,T,upd μ b k,λc f C q=>?_,?_,hW.make M l ha h9 O hpt hm,λc f C=>?_⟩
  .rw[hμb c f C (by unfold Bl.live;rw[q];rfl)];exact hμ c f C q
  .rw[K];refine hA.put hd M ht hμb hu (λ_ _ c hy=>?_) _ (λ_ _=>rfl);rw[k7]at hy;have h1:b=c:=YR.inj hy;subst h1;exact⟨e,l,by rw[jI M,ha];simp⟩
  rw[lA M,show(f.st == F i)=D by simpa using O c f C,qx];exact λhp=>qE M (hO c f C hp)
 | put b =>
  rw[hk]at hC g;simp only[BP,YJ]at g;obtain⟨⟨n,hz⟩,h7⟩:=g;cases l:bl[b]? with
  | none=>rw[l]at h7;cases h7
  | some e =>
   rw[l]at h7;dsimp only at h7;have hs:e.st=F i:=(two (kO hz e l)).2.2 Z;have h9:∀(c:I) (f:Bl),bl[c]? = F f->f.al≠F i:=λc f C=>(two (kO hz f C)).1
   have O:∀(c:I) (f:Bl),bl[c]? = F f->c≠b->f.st≠F i:=λc f C hn h=>hn ((two (kO hz f C)).2.1 h)
   have W:e.live L=J:=by
    unfold Bl.live;cases q:e.al with
    | none=>rfl
    | some j =>
     have A:=h7;rw[q]at A;exact r j A
   show o.wp P a w _ Q\/_;left;have ke:e.put L=D:=by unfold Bl.put;rw[hs];exact k1
   have A:e.now L=e.before:=by unfold Bl.now;rw[ke];rfl
   refine hC e l (hW.has b e l W).2.1 (A ▸ (hW.has b e l W).1) λw' kf=>?_
   refine⟨V,T,μ,hμ,?_,hW.put M l hs W kf O h9,λc f C hp=>?_⟩
   .rw[K];refine hA.put hd M ht (λ_ _ _ _=>rfl) hu (λd kg c hy=>?_) _ (λd kg=>rfl);cases h0:it.out with
    | v x=>rw[h0]at hy;cases hy
    | p x y=>rw[h0]at n;cases n
    | s x y z=>rw[h0]at n;cases n
    | t x y z u=>rw[h0]at n;cases n
   rw[jI M,show(f.al == F i)=D by simpa using h9 c f C,qx];rw[lA M]at hp;by_cases hn:c=b
   .subst hn;rw[l]at C;obtain rfl:e=f:=YR.inj C;exact W
   rw[show(f.st == F i)=D by simpa using O c f C hn,qx]at hp;exact hO c f C hp
end RG
namespace RG
variable {P:Zw}{ops:Array Y9}{Q:an->Act->Yp->Prop}{w0 w:Yp}{k0:Nat}{X:List Nat}{its:List It}{bl:List Bl}{olds:List (Tmp × SV)}{a0:Act}{L:Array Bool}{μ μ0:Nat->Nat}
def puts(μ:I->I):H It->Act->Act
 | [],a=>a
 | it :: r,a=>puts μ r (a.put it.dst (it.out.at μ))
def nU(μ:I->I):∀(k:H It) (a:Act),(puts μ k a).defers=a.defers
 | [],_=>rfl
 | it :: r,a=>by
  rw[puts,nU μ r];cases it.dst<;>rfl
def tD(a:Act)(d:zb Tmp)(v:Yq):(a.put d v).tmps.size=a.tmps.size:=by
 cases d with
 | none=>rfl
 | some d=>exact Zg ..
def BF(μ:I->I):∀(k:H It) (a:Act),(puts μ k a).tmps.size=a.tmps.size
 | [],_=>rfl
 | it :: r,a=>by rw[puts,BF μ r,tD]
def pW(a:Act){d:zb Tmp}(v:Yq){t:Tmp}(h:d≠F t):(a.put d v).tmps[t]? = a.tmps[t]?:=by
 cases d with
 | none=>rfl
 | some d =>
  show(a.tmps.setIfInBounds d v)[t]? = _;rw[r9,yFV (λe=>h (by rw[e]))]
def mK(μ:I->I):∀(k:H It) (a:Act) (t:Tmp),(∀it∈k,it.dst≠F t)->(puts μ k a).tmps[t]? = a.tmps[t]?
 | [],_,_,_=>rfl
 | it :: r,a,t,h=>by
  rw[puts,mK μ r _ t (λx hx=>h x (Zd _ hx)),pW a _ (h it Zm)]
def uR{μ:I->I}:∀(k:H It) (a:Act) (i:I) (it:It) (d:Tmp),Bg k=J->k[i]? = F it->it.dst=F d->d<a.tmps.size->(puts μ k a).tmps[d]? = F (it.out.at μ)
 | [],_,i,_,_,_,h,_,_=>by simp at h
 | x :: r,a,0,it,d,hB,h,hd,hs=>by
  obtain rfl:x=it:=by simpa using h
  simp only[Bg,YJ,hd]at hB;rw[puts,mK μ r _ d (λy b=>by simpa using Zf.1 hB.1 y b),hd];show(a.tmps.setIfInBounds d _)[d]? = _;rw[r9,yFU Z,yFU hs]
 | x :: r,a,i+1,it,d,hB,h,hd,hs=>by
  simp only[Bg,YJ]at hB;rw[puts];exact uR r _ i it d hB.2 (by simpa using h) hd (by rw[tD];exact hs)
def Act.ext'{b:Act}(h1:a.tmps=b.tmps)(k:a.defers=b.defers):a=b:=by
 cases a;cases b;subst h1;subst k;rfl
def Ac.done(h:Ac its bl a0 L μ a)(f:Bg its=J)(c:∀it∈its,∀d,it.dst=F d->d<a0.tmps.size)(b:∀i,i<its.length->on L i=J):a=puts μ its a0:=by
 refine Act.ext' ?_ (by rw[nU];exact h.defers);apply yu.ext_getElem?;intro t;by_cases e:∃(i:I) (it:It),its[i]? = F it/\it.dst=F t
 .obtain⟨i,it,k,hd⟩:=e;rw[(h.got i it t k (b i (YF.1 k).1) hd).1,uR (μ:=μ) its a0 i it t f k hd (c it (Y7 k) t hd)]
 rw[h.rest t (λi it k _ hd=>e ⟨i,it,k,hd⟩),mK μ its a0 t (λit g hd=>?_)];obtain⟨i,k⟩:=rm g;exact e ⟨i,it,k,hd⟩
def unl(L:yu zk):I:=L.toList.countP (λb=>!b)
def count_set:∀(l:H zk) (i:I),l[i]? = F D->(l.set i J).countP (λb=>!b)+1=l.countP (λb=>!b)
 | [],i,h=>by simp at h
 | x :: r,0,h=>by
  obtain rfl:x=D:=by simpa using h
  simp
 | x :: r,i+1,h=>by
  have:=count_set r i (by simpa using h);rw[Yy,yEI,yEI];omega
def sE(h:L.getD i J=D):unl (L.setIfInBounds i J)+1=unl L:=by
 rw[unl,yu.toList_setIfInBounds];refine count_set _ _ ?_;rw[Zz];rw[YG]at h;cases hh:L[i]? with
 | none=>rw[hh]at h;cases h
 | some b=>rw[hh]at h;rw[show b=D from h]
def rX(h:unl L=0)(k:i<L.size):on L i=J:=by
 rw[on,YG,Y0 k];simpa using((H.countP_eq_zero.1 h) L[i] (by simp))
structure Reg(P:Zw)(ops:yu Y9)(Q:an->Act->Yp->Prop)(w0:Yp)(k0:I)(X:H I)(its:H It)(bl:H Bl)(olds:H (Tmp × SV))(a0:Act)(μ0:I->I):Prop where
 chk:allB ops its bl olds a0.tmps.size=J
 old:∀(t:Tmp) (s:SV),(t,s)∈olds->a0.tmps[t]? = F (s.at μ0)
 cert:∀(i:I) (o:Y9) (it:It),ops[i]? = F o->its[i]? = F it->Cert P Q w0 k0 X ops i its bl olds o it
def Reg.step{o:Y9}(R:Reg P ops Q w0 k0 X its bl olds a0 μ0)(ho:ops[i]? = F o)(p:on L i=false)(f:∀e∈o.after,ZH .any e=J->on L e.on=J)(h:Inv ops its bl a0 w0 k0 X μ0 L a w):
 wpOp P ops Q i (Inv ops its bl a0 w0 k0 X μ0 (L.setIfInBounds i J)) a w:=by
 have y:=R.chk;simp only[allB,YJ,beq_iff_eq]at y;let⟨⟨⟨⟨n,hd⟩,m⟩,r⟩,g⟩:=y
 have A:i<its.length:=by rw[<-n];exact(YX.1 ho).1
 let⟨it,k⟩:∃it,its[i]? = F it:=⟨its[i],YC A⟩
 have h1:=Zf.1 g i (Z6.2 A);rw[ho,k]at h1;refine RG.step (olds:=olds) hd ho k h1 (λd v=>?_) (λt s x=>?_) (λj M K q l=>?_) n (R.cert i o it ho k) p f h
 .have:=Zf.1 r it (Y7 k);rw[v]at this;simpa using this
 .have C:=Zf.1 m (t,s) x;refine⟨R.old t s x,λb u=>?_⟩;have c:=C;dsimp only at c;rw[u]at c;dsimp only at c;cases z:bl[b]? with
  | none=>rw[z]at c;cases c
  | some e=>rw[z]at c;exact⟨e,Z,by simpa using c⟩
 have c:=Zf.1 g j (Z6.2 (YF.1 l).1);rw[q,l]at c;simp only[okB,YJ]at c;simpa using c.1.1.1.1
def Reg.back{o:Y9}(R:Reg P ops Q w0 k0 X its bl olds a0 μ0)(ho:ops[i]? = F o):i<its.length/\∀e∈o.after,ZH .any e=J->e.on<i:=by
 have d:=R.chk;simp only[allB,YJ,beq_iff_eq]at d;let⟨⟨⟨⟨k,hd⟩,f⟩,j⟩,b⟩:=d
 have c:i<its.length:=by rw[<-k];exact(YX.1 ho).1
 have h1:=Zf.1 b i (Z6.2 c);rw[ho,YC c]at h1;simp only[okB,YJ]at h1;refine⟨c,λe g l=>?_⟩;have:=oT.1 h1.1.1.2 e g;simpa[l]using this
def Reg.size(R:Reg P ops Q w0 k0 X its bl olds a0 μ0):ops.size=its.length:=by
 have k:=R.chk;simp only[allB,YJ,beq_iff_eq]at k;exact k.1.1.1.1
def Reg.full(R:Reg P ops Q w0 k0 X its bl olds a0 μ0)(h:Inv ops its bl a0 w0 k0 X μ0 L a w)(f:Y6 .any ops L=[]):∀i,i<its.length->on L i=J:=by
 intro i;induction i using yEV with
 | ind i ih =>
  intro c;have ho:ops[i]? = F (ops[i]'(by rw[R.size];exact c)):=Y0 _;cases k:on L i with
  | true=>rfl
  | false =>
   have:i∈Y6 .any ops L:=mem_ready.2 ⟨?_,_,ho,λe d g=>?_⟩
   .rw[f]at this;cases this
   .unfold on at k;rw[YG,Y0 (by rw[h.size];exact c)]at k⊢;exact k
   have b:=(R.back ho).2 e d g;exact ih e.on b (I.lt_trans b c)
def ad(ks:H I)(b:I):I:=ks.getD b 0
structure St(w0:Yp)(k0:I)(X:H I)(cs:H (H Yq))(ks:H I)(w:Yp):Prop where
 bel:BelX k0 X w0 w
 le:k0<=w.heap.size
 len:ks.length=cs.length
 has:∀(b:I) (c:H Yq),cs[b]? = F c->w.rangeAt (ad ks b) 0 c/\w.there (ad ks b) 0 c.length/\ad ks b<w.heap.size/\(k0<=ad ks b\/ad ks b∈X)
 inj:∀(b c:I),b<cs.length->c<cs.length->b≠c->ad ks b≠ad ks c
def St.drew(h:St w0 k0 X cs ks w):St w0 k0 X cs ks w.drew:=⟨h.bel.drew,h.le,h.len,h.has,h.inj⟩
def Bl.fin(e:Bl):H Yq:=if e.st.isSome=J then e.after else e.before
def nJ(bl:H Bl)(n:I):zk:=bl.zipIdx.all (λx=>x.1.al.isNone == decide (x.2<n)) && decide (n<=bl.length)
def Bu{r:yu Y9}(p:St w0 k0 X cs ks w)(v:nJ bl cs.length=J)(s:(bl.map (·.before)).take cs.length=cs):
 Inv r its bl a0 w0 k0 X (ad ks) (YD its.length D) a0 w:=by
 simp only[nJ,YJ]at v;have g:∀i,on (YD its.length D) i=D:=λi=>by
  rw[on,YG,yCD];by_cases h:i<its.length
  .rw[yFU h];rfl
  rw[yFV h];rfl
 have k:∀(b:I) (e:Bl),bl[b]? = F e->e.live (YD its.length D)=J->b<cs.length:=λb e l hl=>by
  unfold Bl.live at hl;cases m:e.al with
  | none=>simpa[m]using(kO v.1 e l)
  | some j=>rw[m]at hl;have:on (YD its.length D) j=J:=hl;rw[g]at this;cases this
 have m:∀e:Bl,e.put (YD its.length D)=D:=λe=>by
  unfold Bl.put;cases e.st with
  | none=>rfl
  | some j=>exact g j
 have n:∀(b:I) (e:Bl),bl[b]? = F e->b<cs.length->cs[b]? = F e.before:=λb e l t=>by
  rw[<-s,qk,yFU t,ZE,l];rfl
 refine⟨yu.size_replicate,(λi o _ h=>by rw[g]at h;cases h),ad ks,λ_ _ _ _=>rfl,⟨Z,Z,λi it d z ho=>?_,λ_ _=>rfl⟩,⟨p.bel,p.le,λb e l hl=>?_,λb c e f l y x hf q=>p.inj b c (k b e l x) (k c f y hf) q⟩,λb e l u=>?_⟩
 .rw[g]at ho;cases ho
 .rw[Bl.now,m e];exact p.has b e.before (n b e l (k b e l hl))
 rw[m e]at u;cases u
def Inv.done(R:Reg P ops Q w0 k0 X its bl olds a0 (ad ks))(h:Inv ops its bl a0 w0 k0 X (ad ks) L a w)(n:ks.length=cs.length)(N:nJ bl cs.length=J)(k:∀i,i<its.length->on L i=J)
 (p:∀e∈bl,∀j,e.al=F j\/e.st=F j->j<its.length) (s:∀e∈bl,e.fin.length=e.before.length)
 (V:∀(new:H I) (w':Yp),new.length=bl.length-cs.length->St w0 k0 X (bl.map Bl.fin) (ks++new) w'->Q .normal (puts (ad (ks++new)) its a0) w'):Q .normal a w:=by
 obtain⟨T,-,μ,hμ,K,z,hO⟩:=h;have W:=R.chk;simp only[allB,YJ,beq_iff_eq]at W;obtain⟨⟨⟨⟨y,hd⟩,v⟩,u⟩,A⟩:=W;have h0:=N;simp only[nJ,YJ,decide_eq_true_eq]at N;have f:∀(b:I) (e:Bl),bl[b]? = F e->e.live L=J:=λb e m=>by
  unfold Bl.live;cases g:e.al with
  | none=>rfl
  | some j=>exact k j (p e (Y7 m) j (Y3 g))
 have t:∀(b:I) (e:Bl),bl[b]? = F e->e.now L=e.fin:=λb e m=>by
  unfold Bl.now Bl.put Bl.fin;cases g:e.st with
  | none=>rfl
  | some j =>
   have:=k j (p e (Y7 m) j (YZ g));simp[this]
 have g:∀b,b<bl.length->ad (ks++(ZD (bl.length-cs.length)).map (λj=>μ (cs.length+j))) b=μ b:=λb m=>by
  rw[ad,yAM];by_cases o:b<cs.length
  .rw[Zc (by rw[n];exact o)];obtain⟨e,l⟩:∃e,bl[b]? = F e:=⟨bl[b],YC m⟩
   have h1:=kO N.1 e l;rw[hμ b e l (by simpa[o]using h1)];rw[ad,yAM]
  rw[Zx (by rw[n];omega),ZE,n,H.getElem?_range oM];show μ (cs.length+(b-cs.length))=μ b
  congr 1
  omega
 have q:=K.done hd (λit M d o=>by
  have:=Zf.1 u it M;rw[o]at this;simpa using this) k
 have O:puts μ its a0=puts (ad (ks++(ZD (bl.length-cs.length)).map (λj=>μ (cs.length+j)))) its a0:=by
  have key:∀it∈its,∀d,it.dst=F d->it.out.at μ=it.out.at (ad (ks++(ZD (bl.length-cs.length)).map (λj=>μ (cs.length+j)))):=λit M d o=>by
   obtain⟨i,C⟩:=rm M;refine SV.at_congr λb m=>?_
   obtain⟨e,l,-⟩:=((K.got i it d C (k i (YF.1 C).1) o).2) b m;rw[g b (YF.1 l).1]
  clear K q v A u hd y T R k p V;generalize a0=C;induction its generalizing C with
  | nil=>rfl
  | cons it r ih =>
   rw[puts,puts];have h1:C.put it.dst (it.out.at μ)=C.put it.dst (it.out.at (ad (ks++(ZD (bl.length-cs.length)).map (λj=>μ (cs.length+j))))):=by
    cases o:it.dst with
    | none=>rfl
    | some d=>rw[key it Zm d o]
   rw[h1];exact ih (λx hx=>key x (Zd _ hx)) _
 rw[q,O];refine V _ w (by simp) ⟨z.bel,z.le,?_,λb c p=>?_,λb c m p C=>?_⟩
 .simp only[Yx,YO,H.length_range];omega
 .rw[ZE]at p;cases l:bl[b]? with
  | none=>rw[l]at p;cases p
  | some e =>
   rw[l]at p;obtain rfl:e.fin=c:=YR.inj p;have h1:=z.has b e l (f b e l);rw[t b e l]at h1;rw[g b (YF.1 l).1,s e (Y7 l)];exact h1
 rw[YO]at m p;rw[g b m,g c p];exact z.inj b c _ _ (YC m) (YC p) (f b _ (YC m)) (f c _ (YC p)) C
def region_draws'{id:I}(u:P.follows .mixedOrders=J)(p:St w0 k0 X cs ks w)(R:Reg P ops Q w0 k0 X its bl olds a0 (ad ks))(r:nJ bl cs.length=J)(q:(bl.map (·.before)).take cs.length=cs)(hE:(∀e∈bl,∀j,e.al=F j\/e.st=F j->j<its.length)/\∀e∈bl,e.fin.length=e.before.length)
 (s:∀(new:H I) (w':Yp),new.length=bl.length-cs.length->St w0 k0 X (bl.map Bl.fin) (ks++new) w'->Q .normal (puts (ad (ks++new)) its a0) w'):(ZP id ops J).wp P Q a0 w:=by
 let⟨g,c⟩:=hE
 have key:∀(k:I) (L:yu zk) (a:Act) (w:Yp),unl L=k->Inv ops its bl a0 w0 k0 X (ad ks) L a w->wpAny P .any ops Q k L a w:=by
  intro k;induction k with
  | zero =>
   intro L a w t f;have d:∀i,i<its.length->on L i=J:=λi m=>rX t (by rw[f.size];exact m)
   refine⟨?_,f.done R p.len r d g c s⟩;apply H.eq_nil_iff_forall_not_mem.2;intro i m;obtain⟨h1,o,ho,-⟩:=mem_ready.1 m;have l:=d i (R.back ho).1;unfold on at l;rw[YG]at h1 l;cases hh:L[i]? with
   | none=>rw[hh]at h1;cases h1
   | some b=>rw[hh]at h1 l;rw[show b=D from h1]at l;cases l
  | succ k ih =>
   intro L a w t f;refine⟨λx=>f.done R p.len r (R.full f x) g c s,λi m=>?_⟩;let⟨h1,o,ho,d⟩:=mem_ready.1 m
   have l:on L i=D:=by
    unfold on;rw[YG]at h1⊢;cases hh:L[i]? with
    | none=>rfl
    | some b=>rw[hh]at h1;exact h1
   exact wpOp_mono (λv w' n=>ih _ v w' (oN (sE h1)) n) (R.step ho l d f)
 refine wp_region_any u (key _ _ a0 _ ?_ ?_)
 .rw[unl,yu.toList_replicate,H.countP_replicate];simp
 rw[R.size];exact Bu p.drew r q
def region_text'{id:I}(o:St w0 k0 X cs ks w)(R:Reg P ops Q w0 k0 X its bl olds a0 (ad ks))(p:nJ bl cs.length=J)(g:(bl.map (·.before)).take cs.length=cs)(hE:(∀e∈bl,∀j,e.al=F j\/e.st=F j->j<its.length)/\∀e∈bl,e.fin.length=e.before.length)
 (f:∀(new:H I) (w':Yp),new.length=bl.length-cs.length->St w0 k0 X (bl.map Bl.fin) (ks++new) w'->Q .normal (puts (ad (ks++new)) its a0) w'):(ZP id ops D).wp P Q a0 w:=by
 let⟨l,k⟩:=hE
 have key:∀(m i:I) (L:yu zk) (a:Act) (w:Yp),i+m=its.length->(∀j,j<its.length->on L j=decide (j<i))->Inv ops its bl a0 w0 k0 X (ad ks) L a w->wpOps P ops Q (H.range' i m) a w:=by
  intro m;induction m with
  | zero =>
   intro i L a w t b d;exact d.done R o.len p (λj c=>by rw[b j c];simp;omega) l k f
  | succ m ih =>
   intro i L a w t b d;rw[H.range'_succ,wpOps_cons];have ho:ops[i]? = F (ops[i]'(by rw[R.size];omega)):=Y0 _;refine wpOp_mono (λq w' f=>ih (i+1) _ q w' oM (λj c=>?_) f) (R.step ho (by rw[b i oM];simp) (λe r s=>?_) d)
   .rw[fF (by rw[d.size];omega),b j c];by_cases h1:j<i
    .simp[h1];omega
    by_cases n:i=j
    .subst n;simp
    have:¬j<i+1:=oM;simp[h1,n,this]
   have n:=(R.back ho).2 e r s;rw[b e.on oM];simpa using n
 refine wp_region ?_;rw[H.range_eq_range',R.size];refine key its.length 0 (YD its.length D) a0 w oM (λj c=>?_) (Bu o p g);rw[on,YG,yCD,yFU c];simp
end RG
namespace RG
variable {P:Zw}{Q:an->Act->Yp->Prop}{its:List It}{bl:List Bl}{olds:List (Tmp × SV)}{ops:Array Y9}{i:Nat}{o:Y9}{it:It}{w0:Yp}{k0:Nat}{X:List Nat}
def cN(c:it.kind=.stay)(b:∀(μ:I->I) (a:Act) (w:Yp),Known ops i its olds it.need μ a->BelX k0 X w0 w->(Za a.eval o).run P w=.ok (.value (it.out.at μ)) w):Cert P Q w0 k0 X ops i its bl olds o it:=by
 intro μ a w K d _ k;rw[c];intro h;rw[ZY,b μ a w d k];exact h
def qL{T:YW}{t:Tmp}{cs:H Yq}(r:it.kind=.stay)(e:Bl)(s:bl[b]? = F e)(l:e.al=G)(m:readB ops i e=J)(ho:o.op=.load T (.tmp t))(c:it.out=.v (.agg cs.toArray))(hx:∀(μ:I->I) (a:Act),Known ops i its olds it.need μ a->a.eval (.tmp t)=(SV.p b off).at μ)(k:(e.before.drop off).take cs.length=cs)(g:(P.underlying T).map (·.isRow)=F J)(u:(P.info? T).map (·.size)=F cs.length):Cert P Q w0 k0 X ops i its bl olds o it:=by
 intro μ a w K q hR _;rw[r];intro h;rw[c]at h;obtain⟨d,g,hd⟩:=Yu.1 g;refine wp_load_mid T (.tmp t) ho (μ b) off (hx μ a q) cs d (λj v f=>?_) g hd u h;have h1:=hR b e s (Y3 l) m (off+j) v ?_
 .rw[Yv]at h1;exact h1
 rw[<-k]at f;have n:j<cs.length:=by
  have p:=(YF.1 f).1;rw[k]at p;exact p
 rw[qk,yFU n,yC5]at f;exact f
def BW{v:Yq}(g:it.kind=.call)(f:ak)(b:it.out=.v v)(c:∀(μ:I->I) (a:Act) (w:Yp),Known ops i its olds it.need μ a->BelX k0 X w0 w->(Za a.eval o).run P w=.ok (.enter f args) w)(l:∀w,BelX k0 X w0 w->Zl P f args w (rZ w λe w'=>e=v)):Cert P Q w0 k0 X ops i its bl olds o it:=by
 intro μ a w K d _ k;rw[g];intro h;rw[b]at h;rw[ZY,c μ a w d k,rl];refine(l w k).mono ?_;rintro e w' ⟨m,rfl,j,rfl⟩;exact h w' j
def vO(f:it.kind=.make b)(e:Bl)(g:bl[b]? = F e)(t:YW)(d:∀(μ:I->I) (a:Act) (w:Yp),Known ops i its olds it.need μ a->BelX k0 X w0 w->(Za a.eval o).run P w=.ok (.value (it.out.at (upd μ b w.heap.size))) (w.alloc (.cells e.before.toArray t))):Cert P Q w0 k0 X ops i its bl olds o it:=by
 intro μ a w K j _ c;rw[f];intro e' k h;rw[g]at k;obtain rfl:e=e':=YR.inj k;rw[ZY,d μ a w j c];exact h _ _ (Made.alloc w e.before t)
def NZ{e:Bl}{x y:am}(j:it.kind=.put b)(m:bl[b]? = F e)(T:YW)(ho:o.op=.store T x y)(d:o.dst=G)(k:e.after.length=e.before.length)(hx:∀(μ:I->I) (a:Act),Known ops i its olds it.need μ a->a.eval x=(SV.p b 0).at μ)(n:∀(μ:I->I) (a:Act),Known ops i its olds it.need μ a->a.eval y=.agg e.after.toArray)(p:(P.info? T).map (·.size)=F e.after.length)(h1:e.after.all (·.oneCell')=J):Cert P Q w0 k0 X ops i its bl olds o it:=by
 intro μ a w K f _ _;rw[j];intro e' c g l h;rw[m]at c;obtain rfl:e=e':=YR.inj c;refine wp_store_mid T x y ho (μ b) 0 e.after.toArray (hx μ a f) (n μ a f) ?_ ?_ ?_ ?_
 .rw[Zq,k];exact g
 .rw[Zq];exact p
 .exact all_oneCell_toArray (λv hv=>Zf.1 h1 v hv)
 have:=h _ (PutTo.whole g l k);rw[d]at this⊢;exact this
def Known.op{k:H (Tmp × I)}(h:Known ops i its olds k μ a)(t:Tmp)(j:I)(c:(t,j)∈k){b:It}(d:its[j]? = F b):a.eval (.tmp t)=b.out.at μ:=h.1 t j b c d
def Known.old{k:H (Tmp × I)}(h:Known ops i its olds k μ a)(t:Tmp)(s:SV)(b:(t,s)∈olds)(hf:I2 ops its i t=J):a.eval (.tmp t)=s.at μ:=h.2 t s b hf
end RG
namespace RG
variable {P:Zw}{ops:Array Y9}{Q:an->Act->Yp->Prop}{w0 w:Yp}{k0:Nat}{X:List Nat}{its:List It}{bl:List Bl}{olds:List (Tmp × SV)}{a0:Act}{L:Array Bool}{μ μ0:Nat->Nat}{i:Nat}{o:Y9}{it:It}
def Certs(P:Zw)(Q:an->Act->Yp->Prop)(c:Yp)(d:I)(X:H I)(b:yu Y9)(k:H It)(bl:H Bl)(olds:H (Tmp × SV)):I->H Y9->H It->Prop
 | _,[],_=>True
 | _,_ :: _,[]=>False
 | i,o :: os,it :: is=>Cert P Q c d X b i k bl olds o it/\Certs P Q c d X b k bl olds (i+1) os is
def Certs.get:∀ {k:H Y9}{b:H It}{n:I},Certs P Q w0 k0 X ops its bl olds n k b->∀(i:I) (o:Y9) (it:It),k[i]? = F o->b[i]? = F it->Cert P Q w0 k0 X ops (n+i) its bl olds o it
 | [],_,_,_,i,_,_,h,_=>by simp at h
 | _ :: _,[],_,h,_,_,_,_,_=>h.elim
 | o :: k,it :: b,_,h,0,o',it',ho,hi=>by
  obtain rfl:o=o':=by simpa using ho
  obtain rfl:it=it':=by simpa using hi
  exact h.1
 | o :: k,it :: b,n,h,i+1,o',it',ho,hi=>by
  have:=Certs.get h.2 i o' it' (by simpa using ho) (by simpa using hi);rw[show n+(i+1)=n+1+i by omega];exact this
def Olds(a0:Act)(k:I->I):H (Tmp × SV)->Prop
 | []=>True
 | x :: r=>a0.tmps[x.1]? = F (x.2.at k)/\Olds a0 k r
def Olds.get:∀ {l:H (Tmp × SV)},Olds a0 μ0 l->∀(t:Tmp) (s:SV),(t,s)∈l->a0.tmps[t]? = F (s.at μ0)
 | [],_,_,_,h=>by cases h
 | x :: r,h,t,s,hm=>by
  rcases H.mem_cons.1 hm with e|e
  .subst e;exact h.1
  exact Olds.get h.2 t s e
def Reg.mk'(chk:allB ops its bl olds a0.tmps.size=J)(old:Olds a0 μ0 olds)(k:Certs P Q w0 k0 X ops its bl olds 0 ops.toList its):Reg P ops Q w0 k0 X its bl olds a0 μ0:=
 ⟨chk,λt s c=>old.get t s c,λi o it ho b=>by have:=k.get i o it (by rw[Zz];exact ho) b;rwa[Yv]at this⟩
def AH{v:Yq}(c:it.kind=.call)(k:it.out=.v v)(b:∀(a:Act) (w:Yp),(Za a.eval o).run P w=.ok (.enter f #[a.eval (.tmp t1)]) w)(h1:∀(μ:I->I) (a:Act),Known ops i its olds it.need μ a->a.eval (.tmp t1)=v1)(d:∀w,Zl P f #[v1] w (rZ w λe w'=>e=v)):Cert P Q w0 k0 X ops i its bl olds o it:=
 BW c f (args:=#[v1]) k (λμ a w g _=>by rw[b,h1 μ a g]) (λw _=>d w)
def QP(c:it.out=.p b 0):it.out.at (upd μ b k)=jZ k:=by
 rw[c];show jZ (upd μ b k b)=_;rw[upd,yFU Z]
def rS{e:Bl}{T:YW}(b:I)(c:it.kind=.make b)(k:it.out=.p b 0)(f:bl[b]? = F e)(ho:o.op=.alloc T)(d:∀w:Yp,(yFk T J (.tuple #[])).run P w=.ok (jZ w.heap.size) (w.alloc (.cells e.before.toArray T))):Cert P Q w0 k0 X ops i its bl olds o it:=by
 refine vO c e f T λμ a w g _=>?_
 rw[Za,ho];rw[QP k];show((yFk T J (.tuple #[])) >>= λv=>pure (fI v)).run P w=_;rw[YU,d];rfl
def fM{t:Tmp}{T:YW}{c:H Yq}(i:St w0 k0 X cs ks w)(g:e.results=#[.cell t T])(f:cs[b]? = F c)(m:a.tmps[t]? = F (jZ (ad ks b)))(k:(P.underlying T).map (·.isRow)=F J)(j:(P.info? T).map (·.size)=F c.length):(results e a.tmps).run P w=.ok (.agg c.toArray) w:=by
 let⟨d,k,hd⟩:=Yu.1 k
 have h1:=oX (P:=P) w (ad ks b) 0 T c d (i.has b c f).1 k hd j;have l:a.tmps.getD t ae=jZ (ad ks b):=by rw[YG,m];rfl
 rw[results,g];simp only[yBd,yCs,yCB,l,asAddr];simp[YU,h1]
def St.begin(w:Yp):St w w.heap.size [] [] [] w:=⟨BelX.refl _ _ _,Ys _,Z,λb c h=>by simp at h,λb c h=>by simp at h⟩
end RG
namespace RG
variable {P:Zw}{ops:Array Y9}{Q:an->Act->Yp->Prop}{w0 w:Yp}{k0:Nat}{X:List Nat}{its:List It}{bl:List Bl}{olds:List (Tmp × SV)}{a0:Act}{i:Nat}{o:Y9}{it:It}
def cD(k:it.kind=.pass)(h:it.out=.v ae):Cert P Q w0 k0 X ops i its bl olds o it:=by
 intro μ a w K _ _ _;rw[k];exact h
def EU{T:YW}{v:Yq}(b:it.kind=.stay)(ho:o.op=.build T #[(n,.tmp t1)])(k:it.out=.v v)(h1:∀(μ:I->I) (a:Act),Known ops i its olds it.need μ a->a.eval (.tmp t1)=v1)(c:∀w:Yp,(Instr.build T #[(n,v1)]).run P w=.ok v w):Cert P Q w0 k0 X ops i its bl olds o it:=by
 refine cN b λμ a w d _=>?_
 rw[Za,ho,k];dsimp only;simp only[yEE,pg,xo,h1 μ a d];rw[YU,c];rfl
def aQ{T:YW}{v:Yq}(d:it.kind=.stay)(op:BinOp)(e:YW)(ho:o.op=.binOp op T (.tmp t1) (.tmp t2) e)(k:it.out=.v v)(h1:∀(μ:I->I) (a:Act),Known ops i its olds it.need μ a->a.eval (.tmp t1)=v1)(g:∀(μ:I->I) (a:Act),Known ops i its olds it.need μ a->a.eval (.tmp t2)=v2)(c:∀w,(eqGuard op T (.tmp t1) (.tmp t2) v1 v2).run P w=.ok () w)(f:∀w,(binOp op T v1 v2).run P w=.ok v w):Cert P Q w0 k0 X ops i its bl olds o it:=by
 refine cN d λμ a w b _=>?_
 rw[Za,ho,k];dsimp only;rw[h1 μ a b,g μ a b,YU,YU,c];dsimp only[yDw];rw[f];rfl
def lN{t:Tmp}{v:Yq}{k:Func}(b:k.results=#[.tmp t])(d:a.tmps[t]? = F v):(results k a.tmps).run P w=.ok v w:=by
 have c:a.tmps.getD t ae=v:=by rw[YG,d];rfl
 rw[results,b];simp only[yBd,yCs,yCB,c];simp[YU]
def rK{t u:Tmp}{T:YW}{c:H Yq}{v:Yq}{f:Func}(i:St w0 k0 X cs ks w)(g:f.results=#[.cell t T,.tmp u])(m:cs[b]? = F c)(j:a.tmps[t]? = F (jZ (ad ks b)))(e:a.tmps[u]? = F v)(k:(P.underlying T).map (·.isRow)=F J)(o:(P.info? T).map (·.size)=F c.length):(results f a.tmps).run P w=.ok (.tuple #[.agg c.toArray,v]) w:=by
 let⟨d,k,hd⟩:=Yu.1 k
 have h1:=oX (P:=P) w (ad ks b) 0 T c d (i.has b c m).1 k hd o;have n:a.tmps.getD t ae=jZ (ad ks b):=by rw[YG,j];rfl
 have l:a.tmps.getD u ae=v:=by rw[YG,e];rfl
 rw[results,g];simp only[yBd,yCs,yCB,n,l,asAddr];simp[YU,h1]
end RG
namespace RG
variable {P:Zw}{ops:Array Y9}{Q:an->Act->Yp->Prop}{w0 w:Yp}{k0:Nat}{X:List Nat}{its:List It}{bl:List Bl}{olds:List (Tmp × SV)}{a0 a:Act}{i:Nat}{o:Y9}{it:It}{μ:Nat->Nat}
structure Sl(a:Act)(n:I):Prop where
 size:a.tmps.size=n
 defers:a.defers=[]
def Sl.puts(h:Sl a n):Sl (puts μ its a) n:=⟨by rw[BF];exact h.size,by rw[nU];exact h.defers⟩
def CX{t:Tmp}{v:Yq}(h:a.tmps[t]? = F v):a.eval (.tmp t)=v:=by
 show a.tmps.getD t ae=v;rw[YG,h];rfl
def results_none{k:Func}(b:k.results=#[]):(results k tmps).run P w=.ok (.tuple #[]) w:=by
 rw[results,b];simp
def Xh{c:Code}{v0:Yq}(k:a.tmps[0]? = F v0)(h1:a.tmps[1]? = F v1)(b:a.tmps[2]? = F v2)(hs:a.tmps.size=n)(hd:a.defers=[])(h:∀a,Sl a n->a.tmps[0]? = F v0->a.tmps[1]? = F v1->a.tmps[2]? = F v2->c.wp P Q a w):c.wp P Q a w:=h a ⟨hs,hd⟩ k h1 b
def Hd{e:Bl}{T E:YW}(b:I)(f:it.kind=.make b)(g:bl[b]? = F e)(k:it.out=.s b n n)(ho:o.op=.makeSlice T (.tmp t1) (.tmp t2))(h1:∀(μ:I->I) (a:Act),Known ops i its olds it.need μ a->a.eval (.tmp t1)=iZ n)(l:∀(μ:I->I) (a:Act),Known ops i its olds it.need μ a->a.eval (.tmp t2)=iZ n)(j:∀w:Yp,(Instr.makeSlice T (iZ n) (iZ n)).run P w=.ok (sZ w.heap.size n n) (w.alloc (.cells e.before.toArray E))):Cert P Q w0 k0 X ops i its bl olds o it:=by
 refine vO f e g E λμ a w c _=>?_
 have d:it.out.at (upd μ b w.heap.size)=sZ w.heap.size n n:=by
  rw[k];show sZ (upd μ b w.heap.size b) n n=_;rw[upd,yFU Z]
 rw[Za,ho];dsimp only;rw[h1 μ a c,l μ a c,d,YU,j];rfl
def oU{t:Tmp}(b:it.kind=.stay)(s:SV)(v:Yq)(k:it.out=.v v)(hx:∀(μ:I->I) (a:Act),Known ops i its olds it.need μ a->a.eval (.tmp t)=s.at μ)(hE:∀(a:Act) (w:Yp),(Za a.eval o).run P w=(Za (λ_=>a.eval (.tmp t)) o).run P w)(d:∀(μ:I->I) (w:Yp),(Za (λ_=>s.at μ) o).run P w=.ok (.value v) w):Cert P Q w0 k0 X ops i its bl olds o it:=by
 refine cN b λμ a w c _=>?_
 rw[hE,hx μ a c,d,k];rfl
def He{v:Yq}(p:it.kind=.call)(e:Bl)(s:bl[b]? = F e)(g:e.al=G)(j:readB ops i e=J)(q:e.before≠[])(args:(I->I)->yu Yq)(c:it.out=.v v)(d:∀(μ:I->I) (a:Act) (w:Yp),Known ops i its olds it.need μ a->(Za a.eval o).run P w=.ok (.enter f (args μ)) w)(t:∀(μ:I->I) (w:Yp),μ b<w.heap.size->w.rangeAt (μ b) 0 e.before->Zl P f (args μ) w (rZ w λr w'=>r=v)):Cert P Q w0 k0 X ops i its bl olds o it:=by
 intro μ a w K n hR _;rw[p];intro h;rw[c]at h;have m:=hR b e s (Y3 g) j;have l:μ b<w.heap.size:=by
  cases k:e.before with
  | nil=>exact absurd k q
  | cons x r =>
   have h1:=m 0 x (by rw[k];rfl);exact Z1 λy=>by
    have u:w.heap[μ b]? = G:=uz oM;simp[pn,u]at h1
 rw[ZY,d μ a w n,rl];refine(t μ w l m).mono ?_;rintro r w' ⟨u,rfl,k,rfl⟩;exact h w' k
def JQ{o:I}{cs:H Yq}(h:w.rangeAt k 0 C)(hs:∀j,j<cs.length->C[o+j]? = cs[j]?):w.rangeAt k o cs:=λj v hv=>by
 have:=h (o+j) v (by rw[hs j ((YF.1 hv).1)];exact hv);rwa[Yv]at this
def cH{t u:Tmp}(b:it.kind=.stay)(T:YW)(ho:o.op=.indexAddr T (.tmp t) (.tmp u))(s:SV)(hx:∀(μ:I->I) (a:Act),Known ops i its olds it.need μ a->a.eval (.tmp t)=s.at μ)(c:∀(μ:I->I) (a:Act),Known ops i its olds it.need μ a->a.eval (.tmp u)=iv)(hf:∀(μ:I->I) (w:Yp),(ZW T (s.at μ) iv).run P w=.ok (it.out.at μ) w):Cert P Q w0 k0 X ops i its bl olds o it:=by
 refine cN b λμ a w k _=>?_
 rw[Za,ho];dsimp only;rw[hx μ a k,c μ a k,YU,hf];rfl
def dH{t:Tmp}(k:it.kind=.stay)(T:YW)(iv:Yq)(ho:o.op=.indexAddr T (.tmp t) (.const iv))(s:SV)(hx:∀(μ:I->I) (a:Act),Known ops i its olds it.need μ a->a.eval (.tmp t)=s.at μ)(hf:∀(μ:I->I) (w:Yp),(ZW T (s.at μ) iv).run P w=.ok (it.out.at μ) w):Cert P Q w0 k0 X ops i its bl olds o it:=by
 refine cN k λμ a w b _=>?_
 rw[Za,ho];dsimp only;rw[hx μ a b];show((ZW T (s.at μ) iv) >>= λv=>pure (fI v)).run P w=_;rw[YU,hf];rfl
def aH{T:YW}{v:Yq}(b:it.kind=.stay)(op:BinOp)(c:YW)(ho:o.op=.binOp op T (.tmp t1) (.const v2) c)(k:it.out=.v v)(h1:∀(μ:I->I) (a:Act),Known ops i its olds it.need μ a->a.eval (.tmp t1)=v1)(d:∀w,(eqGuard op T (.tmp t1) (.const v2) v1 v2).run P w=.ok () w)(e:∀w,(binOp op T v1 v2).run P w=.ok v w):Cert P Q w0 k0 X ops i its bl olds o it:=by
 refine cN b λμ a w f _=>?_
 rw[Za,ho,k];dsimp only;rw[h1 μ a f];show(((eqGuard op T (.tmp t1) (.const v2) v1 v2) >>= λ_=>binOp op T v1 v2) >>= λv=>pure (fI v)).run P w=_;rw[YU,YU,d];dsimp only[yDw];rw[e];rfl
def qM{t:Tmp}{v b:Yq}(c:it.kind=.stay)(S T:YW)(ho:o.op=.convert S T (.tmp t))(k:it.out=.v b)(hx:∀(μ:I->I) (a:Act),Known ops i its olds it.need μ a->a.eval (.tmp t)=v)(d:∀w,(convert S T v).run P w=.ok b w):Cert P Q w0 k0 X ops i its bl olds o it:=by
 refine cN c λμ a w e _=>?_
 rw[Za,ho,k];dsimp only;rw[hx μ a e,YU,d];rfl
def QE{t:Tmp}{v b:Yq}(c:it.kind=.stay)(op:UnOp)(T:YW)(ho:o.op=.unOp op T (.tmp t))(k:it.out=.v b)(hx:∀(μ:I->I) (a:Act),Known ops i its olds it.need μ a->a.eval (.tmp t)=v)(d:∀w,(Op.unary op v).run P w=.ok b w):Cert P Q w0 k0 X ops i its bl olds o it:=by
 refine cN c λμ a w e _=>?_
 rw[Za,ho,k];dsimp only;rw[hx μ a e,YU,d];rfl
def eF{T:YW}{t:Tmp}{cs:H Yq}(l:it.kind=.stay)(e:k<k0)(f:k ∉ X)(ho:o.op=.load T (.tmp t))(b:it.out=.v (.agg cs.toArray))(hx:∀(μ:I->I) (a:Act),Known ops i its olds it.need μ a->a.eval (.tmp t)=oZ k off)(m:w0.rangeAt k off cs)(c:(P.underlying T).map (·.isRow)=F J)(q:(P.info? T).map (·.size)=F cs.length):Cert P Q w0 k0 X ops i its bl olds o it:=by
 intro μ a w K g _ p;rw[l];intro h;rw[b]at h;obtain⟨d,c,hd⟩:=Yu.1 c;refine wp_load_mid T (.tmp t) ho k off (hx μ a g) cs d (λj v n=>?_) c hd q h;rw[Y1 (w:=w0) (a:=⟨k,off+j,G⟩) (p.block k e f)];exact m j v n
def iH{T:YW}{v:Yq}(e:w.cell? ⟨k,off,G⟩=F v)(c:(P.underlying T).map (·.isRow)=F D):(yDV T (oZ k off)).run P w=.ok v w:=by
 let⟨d,c,hd⟩:=Yu.1 c
 have b:(isAgg T).run P w=.ok D w:=by
  rw[isAgg,YU,run_underlying c w];cases d<;>simp_all
 simp[yDV,xn,loadVar,YU,b,e]
def mV{e:Bl}{T:YW}{t:Tmp}{v:Yq}(l:it.kind=.stay)(m:bl[b]? = F e)(d:e.al=G)(f:readB ops i e=J)(ho:o.op=.load T (.tmp t))(c:it.out=.v v)(hx:∀(μ:I->I) (a:Act),Known ops i its olds it.need μ a->a.eval (.tmp t)=(SV.p b off).at μ)(k:e.before[off]? = F v)(g:(P.underlying T).map (·.isRow)=F D):Cert P Q w0 k0 X ops i its bl olds o it:=by
 intro μ a w K j hR _;rw[l];intro h;rw[c]at h;have h1:=hR b e m (Y3 d) f off v k;rw[Yv]at h1;unfold ZY Za;rw[ho];dsimp only;rw[hx μ a j];show o.upon P a K Q (((yDV T (oZ (μ b) off)) >>= λv=>pure (fI v)).run P w);rw[YU,iH h1 g];exact h
def FU{T:YW}{v u:Yq}(e:w.cell? ⟨k,off,G⟩=F u)(hf:w.frozen? ⟨k,off,G⟩=D)(h1:v.oneCell'=J)(hv:v.cells=#[v])(d:(P.info? T).map (·.size)=F 1):(yC2 T (oZ k off) v).run P w=.ok () (w.setCells k off [v]):=by
 have:=run_storeCells_cells (P:=P) k off [v] 0 w (λj b=>by
  obtain rfl:j=0:=by simpa using b
  simp[e]) (λj b=>by
  obtain rfl:j=0:=by simpa using b
  simpa using hf) (λx hx=>by
  obtain rfl:x=v:=by simpa using hx
  exact h1)
 cases c:P.info? T with
 | none=>simp[c]at d
 | some inf =>
  have hs:inf.size=1:=by simp[c]at d;omega
  simp only[ao]at this;simp[yC2,xn,storeVar,sizeOf,typeInfo,c,hv,hs,this]
def Lc{e:Bl}{T:YW}{x y:am}{v:Yq}(p:it.kind=.put b)(r:bl[b]? = F e)(ho:o.op=.store T x y)(f:o.dst=G)(hx:∀(μ:I->I) (a:Act),Known ops i its olds it.need μ a->a.eval x=(SV.p b off).at μ)(s:∀(μ:I->I) (a:Act),Known ops i its olds it.need μ a->a.eval y=v)(k:off<e.before.length)(c:e.after=e.before.set off v)(t:(P.info? T).map (·.size)=F 1)(h1:v.oneCell'=J)(hv:v.cells=#[v]):Cert P Q w0 k0 X ops i its bl olds o it:=by
 intro μ a w K l _ _;rw[p];intro e' d m q h;rw[r]at d;obtain rfl:e=e':=YR.inj d;have g:PutTo (μ b) e.before.length e.after w (w.setCells (μ b) off [v]):=PutTo.store m q (by simp only[Y2,Z2];omega) (λj=>by
  rw[c,yEt];by_cases n:off=j
  .subst n;rw[yFU Z,yFU k,yFU (by simp)];simp
  rw[yFV n,yFV (by simp only[Y2,Z2];omega)])
 have c:=m off k;rw[Yv]at c;let⟨u,n⟩:=ZT.1 c.1
 unfold ZY Za;rw[ho];dsimp only;rw[hx μ a l,s μ a l];show o.upon P a K Q (((yC2 T (oZ (μ b) off) v) >>= λ_=>pure Next.skip).run P w);rw[YU,FU n c.2 h1 hv t];have:=h _ g;rw[f]at this;show K (a.put o.dst ae) _;rw[f];exact this
def mU{T:YW}{x y:am}(m:it.kind=.put b)(e:Bl)(p:bl[b]? = F e)(ho:o.op=.store T x y)(f:o.dst=G)(hx:∀(μ:I->I) (a:Act),Known ops i its olds it.need μ a->a.eval x=(SV.p b off).at μ)(r:∀(μ:I->I) (a:Act),Known ops i its olds it.need μ a->a.eval y=.agg vs.toArray)(d:off+vs.length<=e.before.length)(k:∀j,e.after[j]? = if off<=j/\j<off+vs.length then vs[j-off]? else e.before[j]?)(s:(P.info? T).map (·.size)=F vs.length)(h1:vs.all (·.oneCell')=J):Cert P Q w0 k0 X ops i its bl olds o it:=by
 intro μ a w K g _ _;rw[m];intro e' c l n h;rw[p]at c;obtain rfl:e=e':=YR.inj c;refine wp_store_mid T x y ho (μ b) off vs.toArray (hx μ a g) (r μ a g) ?_ ?_ ?_ ?_
 .intro j q;have:=l (off+j) (by rw[Zq]at q;omega);rwa[Yv]at this
 .rw[Zq];exact s
 .exact all_oneCell_toArray (λv hv=>Zf.1 h1 v hv)
 have:=h _ (PutTo.store l n d k);rw[f]at this⊢;exact this
def Dd{v:Yq}(m:it.kind=.put b)(e:Bl)(q:bl[b]? = F e)(f:ak)(args:(I->I)->yu Yq)(d:it.out=.v v)(g:∀(μ:I->I) (a:Act) (w:Yp),Known ops i its olds it.need μ a->BelX k0 X w0 w->(Za a.eval o).run P w=.ok (.enter f (args μ)) w)(s:∀(μ:I->I) (w:Yp),BelX k0 X w0 w->w.there (μ b) 0 e.before.length->w.rangeAt (μ b) 0 e.before->Zl P f (args μ) w (Ret λr w'=>PutTo (μ b) e.before.length e.after w w'/\r=v)):Cert P Q w0 k0 X ops i its bl olds o it:=by
 intro μ a w K l _ k;rw[m];intro e' c p n h;rw[q]at c;obtain rfl:e=e':=YR.inj c;rw[d]at h;rw[ZY,g μ a w l k,rl];refine(s μ w k p n).mono ?_;rintro r w' ⟨t,rfl,j,rfl⟩;exact h w' j
def St.lent(d:k<w.heap.size)(f:w.rangeAt k 0 C)(j:w.there k 0 C.length):St w w.heap.size [k] [C] [k] w:=by
 refine⟨BelX.refl _ _ _,Ys _,Z,λb c h=>?_,λb c i e g=>?_⟩
 .cases b with
  | zero =>
   obtain rfl:C=c:=by simpa using h
   exact⟨f,j,d,YZ Zm⟩
  | succ b=>simp at h
 simp only[Y2,Z2]at i e;omega
def St.putTo(h:St w0 w0.heap.size [k] (C :: cs) (k :: ks) w)(c:C.length=n):PutTo k n C w0 w:=by
 obtain⟨h1,d,-,-⟩:=h.has 0 C Z;refine⟨h.bel.os,h.bel.tape,h.bel.output,h.bel.size,λj e b=>h.bel.block j e (by simpa using b),h1,?_⟩;rw[<-c];exact d
def rep(C:H Yq)(o:I)(vs:H Yq):H Yq:=C.take o++(vs++C.drop (o+vs.length))
def fE{o:I}(h:o+vs.length<=C.length):(rep C o vs).length=C.length:=by
 rw[rep,Yx,Yx,sj,yCL];omega
def rep_at{o:I}(h:o+vs.length<=C.length)(j:I):(rep C o vs)[j]? = if o<=j/\j<o+vs.length then vs[j-o]? else C[j]?:=by
 unfold rep;have hl:(C.take o).length=o:=by rw[sj];omega
 by_cases h1:j<o
 .rw[Zc (by rw[hl];exact h1),qk,yFU h1,yFV oM]
 rw[Zx (by rw[hl];omega),hl];by_cases k:j<o+vs.length
 .rw[Zc oM,yFU ⟨oM,k⟩]
 rw[Zx oM,yFV oM,yC5]
 congr 1
 omega
def SO{cs:H Yq}{o:I}(h:∀j,j<cs.length->C[o+j]? = cs[j]?)(hl:o+cs.length<=C.length):(C.drop o).take cs.length=cs:=by
 apply vj;intro j;by_cases k:j<cs.length
 .rw[qk,yFU k,yC5,h j k]
 rw[qz (by rw[sj,yCL];omega),qz oM]
def Bh{e:Bl}{j:Tmp}{g:Yq}(b:I)(l:it.kind=.put b)(p:bl[b]? = F e)(f:ak)(s1:SV)(v:Yq)(k:it.out=.v v)(c:∀(a:Act) (w:Yp),(Za a.eval o).run P w=.ok (.enter f #[a.eval (.tmp t1),a.eval (.tmp t2),a.eval (.tmp j)]) w)(h1:∀(μ:I->I) (a:Act),Known ops i its olds it.need μ a->a.eval (.tmp t1)=s1.at μ)(t:∀(μ:I->I) (a:Act),Known ops i its olds it.need μ a->a.eval (.tmp t2)=v2)(q:∀(μ:I->I) (a:Act),Known ops i its olds it.need μ a->a.eval (.tmp j)=g)(s:∀(μ:I->I) (w:Yp),w.there (μ b) 0 e.before.length->w.rangeAt (μ b) 0 e.before->Zl P f #[s1.at μ,v2,g] w (Ret λr w'=>PutTo (μ b) e.before.length e.after w w'/\r=v)):Cert P Q w0 k0 X ops i its bl olds o it:=
 Dd l e p f (λμ=>#[s1.at μ,v2,g]) k (λμ a w d _=>by rw[c,h1 μ a d,t μ a d,q μ a d]) (λμ w _ n m=>s μ w n m)
def ET{e:Bl}(l:it.kind=.call)(b:I)(n:bl[b]? = F e)(d:e.al=G)(g:readB ops i e=J)(m:e.before≠[])(f:ak)(s1:SV)(v:Yq)(k:it.out=.v v)(c:∀(a:Act) (w:Yp),(Za a.eval o).run P w=.ok (.enter f #[a.eval (.tmp t1),a.eval (.tmp t2)]) w)(h1:∀(μ:I->I) (a:Act),Known ops i its olds it.need μ a->a.eval (.tmp t1)=s1.at μ)(q:∀(μ:I->I) (a:Act),Known ops i its olds it.need μ a->a.eval (.tmp t2)=v2)(p:∀(μ:I->I) (w:Yp),μ b<w.heap.size->w.rangeAt (μ b) 0 e.before->Zl P f #[s1.at μ,v2] w (rZ w λr w'=>r=v)):Cert P Q w0 k0 X ops i its bl olds o it:=
 He l e n d g m (λμ=>#[s1.at μ,v2]) k (λμ a w j=>by rw[c,h1 μ a j,q μ a j]) p
end RG
namespace RG
variable {P:Zw}{ops:Array Y9}{Q:an->Act->Yp->Prop}{w0 w:Yp}{k0:Nat}{X:List Nat}{its:List It}{bl:List Bl}{olds:List (Tmp × SV)}{a:Act}{i:Nat}{o:Y9}{it:It}
def wM{T:YW}{t:Tmp}{b v c:Yq}(d:it.kind=.stay)(ho:o.op=.slice T (.tmp t) (F (.const b)) G G)(k:it.out=.v c)(hx:∀(μ:I->I) (a:Act),Known ops i its olds it.need μ a->a.eval (.tmp t)=v)(hf:∀w:Yp,(gS T v (F b) G G).run P w=.ok c w):Cert P Q w0 k0 X ops i its bl olds o it:=by
 refine cN d λμ a w e _=>?_
 rw[Za,ho,k];dsimp only;rw[hx μ a e];show((gS T v (F b) G G) >>= λv=>pure (fI v)).run P w=_;rw[YU,hf];rfl
def ES{T:YW}{t:Tmp}{v b:Yq}(c:it.kind=.stay)(ho:o.op=.sliceToArrayPointer T (.tmp t))(k:it.out=.v b)(hx:∀(μ:I->I) (a:Act),Known ops i its olds it.need μ a->a.eval (.tmp t)=v)(hf:∀w:Yp,(Instr.arrayAt T v).run P w=.ok b w):Cert P Q w0 k0 X ops i its bl olds o it:=by
 refine cN c λμ a w d _=>?_
 rw[Za,ho,k];dsimp only;rw[hx μ a d,YU,hf];rfl
def eG{T:YW}{t:Tmp}{v:Yq}(g:it.kind=.stay)(c:k<k0)(e:k ∉ X)(ho:o.op=.load T (.tmp t))(b:it.out=.v v)(hx:∀(μ:I->I) (a:Act),Known ops i its olds it.need μ a->a.eval (.tmp t)=oZ k off)(j:w0.cell? ⟨k,off,G⟩=F v)(d:(P.underlying T).map (·.isRow)=F D):Cert P Q w0 k0 X ops i its bl olds o it:=by
 refine cN g λμ a w f l=>?_
 have h1:w.cell? ⟨k,off,G⟩=F v:=by
  rw[Y1 (w:=w0) (a:=⟨k,off,G⟩) (l.block k c e)];exact j
 rw[Za,ho,b];dsimp only;rw[hx μ a f,YU,iH h1 d];rfl
def wN{v:Yq}(d:it.kind=.call)(k:it.out=.v v)(b:∀(a:Act) (w:Yp),(Za a.eval o).run P w=.ok (.enter f #[a.eval (.tmp t1),a.eval (.tmp t2)]) w)(h1:∀(μ:I->I) (a:Act),Known ops i its olds it.need μ a->a.eval (.tmp t1)=v1)(j:∀(μ:I->I) (a:Act),Known ops i its olds it.need μ a->a.eval (.tmp t2)=v2)(g:∀w,BelX k0 X w0 w->Zl P f #[v1,v2] w (rZ w λe w'=>e=v)):Cert P Q w0 k0 X ops i its bl olds o it:=
 BW d f k (λμ a w c _=>by rw[b,h1 μ a c,j μ a c]) g
def mF{v k:Yq}{b:Func}(t u:Tmp)(d:b.results=#[.tmp t,.tmp u])(g:a.tmps[t]? = F v)(e:a.tmps[u]? = F k):(results b a.tmps).run P w=.ok (.tuple #[v,k]) w:=by
 have f:a.tmps.getD t ae=v:=by rw[YG,g];rfl
 have c:a.tmps.getD u ae=k:=by rw[YG,e];rfl
 rw[results,d];simp only[yBd,yCs,yCB,f,c];simp[YU]
def AK{e:Bl}{T E:YW}{t:Tmp}{v:Yq}(b:I)(f:it.kind=.make b)(g:bl[b]? = F e)(k:it.out=.s b 1 1)(ho:o.op=.buildSlice T 1 #[(0,.tmp t)])(hx:∀(μ:I->I) (a:Act),Known ops i its olds it.need μ a->a.eval (.tmp t)=v)(j:∀w:Yp,(Instr.buildSlice T 1 #[(0,v)]).run P w=.ok (sZ w.heap.size 1 1) (w.alloc (.cells e.before.toArray E))):Cert P Q w0 k0 X ops i its bl olds o it:=by
 refine vO f e g E λμ a w d _=>?_
 have c:it.out.at (upd μ b w.heap.size)=sZ w.heap.size 1 1:=by
  rw[k];show sZ (upd μ b w.heap.size b) 1 1=_;rw[upd,yFU Z]
 rw[Za,ho,c];dsimp only;rw[show yu.map (λx:I × am=>match x with|(i,x)=>(i,a.eval x)) #[(0,Operand.tmp t)]=#[(0,v)] by rw[yEE];simp only[pg,xo];rw[hx μ a d],YU,j];rfl
def AE{e:Bl}{f:Y9}{t:Tmp}(q:it.kind=.stay)(j:I)(r:bl[b]? = F e)(m:ops[i]? = F f)(g:e.al=F j)(c:bZ f j=J)(l:readB ops i e=J)(S T:YW)(v:Yq)(ho:o.op=.convert S T (.tmp t))(d:it.out=.v v)(hx:∀(μ:I->I) (a:Act),Known ops i its olds it.need μ a->a.eval (.tmp t)=(SV.s b n n).at μ)(hf:∀(w:Yp) (k:I),w.rangeAt k 0 e.before->(convert S T (sZ k n n)).run P w=.ok v w):Cert P Q w0 k0 X ops i its bl olds o it:=by
 intro μ a w K p hR _;rw[q];intro h;rw[d]at h;unfold ZY Za;rw[ho];dsimp only;rw[hx μ a p];show Oper.upon P o a K Q (((convert S T (sZ (μ b) n n)) >>= λv=>pure (fI v)).run P w);rw[YU,hf w (μ b) (hR b e r (YZ ⟨f,j,m,g,c⟩) l)];exact h
end RG
namespace RG
variable {P:Zw}{ops:Array Y9}{Q:an->Act->Yp->Prop}{w0 w:Yp}{k0 n:Nat}{X:List Nat}{its:List It}{bl:List Bl}{os:List (Tmp × SV)}{a:Act}{i:Nat}{o:Y9}{it:It}{μ:Nat->Nat}{need:List (Tmp × Nat)}
def src(c:yu Y9)(k:H It)(d:H (Tmp × SV))(b:H (Tmp × I))(i:I)(t:Tmp):zb SV:=
 match b.find? (λx=>x.1 == t) with
 | some x=>(k[x.2]?).map (·.out)
 | none=>match d.find? (λx=>x.1 == t) with
  | some x=>bif I2 c k i t then F x.2 else G
  | none=>G
def nK{t:Tmp}{s:SV}(h:src ops its os need i t=F s)(K:Known ops i its os need μ a):a.eval (.tmp t)=s.at μ:=by
 unfold src at h;cases k:need.find? (λx=>x.1 == t) with
 | some x =>
  rw[k]at h;dsimp only at h;have h1:=xS k;have b:x.1=t:=by simpa using yBR k
  obtain⟨d,c,rfl⟩:=Yu.1 h;exact K.op t x.2 (by rw[<-b];exact h1) c
 | none =>
  rw[k]at h;dsimp only at h;cases ho:os.find? (λx=>x.1 == t) with
  | none=>rw[ho]at h;cases h
  | some x =>
   rw[ho]at h;dsimp only at h;have h1:=xS ho;have b:x.1=t:=by simpa using yBR ho
   cases hf:I2 ops its i t with
   | false=>rw[hf]at h;cases h
   | true =>
    rw[hf]at h;obtain rfl:x.2=s:=YR.inj h;exact K.old t x.2 (by rw[<-b];exact h1) hf
def sx{t:Tmp}{f:(I->I)->Yq}(h:∀μ:I->I,(src ops its os need i t).map (λs=>s.at μ)=F (f μ):=by intro _;kernel_rfl):∀(μ:I->I) (a:Act),Known ops i its os need μ a->a.eval (.tmp t)=f μ:=λμ _ K=>by
 let⟨s,hs,k⟩:=Yu.1 (h μ)
 rw[nK hs K];exact k
def ro(c:yu Y9)(b:H It)(d:H (Tmp × SV))(k:H (Tmp × I))(i:I)(μ:I->I):am->Yq
 | .tmp t=>match src c b d k i t with|some s=>s.at μ|none=>ae
 | .const v=>v
 | .global g=>jZ g
 | .func f=>.func (.func f) #[] #[]
def seen(c:yu Y9)(b:H It)(d:H (Tmp × SV))(k:H (Tmp × I))(i:I)(o:Y9):zk:=
 (match o.op with | .select _ _=>D|_=>J) && o.op.operands.all (λx=>match x with | .tmp t=>(src c b d k i t).isSome|_=>J)
def qF(h:seen ops its os need i o=J)(K:Known ops i its os need μ a):Za a.eval o=Za (ro ops its os need i μ) o:=by
 simp only[seen,YJ]at h;refine execOp_congr o (λcs b k=>?_) (λx hx=>?_)
 .rw[k]at h;exact absurd h.1 (by simp)
 have h1:=oT.1 h.2 x hx;cases x with
 | tmp t =>
  dsimp only at h1;let⟨s,hs⟩:=ZT.1 h1
  rw[nK hs K];show _=(match src ops its os need i t with|some s=>s.at μ|none=>ae);rw[hs]
 | const v=>rfl
 | global g=>rfl
 | func f=>rfl
def st(h:∀(μ:I->I) (w:Yp),((seen ops its os it.need i o,it.kind),(Za (ro ops its os it.need i μ) o).run P w)=((J,Kind.stay),.ok (.value (it.out.at μ)) w):=by intro _ _;kernel_rfl):Cert P Q w0 k0 X ops i its bl os o it:=by
 intro μ a w K d _ c;have k:=h μ w;simp only[ZV.injEq]at k;rw[k.1.2];intro b;rw[ZY,qF k.1.1 d,k.2];exact b
def se{v c:Yq}(e:c=v)(h:∀(μ:I->I) (w:Yp),((seen ops its os it.need i o,it.kind,it.out),(Za (ro ops its os it.need i μ) o).run P w)=((J,Kind.stay,SV.v v),.ok (.value c) w):=by intro _ _;kernel_rfl):Cert P Q w0 k0 X ops i its bl os o it:=by
 intro μ a w K f _ d;have k:=h μ w;simp only[ZV.injEq]at k;rw[k.1.2.1];intro b;rw[k.1.2.2]at b;rw[ZY,qF k.1.1 f,k.2,e];exact b
def mk(b:I)(T:YW)(h:∀(μ:I->I) (w:Yp),((seen ops its os it.need i o,it.kind),(Za (ro ops its os it.need i μ) o).run P w)=((J,Kind.make b),.ok (.value (it.out.at (upd μ b w.heap.size))) (w.alloc (.cells (((bl[b]?).map (·.before)).getD []).toArray T))):=by intro _ _;kernel_rfl):Cert P Q w0 k0 X ops i its bl os o it:=by
 intro μ a w K d _ c;have k:=h μ w;simp only[ZV.injEq]at k;rw[k.1.2];intro e g f;rw[ZY,qF k.1.1 d,k.2,g];exact f _ _ (Made.alloc w e.before T)
def clB{v:Yq}(h:∀(μ:I->I) (w:Yp),((seen ops its os it.need i o,it.kind,it.out),(Za (ro ops its os it.need i μ) o).run P w)=((J,Kind.call,SV.v v),.ok (.enter f args) w))
 (j:∀w,BelX k0 X w0 w->Zl P f args w (rZ w λe w'=>e=v)):Cert P Q w0 k0 X ops i its bl os o it:=by
 intro μ a w K d _ b;have k:=h μ w;simp only[ZV.injEq]at k;rw[k.1.2.1];intro c;rw[k.1.2.2]at c;rw[ZY,qF k.1.1 d,k.2,rl];refine(j w b).mono ?_;rintro e w' ⟨l,rfl,g,rfl⟩;exact c w' g
def cl{v:Yq}(k:∀w,Zl P f args w (rZ w λe w'=>e=v))(h:∀(μ:I->I) (w:Yp),((seen ops its os it.need i o,it.kind,it.out),(Za (ro ops its os it.need i μ) o).run P w)=((J,Kind.call,SV.v v),.ok (.enter f args) w):=by intro _ _;kernel_rfl):Cert P Q w0 k0 X ops i its bl os o it:=
 clB h (λw _=>k w)
def cm(b:I){c:H Yq}(v:∀w,BelX k0 X w0 w->Zl P f args w (Ret λe w'=>∃k,Made w k c w'/\e=it.out.at (λ_=>k)))
 (h:∀(μ:I->I) (w:Yp),((seen ops its os it.need i o,it.kind,(bl[b]?).map (·.before),it.out.blk),(Za (ro ops its os it.need i μ) o).run P w)=((J,Kind.make b,F c,F b),.ok (.enter f args) w)):Cert P Q w0 k0 X ops i its bl os o it:=by
 intro μ a w K p _ d;have j:=h μ w;simp only[ZV.injEq]at j;obtain⟨⟨h1,x,l,t⟩,m⟩:=j;rw[x];intro e u q;rw[u]at l;obtain rfl:e.before=c:=YR.inj l;rw[ZY,qF h1 p,m,rl];refine(v w d).mono ?_;rintro r w' ⟨y,rfl,k,n,rfl⟩;have s:it.out.at (upd μ b k)=it.out.at (λ_=>k):=SV.at_congr λz g=>by
  rw[t]at g;obtain rfl:=YR.inj g;rw[upd,yFU Z]
 have:=q k w' n;rw[s]at this;exact this
def De(k:yu Y9)(i:I)(o:Y9)(bl:H Bl)(b:I):zk:=match bl[b]? with
 | some e=>(match e.al with|none=>J|some j=>bZ o j) && readB k i e
 | none=>D
def Seen(bl:H Bl)(bs:H I)(μ:I->I)(w:Yp):Prop:=∀b∈bs,∀e:Bl,bl[b]? = F e->e.before≠[]->w.rangeAt (μ b) 0 e.before/\μ b<w.heap.size
def Pk(ho:ops[i]? = F o)(h:bs.all (De ops i o bl)=J)(hR:Reads ops i bl μ w):Seen bl bs μ w:=λb m e d c=>by
 have h1:=Zf.1 h b m;unfold De at h1;rw[d]at h1;dsimp only at h1;rw[YJ]at h1;have f:=hR b e d (by
  cases k:e.al with
  | none=>exact Y3 Z
  | some j=>rw[k]at h1;exact YZ ⟨o,j,ho,Z,h1.1⟩) h1.2
 refine⟨f,?_⟩;cases k:e.before with
 | nil=>exact absurd k c
 | cons x r =>
  have l:=f 0 x (by rw[k];rfl);exact Z1 λn=>by
   have g:w.heap[μ b]? = G:=uz oM;simp[pn,g]at l
def cr(bs:H I){args:(I->I)->yu Yq}{v:Yq}(n:∀(μ:I->I) (w:Yp),BelX k0 X w0 w->Seen bl bs μ w->Zl P f (args μ) w (rZ w λe w'=>e=v))
 (h:∀(μ:I->I) (w:Yp),((seen ops its os it.need i o,it.kind,it.out,bs.all (De ops i o bl),ops[i]?),(Za (ro ops its os it.need i μ) o).run P w)=((J,Kind.call,SV.v v,J,F o),.ok (.enter f (args μ)) w)):Cert P Q w0 k0 X ops i its bl os o it:=by
 intro μ a w K g hR k;have b:=h μ w;simp only[ZV.injEq]at b;obtain⟨⟨h1,q,m,j,p⟩,d⟩:=b;rw[q];intro c;rw[m]at c;rw[ZY,qF h1 g,d,rl];refine(n μ w k (Pk p j hR)).mono ?_;rintro e w' ⟨r,rfl,l,rfl⟩;exact c w' l
def ldv(k:yu Y9)(c:H It)(bl:H Bl)(d:H (Tmp × SV))(i:I)(o:Y9)(it:It)(T:YW)(n:I):zb SV:=
 match it.kind,o.op with
 | .stay,.load T' (.tmp t)=>match src k c d it.need i t with
  | some (.p b off)=>match bl[b]? with
   | some e=>bif T' == T && e.al.isNone && readB k i e && (off+n).ble e.before.length then F (.v (.agg ((e.before.drop off).take n).toArray)) else G
   | none=>G
  | _=>G
 | _,_=>G
def ld{T:YW}(g:(P.underlying T).map (·.isRow)=F J)(j:(P.info? T).map (·.size)=F n)(h:ldv ops its bl os i o it T n=F it.out:=by kernel_rfl):Cert P Q w0 k0 X ops i its bl os o it:=by
 unfold ldv at h;split at h
 .rename_i T' t hk ho
  split at h
  .rename_i b off hs
   split at h
   .rename_i e hb
    cases c:(T' == T && e.al.isNone && readB ops i e && (off+n).ble e.before.length) with
    | false=>rw[c]at h;cases h
    | true =>
     rw[c]at h;simp only[YJ,beq_iff_eq,zb.isNone_iff_eq_none,yFK]at c;obtain⟨⟨⟨rfl,d⟩,f⟩,l⟩:=c;have k:((e.before.drop off).take n).length=n:=by rw[sj,yCL];omega
     refine qL hk (off:=off) e hb d f ho (YR.inj h).symm (λ_ _ K=>nK hs K) ?_ g (by rw[k];exact j);rw[k]
   cases h
  cases h
 cases h
def ptv(c:yu Y9)(k:H It)(bl:H Bl)(d:H (Tmp × SV))(i:I)(o:Y9)(it:It)(T:YW)(n:I):zb (H Yq):=
 match it.kind,o.op,o.dst with
 | .put b,.store T' (.tmp x) (.tmp y),G=>match src c k d it.need i x,src c k d it.need i y with
  | some (.p b' off),F (.v (.agg vs))=>match bl[b]? with
   | some e=>bif T' == T && b' == b && vs.size == n && (off+n).ble e.before.length && vs.toList.all (·.oneCell') then F (rep e.before off vs.toList) else G
   | none=>G
  | _,_=>G
 | _,_,_=>G
def pt{T:YW}(m:(P.info? T).map (·.size)=F n)(h:((ptv ops its bl os i o it T n).isSome,ptv ops its bl os i o it T n)=(J,match it.kind with | .put b=>(bl[b]?).map (·.after)|_=>G):=by kernel_rfl):Cert P Q w0 k0 X ops i its bl os o it:=by
 simp only[ZV.injEq]at h;let⟨k,h⟩:=h
 rw[h]at k;unfold ptv at h;split at h
 .rename_i b T' x y hk ho hdn
  rw[hk]at h k;dsimp only at h k;cases g:bl[b]? with
  | none=>rw[g]at k;cases k
  | some e =>
   rw[g]at h;split at h
   .rename_i b' off vs hx hy
    dsimp only at h;cases f:(T' == T && b' == b && vs.size == n && (off+n).ble e.before.length && vs.toList.all (·.oneCell')) with
    | false=>rw[f]at h;cases h
    | true =>
     rw[f]at h;have p:F (rep e.before off vs.toList)=F e.after:=h;simp only[YJ,beq_iff_eq,yFK]at f;obtain⟨⟨⟨⟨rfl,rfl⟩,l⟩,d⟩,h1⟩:=f;have c:vs.toList.length=n:=by rw[yu.length_toList];exact l
     refine mU (off:=off) hk e g ho hdn (λ_ _ K=>nK hx K) (λ_ _ K=>?_) (by rw[c];exact d) (λj=>?_) (by rw[c];exact m) h1
     .rw[yu.toArray_toList];exact nK hy K
     rw[<-YR.inj p,rep_at (by rw[c];exact d)]
   cases h
 rw[<-h]at k;cases k
def aft(pu:H (I × I × H Yq))(b:I)(c:H Yq):H Yq:=match pu.find? (λx=>x.1 == b) with|some x=>x.2.2|none=>c
def sto(pu:H (I × I × H Yq))(b:I):zb I:=(pu.find? (λx=>x.1 == b)).map (·.2.1)
def olB(pu:H (I × I × H Yq)):I->H (H Yq)->H Bl
 | _,[]=>[]
 | b,c :: r=>⟨c,aft pu b c,G,sto pu b⟩ :: olB pu (b+1) r
def mkB(pu:H (I × I × H Yq)):I->H (I × H Yq)->H Bl
 | _,[]=>[]
 | b,c :: r=>⟨c.2,aft pu b c.2,F c.1,sto pu b⟩ :: mkB pu (b+1) r
def bls(cs:H (H Yq))(mk:H (I × H Yq))(pu:H (I × I × H Yq)):H Bl:=olB pu 0 cs++mkB pu cs.length mk
def tI(pu:H (I × I × H Yq)):∀(cs:H (H Yq)) (b:I),(olB pu b cs).length=cs.length
 | [],_=>rfl
 | c :: r,b=>by rw[olB,Y2,tI pu r,Y2]
def IL(pu:H (I × I × H Yq)):∀(cs:H (I × H Yq)) (b:I),(mkB pu b cs).length=cs.length
 | [],_=>rfl
 | c :: r,b=>by rw[mkB,Y2,IL pu r,Y2]
def zI(pu:H (I × I × H Yq)):∀(cs:H (H Yq)) (b:I),(olB pu b cs).map (·.before)=cs
 | [],_=>rfl
 | c :: r,b=>by rw[olB,pg,zI pu r]
def zR(pu:H (I × I × H Yq)):∀(cs:H (I × H Yq)) (b:I),(mkB pu b cs).map (·.before)=cs.map (·.2)
 | [],_=>rfl
 | c :: r,b=>by rw[mkB,pg,zR pu r,pg]
def IH{pu:H (I × I × H Yq)}:∀(cs:H (H Yq)) (b j:I) (e:Bl),(olB pu b cs)[j]? = F e->e.al=G/\e.after=aft pu (b+j) e.before/\e.st=sto pu (b+j)
 | [],_,_,_,h=>by simp[olB]at h
 | c :: r,b,0,e,h=>by
  rw[olB,YS]at h;obtain rfl:=YR.inj h;exact⟨Z,Z,Z⟩
 | c :: r,b,j+1,e,h=>by
  rw[olB,YP]at h;have:=IH r (b+1) j e h;rwa[show b+1+j=b+(j+1) by omega]at this
def IM(pu:H (I × I × H Yq)):∀(cs:H (I × H Yq)) (b j:I) (e:Bl),(mkB pu b cs)[j]? = F e->(∃x∈cs,e.al=F x.1)/\e.after=aft pu (b+j) e.before/\e.st=sto pu (b+j)
 | [],_,_,_,h=>by simp[mkB]at h
 | c :: r,b,0,e,h=>by
  rw[mkB,YS]at h;obtain rfl:=YR.inj h;exact⟨⟨c,Zm,Z⟩,Z,Z⟩
 | c :: r,b,j+1,e,h=>by
  rw[mkB,YP]at h;let⟨⟨x,hx,h1⟩,k⟩:=IM pu r (b+1) j e h
  refine⟨⟨x,Zd _ hx,h1⟩,?_⟩;rwa[show b+1+j=b+(j+1) by omega]at k
variable {cs cs':List (List Yq)}{mk:List (Nat × List Yq)}{pu:List (Nat × Nat × List Yq)}{ks:List Nat}
def Dh:(bls cs mk pu).length=cs.length+mk.length:=by rw[bls,Yx,tI,IL]
def AQ:(bls cs mk pu).map (·.before)=cs++mk.map (·.2):=by rw[bls,pe,zI,zR]
def xP{e:Bl}(h:(bls cs mk pu)[b]? = F e):e.after=aft pu b e.before/\e.st=sto pu b/\((b<cs.length/\e.al=G)\/(cs.length<=b/\∃x∈mk,e.al=F x.1)):=by
 unfold bls at h;by_cases k:b<cs.length
 .rw[Zc (by rw[tI];exact k)]at h;have:=IH cs 0 b e h;rw[Yv]at this;exact⟨this.2.1,this.2.2,Y3 ⟨k,this.1⟩⟩
 rw[Zx (by rw[tI];omega),tI]at h;have:=IM pu mk cs.length (b-cs.length) e h;rw[show cs.length+(b-cs.length)=b by omega]at this;exact⟨this.2.1,this.2.2,YZ ⟨oM,this.1⟩⟩
def BZ:nJ (bls cs mk pu) cs.length=J:=by
 simp only[nJ,YJ,decide_eq_true_eq];refine⟨Zf.2 λx hx=>?_,by rw[Dh];omega⟩;rw[yCj]at hx;rcases(xP hx).2.2 with⟨h1,k⟩|⟨h1,y,-,k⟩
 .rw[k];simp[h1]
 rw[k];simp;omega
def inB(m:I)(mk:H (I × H Yq))(pu:H (I × I × H Yq)):zk:=mk.all (λx=>x.1.blt m) && pu.all (λx=>x.2.1.blt m)
def Jj(h:inB its.length mk pu=J)(hl:pu.map (λx=>x.2.2.length)=pu.map (λx=>(((cs++mk.map (·.2))[x.1]?).getD []).length)):
 (∀e∈bls cs mk pu,∀j,e.al=F j\/e.st=F j->j<its.length)/\∀e∈bls cs mk pu,e.fin.length=e.before.length:=by
 simp only[inB,YJ]at h;refine⟨λe d j k=>?_,λe d=>?_⟩
 .let⟨b,c⟩:=rm d
  let⟨h1,g,i⟩:=xP c
  rcases k with k|k
  .rcases i with⟨-,f⟩|⟨-,x,hx,f⟩
   .rw[f]at k;cases k
   rw[f]at k;obtain rfl:=YR.inj k;have:=Zf.1 h.1 x hx;exact rn (Zh this)
  rw[g]at k;unfold sto at k;obtain⟨x,hx,rfl⟩:=Yu.1 k;have:=Zf.1 h.2 x (xS hx);exact rn (Zh this)
 let⟨b,c⟩:=rm d
 obtain⟨h1,g,-⟩:=xP c;rw[Bl.fin,g,h1];unfold sto aft;cases f:pu.find? (λx=>x.1 == b) with
 | none=>rfl
 | some x =>
  show x.2.2.length=_;have hx:x.1=b:=by simpa using yBR f
  have i:=yDd.1 hl x (xS f);rw[i,<-AQ (pu:=pu),hx,ZE,c];rfl
def lk(k:H It)(b:H (Tmp × SV))(t:Tmp):zb SV:=
 match k.find? (λit=>it.dst == F t) with
 | some it=>F it.out
 | none=>(b.find? (λx=>x.1 == t)).map (·.2)
structure M(w0:Yp)(k0:I)(X:H I)(n:I)(cs:H (H Yq))(ks:H I)(os:H (Tmp × SV))(a:Act)(w:Yp):Prop where
 st:St w0 k0 X cs ks w
 sl:Sl a n
 os:Olds a (ad ks) os
def All:I->(H I->Prop)->Prop
 | 0,f=>f []
 | n+1,f=>∀k:I,All n λl=>f (k :: l)
def All.get:∀ {n:I}{f:H I->Prop},All n f->∀l:H I,l.length=n->f l
 | 0,f,h,l,hl=>by rw[H.length_eq_zero_iff.1 hl];exact h
 | n+1,f,h,[],hl=>by simp at hl
 | n+1,f,h,k :: l,hl=>All.get (h k) l (by simpa using hl)
def QO{s:SV}{new:H I}(h:∀b,s.blk=F b->b<ks.length):s.at (ad (ks++new))=s.at (ad ks):=SV.at_congr λb k=>by
 unfold ad;rw[yAM,yAM,Zc (h b k)]
def Olds.mk':∀ {l:H (Tmp × SV)},(∀x∈l,a.tmps[x.1]? = F (x.2.at μ))->Olds a μ l
 | [],_=>trivial
 | x :: r,h=>⟨h x Zm,Olds.mk' λy k=>h y (Zd _ k)⟩
def M.next{os':H (Tmp × SV)}{new:H I}(h:M w0 k0 X n cs ks os a w)(k:allB ops its (bls cs mk pu) os n=J)(l:(os'.map λx=>lk its os x.1)=os'.map λx=>F x.2)
 (v:St w0 k0 X cs' (ks++new) w'):M w0 k0 X n cs' (ks++new) os' (puts (ad (ks++new)) its a) w':=by
 refine⟨v,h.sl.puts,Olds.mk' λx hx=>?_⟩;have h1:=yDd.1 l x hx;simp only[allB,YJ,beq_iff_eq]at k;obtain⟨⟨⟨⟨C,hd⟩,f⟩,i⟩,t⟩:=k;unfold lk at h1;cases hf:its.find? (λit=>it.dst == F x.1) with
 | some it =>
  rw[hf]at h1;have d:=xS hf;have c:it.dst=F x.1:=by simpa using yBR hf
  obtain⟨j,m⟩:=rm d;have g:=Zf.1 i it d;rw[c]at g;have:=uR (μ:=(ad (ks++new))) its a j it x.1 hd m c (by rw[h.sl.size];simpa using g);rw[this,<-YR.inj h1]
 | none =>
  rw[hf]at h1;obtain⟨y,r,p⟩:=Yu.1 h1;have d:=xS r;have m:y.1=x.1:=by simpa using yBR r
  have K:=h.os.get y.1 y.2 d;rw[mK _ its a x.1 (λit q o=>by
   have:=H.find?_eq_none.1 hf it q;rw[o]at this;simp at this),<-m,K,<-p]
  congr 1
  refine(QO λb A=>?_).symm;have c:=Zf.1 f y d;rw[A]at c;dsimp only at c;cases g:(bls cs mk pu)[b]? with
  | none=>rw[g]at c;cases c
  | some e =>
   rw[g]at c;rcases(xP g).2.2 with⟨u,-⟩|⟨-,z,-,s⟩
   .rw[h.st.len];exact u
   dsimp only at c;rw[s]at c;simp at c
def M.reg(h:M w0 k0 X n cs ks os a w)(k:allB ops its (bls cs mk pu) os n=J)(b:Certs P Q w0 k0 X ops its (bls cs mk pu) os 0 ops.toList its):Reg P ops Q w0 k0 X its (bls cs mk pu) os a (ad ks):=
 Reg.mk' (by rw[h.sl.size];exact k) h.os b
def EX:((bls cs mk pu).map (·.before)).take cs.length=cs:=by rw[AQ,H.take_left'];rfl
def M.tx{id:I}(h:M w0 k0 X n cs ks os a w)(k:H It)(mk:H (I × H Yq))(pu:H (I × I × H Yq))(b:H (H Yq))(os':H (Tmp × SV))
 (d:(allB ops k (bls cs mk pu) os n && inB k.length mk pu,(bls cs mk pu).map Bl.fin,os'.map λx=>lk k os x.1)=(J,b,os'.map λx=>F x.2))
 (hl:pu.map (λx=>x.2.2.length)=pu.map (λx=>(((cs++mk.map (·.2))[x.1]?).getD []).length))
 (j:Certs P Q w0 k0 X ops k (bls cs mk pu) os 0 ops.toList k)
 (e:All mk.length λnew=>∀c w',M w0 k0 X n b (ks++new) os' c w'->Q .normal c w'):(ZP id ops false).wp P Q a w:=by
 simp only[ZV.injEq,YJ]at d;let⟨⟨h1,l⟩,i,f⟩:=d
 refine region_text' h.st (h.reg h1 j) BZ EX (Jj l hl) λnew w' c g=>?_
 rw[Dh,tT]at c;exact e.get new c _ _ (h.next h1 f (i ▸ g))
def M.dr{id:I}(h:M w0 k0 X n cs ks os a w)(f:P.follows .mixedOrders=J)(k:H It)(mk:H (I × H Yq))(pu:H (I × I × H Yq))(b:H (H Yq))(os':H (Tmp × SV))
 (d:(allB ops k (bls cs mk pu) os n && inB k.length mk pu,(bls cs mk pu).map Bl.fin,os'.map λx=>lk k os x.1)=(J,b,os'.map λx=>F x.2))
 (hl:pu.map (λx=>x.2.2.length)=pu.map (λx=>(((cs++mk.map (·.2))[x.1]?).getD []).length))
 (l:Certs P Q w0 k0 X ops k (bls cs mk pu) os 0 ops.toList k)
 (e:All mk.length λnew=>∀c w',M w0 k0 X n b (ks++new) os' c w'->Q .normal c w'):(ZP id ops J).wp P Q a w:=by
 simp only[ZV.injEq,YJ]at d;let⟨⟨h1,m⟩,j,g⟩:=d
 refine region_draws' f h.st (h.reg h1 l) BZ EX (Jj m hl) λnew w' c i=>?_
 rw[Dh,tT]at c;exact e.get new c _ _ (h.next h1 g (j ▸ i))
def QK:(bls cs [] []).map Bl.fin=cs:=by
 have h:∀(cs:H (H Yq)) (b:I),(olB [] b cs).map Bl.fin=cs:=λcs=>by
  induction cs with
  | nil=>intro _;rfl
  | cons c r ih=>intro b;rw[olB,pg,ih];rfl
 rw[bls,pe,h];exact po _
def M.tx0{id:I}(h:M w0 k0 X n cs ks os a w)(k:H It)(os':H (Tmp × SV))(c:(allB ops k (bls cs [] []) os n,os'.map λx=>lk k os x.1)=(J,os'.map λx=>F x.2))
 (e:Certs P Q w0 k0 X ops k (bls cs [] []) os 0 ops.toList k) (d:∀b w',M w0 k0 X n cs ks os' b w'->Q .normal b w'):(ZP id ops false).wp P Q a w:=by
 simp only[ZV.injEq]at c;refine h.tx k [] [] cs os' (by simp only[c.1,c.2,QK];rfl) Z e (λb w' f=>d b w' ?_);rwa[po]at f
def M.t{id:I}(h:M w0 k0 X n cs ks os a w)(k:H It)(mk:H (I × H Yq))(pu:H (I × I × H Yq))(b:H (H Yq))(os':H (Tmp × SV))(e:Certs P Q w0 k0 X ops k (bls cs mk pu) os 0 ops.toList k)(d:All mk.length λnew=>∀c w',M w0 k0 X n b (ks++new) os' c w'->Q .normal c w')(f:(allB ops k (bls cs mk pu) os n && inB k.length mk pu,(bls cs mk pu).map Bl.fin,os'.map λx=>lk k os x.1)=(J,b,os'.map λx=>F x.2):=by kernel_rfl)(hl:pu.map (λx=>x.2.2.length)=pu.map (λx=>(((cs++mk.map (·.2))[x.1]?).getD []).length):=by kernel_rfl):(ZP id ops false).wp P Q a w:=h.tx k mk pu b os' f hl e d
def M.d{id:I}(h:M w0 k0 X n cs ks os a w)(k:H It)(mk:H (I × H Yq))(pu:H (I × I × H Yq))(b:H (H Yq))(os':H (Tmp × SV))(e:Certs P Q w0 k0 X ops k (bls cs mk pu) os 0 ops.toList k)(d:All mk.length λnew=>∀c w',M w0 k0 X n b (ks++new) os' c w'->Q .normal c w')(f:(allB ops k (bls cs mk pu) os n && inB k.length mk pu,(bls cs mk pu).map Bl.fin,os'.map λx=>lk k os x.1)=(J,b,os'.map λx=>F x.2):=by kernel_rfl)(hl:pu.map (λx=>x.2.2.length)=pu.map (λx=>(((cs++mk.map (·.2))[x.1]?).getD []).length):=by kernel_rfl)(g:P.follows .mixedOrders=J:=by kernel_rfl):(ZP id ops J).wp P Q a w:=h.dr g k mk pu b os' f hl e d
def M.u{id:I}(h:M w0 k0 X n cs ks os a w)(k:H It)(os':H (Tmp × SV))(e:Certs P Q w0 k0 X ops k (bls cs [] []) os 0 ops.toList k)(d:∀b w',M w0 k0 X n cs ks os' b w'->Q .normal b w')(c:(allB ops k (bls cs [] []) os n,os'.map λx=>lk k os x.1)=(J,os'.map λx=>F x.2):=by kernel_rfl):(ZP id ops false).wp P Q a w:=h.tx0 k os' c e d
def M.at(h:M w0 k0 X n cs ks os a w){t:Tmp}{s:SV}(hs:(os.find? (λx=>x.1 == t)).map (·.2)=F s:=by kernel_rfl):a.tmps[t]? = F (s.at (ad ks)):=by
 obtain⟨y,b,rfl⟩:=Yu.1 hs;have k:y.1=t:=by simpa using yBR b
 rw[<-k];exact h.os.get y.1 y.2 (xS b)
def St.made(h:St w w.heap.size [] cs ks w'){c:H Yq}(f:cs[b]? = F c):Made w (ad ks b) c w':=by
 let⟨h1,e,k,d⟩:=h.has b c f
 exact⟨h.bel.below,d.elim id (λh=>absurd h YI),k,h1,e⟩
def M.av(h:M w0 k0 X n cs ks os a w){t:Tmp}{v:Yq}(hs:(os.find? (λx=>x.1 == t)).map (·.2)=F (.v v):=by kernel_rfl):a.tmps[t]? = F v:=h.at hs
def M.ev(h:M w0 k0 X n cs ks os a w){t:Tmp}{v:Yq}(hs:(os.find? (λx=>x.1 == t)).map (·.2)=F (.v v):=by kernel_rfl):a.eval (.tmp t)=v:=CX (h.at hs)
def M.enter{c:Code}(k:H (Tmp × SV))(n:I)(h:(k.map λx=>a.tmps[x.1]?,a.tmps.size,a.defers)=(k.map λx=>F (x.2.at (ad [])),n,[]))(b:∀a,M w w.heap.size [] n [] [] k a w->c.wp P Q a w):c.wp P Q a w:=by
 simp only[ZV.injEq]at h;exact b a ⟨St.begin w,⟨h.2.1,h.2.2⟩,Olds.mk' λx hx=>yDd.1 h.1 x hx⟩
def M.drop{i:Yp}{f:H (Tmp × SV)}(h:M i j X n (cs++cs2) (ks++ks2) f a w)(hl:ks.length=cs.length)
 (ho:f.all (λx=>match x.2.blk with|none=>J|some b=>b.blt cs.length)=J):M i j X n cs ks f a w:=by
 have k:∀b,b<cs.length->ad (ks++ks2) b=ad ks b:=λb d=>by
  unfold ad;rw[yAM,yAM,Zc oM]
 refine⟨⟨h.st.bel,h.st.le,hl,λb c d=>?_,λb c d l g=>?_⟩,h.sl,Olds.mk' λx hx=>?_⟩
 .have e:=(YF.1 d).1;have:=h.st.has b c (by rw[Zc e];exact d);rwa[k b e]at this
 .have:=h.st.inj b c (by rw[Yx];omega) (by rw[Yx];omega) g;rwa[k b d,k c l]at this
 rw[h.os.get x.1 x.2 hx]
 congr 1
 refine SV.at_congr λb d=>?_
 have h1:=Zf.1 ho x hx;rw[d]at h1;exact k b (rn (Zh h1))
abbrev z(n:I):H Yq:=H.replicate n (uZ 0)
def It.s(d:Tmp)(k:H (Tmp × I))(b:SV):It:=⟨F d,k,b,.stay⟩
def It.x(d:Tmp)(k:H (Tmp × I))(v:Yq):It:=⟨F d,k,.v v,.stay⟩
def It.c(d:Tmp)(k:H (Tmp × I))(v:Yq):It:=⟨F d,k,.v v,.call⟩
def It.m(d:Tmp)(k:H (Tmp × I))(b:I):It:=⟨F d,k,.p b 0,.make b⟩
def It.u(k:H (Tmp × I))(b:I):It:=⟨G,k,.v ae,.put b⟩
end RG
namespace RG
variable {P:Zw}{ops:Array Y9}{Q:an->Act->Yp->Prop}{w0 w:Yp}{k0 n:Nat}{X ks:List Nat}{cs:List (List Yq)}{os:List (Tmp × SV)}{a:Act}
inductive Hh where
 | x (v:Yq)
 | c (v:Yq)
 | s (v:SV)
 | m (b:I)
 | u (b:I)
def nd(k:yu Y9)(i:I):H (Tmp × I):=
 match k[i]? with
 | none=>[]
 | some o=>o.op.operands.toList.filterMap λx=>match x with
  | .tmp t=>((ZD i).find? λj=>match k[j]? with|some p=>p.dst == F t && bZ o j|none=>D).map λj=>(t,j)
  | _=>G
def dt(k:yu Y9)(i:I):zb Tmp:=(k[i]?).bind (·.dst)
def Hh.it(k:yu Y9)(i:I):Hh->It
 | .x v=>⟨dt k i,nd k i,.v v,.stay⟩
 | .c v=>⟨dt k i,nd k i,.v v,.call⟩
 | .s v=>⟨dt k i,nd k i,v,.stay⟩
 | .m b=>⟨dt k i,nd k i,.p b 0,.make b⟩
 | .u b=>⟨G,nd k i,.v ae,.put b⟩
def mkL(k:yu Y9):I->H Hh->H It
 | _,[]=>[]
 | i,h :: r=>h.it k i :: mkL k (i+1) r
def kps(k:H It)(b:H (Tmp × SV))(l:H Tmp):H (Tmp × SV):=l.filterMap λt=>(lk k b t).map λs=>(t,s)
def M.U{id:I}(h:M w0 k0 X n cs ks os a w)(hs:H Hh)(k:H Tmp)(e:Certs P Q w0 k0 X ops (mkL ops 0 hs) (bls cs [] []) os 0 ops.toList (mkL ops 0 hs))(d:∀b w',M w0 k0 X n cs ks (kps (mkL ops 0 hs) os k) b w'->Q .normal b w')(c:(allB ops (mkL ops 0 hs) (bls cs [] []) os n,(kps (mkL ops 0 hs) os k).map λx=>lk (mkL ops 0 hs) os x.1)=(J,(kps (mkL ops 0 hs) os k).map λx=>F x.2):=by kernel_rfl):(ZP id ops false).wp P Q a w:=h.u _ _ e d c
def M.T{id:I}{k:H (H Yq)}(h:M w0 k0 X n cs ks os a w)(hs:H Hh)(mk:H (I × H Yq))(pu:H (I × I × H Yq))(b:H Tmp)(g:Certs P Q w0 k0 X ops (mkL ops 0 hs) (bls cs mk pu) os 0 ops.toList (mkL ops 0 hs))(f:All mk.length λnew=>∀c w',M w0 k0 X n k (ks++new) (kps (mkL ops 0 hs) os b) c w'->Q .normal c w')(e:pu.foldl (λl x=>l.set x.1 x.2.2) (cs++mk.map (·.2))=k:=by(simp only[pg,xo,yDE,yE4,Yy,Yz,ZI,ZQ,po])<;>rfl)(d:(allB ops (mkL ops 0 hs) (bls cs mk pu) os n && inB (mkL ops 0 hs).length mk pu,(bls cs mk pu).map Bl.fin,(kps (mkL ops 0 hs) os b).map λx=>lk (mkL ops 0 hs) os x.1)=(J,k,(kps (mkL ops 0 hs) os b).map λx=>F x.2):=by kernel_rfl)(hl:pu.map (λx=>x.2.2.length)=pu.map (λx=>(((cs++mk.map (·.2))[x.1]?).getD []).length):=by kernel_rfl):(ZP id ops false).wp P Q a w:=h.t _ mk pu k _ g f d hl
def M.D{id:I}{k:H (H Yq)}(h:M w0 k0 X n cs ks os a w)(hs:H Hh)(mk:H (I × H Yq))(pu:H (I × I × H Yq))(b:H Tmp)(g:Certs P Q w0 k0 X ops (mkL ops 0 hs) (bls cs mk pu) os 0 ops.toList (mkL ops 0 hs))(f:All mk.length λnew=>∀c w',M w0 k0 X n k (ks++new) (kps (mkL ops 0 hs) os b) c w'->Q .normal c w')(e:pu.foldl (λl x=>l.set x.1 x.2.2) (cs++mk.map (·.2))=k:=by(simp only[pg,xo,yDE,yE4,Yy,Yz,ZI,ZQ,po])<;>rfl)(d:(allB ops (mkL ops 0 hs) (bls cs mk pu) os n && inB (mkL ops 0 hs).length mk pu,(bls cs mk pu).map Bl.fin,(kps (mkL ops 0 hs) os b).map λx=>lk (mkL ops 0 hs) os x.1)=(J,k,(kps (mkL ops 0 hs) os b).map λx=>F x.2):=by kernel_rfl)(hl:pu.map (λx=>x.2.2.length)=pu.map (λx=>(((cs++mk.map (·.2))[x.1]?).getD []).length):=by kernel_rfl)(i:P.follows .mixedOrders=J:=by kernel_rfl):(ZP id ops J).wp P Q a w:=h.d _ mk pu k _ g f d hl i
def M.rr{k:Func}{t:Tmp}{T:YW}{c:H Yq}{v:Yq}(h:M w0 w0.heap.size [] n cs ks os a w)(b:I)(d:cs[b]? = F c)(f:(P.underlying T).map (·.isRow)=F J)(g:(P.info? T).map (·.size)=F c.length)(hf:k.results=#[.cell t T]:=by rfl)(i:(os.find? (λx=>x.1 == t)).map (·.2)=F (.p b 0):=by kernel_rfl)(hv:.agg c.toArray=v:=by subst_vars;rfl):bodyPost P k (rZ w0 λe w'=>e=v) .ret a w:=
 hv ▸ YB (fM h.st hf d (h.at i) f g) h.sl.defers ⟨_,Z,h.st.bel.below,Z⟩
def M.rt{k:Func}{t:Tmp}{v:Yq}(h:M w0 w0.heap.size [] n cs ks os a w)(hf:k.results=#[.tmp t]:=by rfl)(b:(os.find? (λx=>x.1 == t)).map (·.2)=F (.v v):=by kernel_rfl):bodyPost P k (rZ w0 λe w'=>e=v) .ret a w:=
 YB (lN hf (h.at b)) h.sl.defers ⟨_,Z,h.st.bel.below,Z⟩
def M.r2{k:Func}{t u:Tmp}{T:YW}{c:H Yq}{v V:Yq}(h:M w0 w0.heap.size [] n cs ks os a w)(b:I)(g:cs[b]? = F c)(d:(P.underlying T).map (·.isRow)=F J)(j:(P.info? T).map (·.size)=F c.length)(hf:k.results=#[.cell t T,.tmp u]:=by rfl)(hv:.tuple #[.agg c.toArray,v]=V:=by subst_vars;rfl)(f:(os.find? (λx=>x.1 == t)).map (·.2)=F (.p b 0):=by kernel_rfl)(i:(os.find? (λx=>x.1 == u)).map (·.2)=F (.v v):=by kernel_rfl):bodyPost P k (rZ w0 λe w'=>e=V) .ret a w:=
 hv ▸ YB (rK h.st hf g (h.at f) (h.at i) d j) h.sl.defers ⟨_,Z,h.st.bel.below,Z⟩
end RG
namespace RG
def M.cv{d:Yp}{f:I}{k:H I}{b:H (H Yq)}{c os':H (Tmp × SV)}(h:M d f X n cs ks c a w)(e:(cs,ks,c)=(b,k,os'):=by kernel_rfl):M d f X n b k os' a w:=by
 cases e
 exact h
end RG
namespace NT
def IsP(n:I):Prop:=2<=n/\∀m,m ∣ n->m=1\/m=n
def IsP.cop{p:I}(h:IsP p)(b:0<k)(c:k<p):yDu p k:=by
 unfold yDu;rcases h.2 _ (yDs p k)with e|e
 .exact e
 have:=xV b (yDi p k);omega
def IsP.cop_of{p:I}(h:IsP p)(b:¬p ∣ k):yDu p k:=by
 unfold yDu;rcases h.2 _ (yDs p k)with e|e
 .exact e
 exact absurd (e ▸ yDi p k) b
def IsP.euclid{p a:I}(h:IsP p)(hd:p ∣ a*b):p ∣ a\/p ∣ b:=by
 by_cases k:p ∣ a
 .exact Y3 k
 exact YZ ((h.cop_of k).dvd_of_dvd_mul_left hd)
/-! the binomials -/
def ch: I -> I -> I
  | _, 0 => 1
  | 0, _ + 1 => 0
  | n + 1, k + 1 => ch n k + ch n (k + 1)
def tX(n:I):ch n 0=1:=by cases n<;>rfl
def tY:∀(n k:I),n<k->ch n k=0
 | 0,k+1,_=>rfl
 | n+1,k+1,h=>by
  rw[ch,tY n k oM,tY n (k+1) oM]
def Jd:∀(n:I),ch n n=1
 | 0=>rfl
 | n+1=>by rw[ch,Jd n,tY n (n+1) oM]
def xK:∀(n k:I),(k+1)*ch (n+1) (k+1)=(n+1)*ch n k
 | 0,0=>rfl
 | 0,k+1=>by simp[ch]
 | n+1,0=>by
  have h:=xK n 0;have e:ch (n+1+1) (0+1)=ch (n+1) 0+ch (n+1) (0+1):=rfl;rw[tX]at h;rw[e,tX];omega
 | n+1,k+1=>by
  have b:=xK n (k+1);have e:ch (n+1+1) (k+1+1)=ch (n+1) (k+1)+ch (n+1) (k+1+1):=rfl;have e3:ch (n+1) (k+1)=ch n k+ch n (k+1):=rfl;rw[e,pi,b];have:(k+1+1)*ch (n+1) (k+1)=(n+1)*ch n k+ch (n+1) (k+1):=by
   rw[<-(xK n k),ph (k+1) 1,px]
  rw[this,e3,ph (n+1) 1,px,pi];omega
def sumTo:I->(I->I)->I
 | 0,_=>0
 | n+1,f=>sumTo n f+f n
def sumTo_congr(f g:I->I):∀n,(∀k,k<n->f k=g k)->sumTo n f=sumTo n g
 | 0,_=>rfl
 | n+1,h=>by
  rw[sumTo,sumTo,sumTo_congr f g n (λk b=>h k oM),h n oM]
def Bq(f g:I->I):∀n,sumTo n (λk=>f k+g k)=sumTo n f+sumTo n g
 | 0=>rfl
 | n+1=>by simp only[sumTo];rw[Bq f g n];omega
def Bn(a:I)(f:I->I):∀n,sumTo n (λk=>a*f k)=a*sumTo n f
 | 0=>rfl
 | n+1=>by simp only[sumTo];rw[Bn a f n,pi]
def kT{f:I->I}:∀n,sumTo (n+1) f=f 0+sumTo n (λk=>f (k+1))
 | 0=>by simp[sumTo]
 | n+1=>by rw[sumTo,kT (f:=f) n];simp only[sumTo];omega
def Bp{p:I}{f:I->I}:∀n,(∀k,k<n->p ∣ f k)->p ∣ sumTo n f
 | 0,_=>I.dvd_zero p
 | n+1,h=>I.dvd_add (Bp n (λk b=>h k oM)) (h n oM)
def Sf(a:I):∀n,(a+1)^n=sumTo (n+1) (λk=>ch n k*a^k)
 | 0=>by simp[sumTo,ch]
 | n+1=>by
  rw[Z5,Sf a n,pi,ay];rw[kT (f:=(λk=>ch (n+1) k*a^k)) (n+1)];have e:sumTo (n+1) (λk=>ch (n+1) (k+1)*a^(k+1))
   = sumTo (n+1) (λk=>a*(ch n k*a^k))+sumTo (n+1) (λk=>ch n (k+1)*a^(k+1)):=by
   rw[<-Bq];refine sumTo_congr _ _ _ ?_;intro k _;show(ch n k+ch n (k+1))*a^(k+1)=_;rw[ph,Z5];have:ch n k*(a^k*a)=a*(ch n k*a^k):=by
    rw[Ze a,kI]
   rw[this]
  rw[e,Bn];have c:sumTo (n+1) (λk=>ch n k*a^k)
   = ch n 0*a^0+sumTo n (λk=>ch n (k+1)*a^(k+1)):=kT n
  have e3:sumTo (n+1) (λk=>ch n (k+1)*a^(k+1))=sumTo n (λk=>ch n (k+1)*a^(k+1)):=by
   rw[sumTo,tY n (n+1) oM,yFn,ao]
  have b:ch (n+1) 0*a^0=ch n 0*a^0:=by rw[tX,tX]
  rw[e3,b,Ze _ a];omega
def IsP.ch_dvd{p:I}(h:IsP p)(b:k+1<p):p ∣ ch p (k+1):=by
 obtain⟨n,rfl⟩:∃n,p=n+1:=⟨p-1,oN h.1⟩
 exact(h.cop oM b).dvd_of_dvd_mul_left ((xK n k) ▸ I.dvd_mul_right _ _)
def IsP.frob{p:I}(h:IsP p)(a:I):(a+1)^p%p=(a^p+1)%p:=by
 obtain⟨n,rfl⟩:∃n,p=n+1:=⟨p-1,oN h.1⟩
 rw[Sf,sumTo,kT,Jd,tX];let⟨c,b⟩:(n+1) ∣ sumTo n (λk=>ch (n+1) (k+1)*a^(k+1)):=
  Bp _ (λk d=>I.dvd_mul_right_of_dvd (h.ch_dvd oM) _)
 rw[b];have:1*a^0+(n+1)*c+1*a^(n+1)=(a^(n+1)+1)+(n+1)*c:=by
  rw[gF];omega
 rw[this,yCy]
def IsP.fermat{p:I}(h:IsP p):∀a,a^p%p=a%p
 | 0=>by
  rw[yFm (oN h.1)]
 | a+1=>by
  rw[h.frob,rh,h.fermat a,<-rh]
def IsP.cancel{p a x:I}(h:IsP p)(b:¬p ∣ a)(e:a*x%p=a*y%p):x%p=y%p:=by
 have key:∀x y,y<=x->a*x%p=a*y%p->x%p=y%p:=by
  intro x y k e;have h1:=yBu (I.sub_mod_eq_zero_of_mod_eq e);rw[<-I.mul_sub]at h1;let⟨c,d⟩:=(h.cop_of b).dvd_of_dvd_mul_left h1
  have:x=y+p*c:=oM;rw[this,yCy]
 rcases yFr y x with k|k
 .exact key x y k e
 exact(key y x k e.symm).symm
def IsP.fermat1{p:I}(h:IsP p)(a:I)(k:¬p ∣ a):a^(p-1)%p=1:=by
 obtain⟨n,rfl⟩:∃n,p=n+1:=⟨p-1,oN h.1⟩
 have e:=h.fermat a;rw[Z5,Ze]at e;have:=h.cancel k (x:=a^n) (y:=1) (by rw[e,ay]);rw[I.add_sub_cancel,this,YL h.1]
/-! powers that are 1 -/
def PO(hr : 1<r)(x y : I): b^x%r=1 -> b^y%r=1 -> b^(yEC x y)%r=1:=by
  induction x, y using yEC.induction with
  | H0 n => intro _ h; rw[I.gcd_zero_left]; exact h
  | H1 m n hm ih =>
    intro h1 h2;rw[I.gcd_rec];refine ih ?_ h1;have e : b^n=(b^m)^(n/m) * b^(n%m):=by
      rw[<-ye, <-ox, I.div_add_mod]
    rw[e, mi, yEb, h1, I.one_pow, YL hr, px, yFC]at h2;exact h2
def tW:∀n,2<=n->∃r,IsP r/\r ∣ n/\(IsP n\/r*r<=n):=by
 intro n;induction n using yEV with
 | _ n ih =>
  intro o;by_cases g:IsP n
  .exact⟨n,g,I.dvd_refl n,Y3 g⟩
  have:∃m,m ∣ n/\m≠1/\m≠n:=by
   refine Z1 λd=>g ⟨o,λm c=>?_⟩
   refine Z1 λb=>d ⟨m,c,λe=>b (Y3 e),λe=>b (YZ e)⟩
  let⟨m,⟨k,d⟩,h1,t⟩:=this
  have s:m≠0:=by intro e;rw[e,yFn]at d;omega
  have q:k≠0:=by intro e;rw[e,I.mul_zero]at d;omega
  have p:k≠1:=by intro e;rw[e,ay]at d;omega
  have i:m<n:=by
   have:=xV oM (⟨k,d⟩:m ∣ n);omega
  have j:k<n:=by
   have:=I.mul_le_mul_right k (show 2<=m by omega);omega
  rcases yFr m k with f|f
  .let⟨r,l,c,_⟩:=ih m i oM
   have b:=xV oM c;refine⟨r,l,yC4 c ⟨k,d⟩,YZ ?_⟩;rw[d];exact lp b (YA b f)
  let⟨r,l,c,_⟩:=ih k j oM
  have b:=xV oM c;refine⟨r,l,yC4 c ⟨m,by rw[d,Ze]⟩,YZ ?_⟩;rw[d];exact lp (YA b f) b
/-! what of a prime of n - 1 goes into the primes of n -/
def part{q a:I}(hq : IsP q)(hr : IsP r)(hrn : r ∣ n)(hn : 1<n)
    (h1 : a^(n-1)%n=1) (hd : q ∣ n-1) (h2 : yEC (a^((n-1)/q)%n + (n-1)) n=1) : q ∣ r-1:=by
  have hr2:=hr.1;have toR : ∀x y, x%n=y%n -> x%r=y%r:=by
    intro x y e;rw[<-yC9 x hrn, e, yC9 y hrn]
  have hm : a^(n-1)%r=1:=by
    have:=toR (a^(n-1)) 1 (by rw[h1, YL hn]);rw[this, YL hr2]
  have hra : ¬r ∣ a:=by
    intro hc;have hz : a^(n-1)%r=0:=yB6 (yC4 hc (by
      have : a^1 ∣ a^(n-1):=yEW a oM;rwa[yCz]at this))
    omega
  have hb : (a^((n-1)/q))^q%r=1:=by
    rw[<-ye, I.div_mul_cancel hd]; exact hm
  have hbr : ¬r ∣ a^((n-1)/q):=by
    intro hc;have : r ∣ (a^((n-1)/q))^q:=yC4 hc (by
      have : (a^((n-1)/q))^1 ∣ (a^((n-1)/q))^q:=yEW _ (by have:=hq.1; omega);rwa[yCz]at this)
    have:=yB6 this;omega
  have hg:=PO hr2 q (r-1) hb (hr.fermat1 _ hbr);rcases hq.2 _ (yDs q (r-1))with e|e
  · rw[e, yCz]at hg
    exfalso;have hx : r ∣ a^((n-1)/q)%n + (n-1):=by
      refine yBu ?_;have e1 : (a^((n-1)/q)%n)%r=1:=by rw[yC9 _ hrn]; exact hg
      have e2 : (n-1 + 1)%r=0:=by
        rw[I.sub_add_cancel oM]; exact yB6 hrn
      have : (a^((n-1)/q)%n + (n-1))%r=(1 + (n-1))%r:=by
        rw[rh, e1, rh 1 (n-1), YL hr2]
      rw[this, I.add_comm, e2]
    have:=I.dvd_gcd hx hrn;rw[h2]at this;have:=xV oM this;omega
  rw[<-e]; exact yDi _ _
def Ee{f:I}(e:1<n)(hf:n<(f+1)*(f+1))
 (k:∀r,IsP r->r ∣ n->f ∣ r-1):IsP n:=by
 obtain⟨r,b,c,h|h⟩:=tW n e
 .exact h
 have:=xV (oN b.1) (k r b c);have d:f+1<=r:=oN b.1;have:=lp d d;omega
/-! trial -/
def trial(n : I): I -> I -> zk
  | 0, _ => J
  | k + 1, d => (n%d != 0) && trial n k (d + 1)
def Dw{n:I}:∀k d,trial n k d=J->∀m,d<=m->m<d+k->¬m ∣ n
 | 0,_,_,m,_,_=>oM
 | k+1,d,h,m,h1,h2=>by
  simp only[trial,YJ,bne_iff_ne,ne_eq]at h;rcases iB d m with b|c
  .exact Dw k (d+1) h.2 m b oM
  have:m=d:=oM;subst this;intro hd;exact h.1 (yB6 hd)
def small(e:2<=n)(g:trial n k 2=J)(i:n<(k+2)*(k+2)):IsP n:=by
 obtain⟨r,d,b,h|h⟩:=tW n e
 .exact h
 have f:=d.1;have c:r<2+k:=by
  refine Z1 λj=>?_
  have:=lp (show k+2<=r by omega) (show k+2<=r by omega);omega
 exact absurd b (Dw k 2 g r f c)
/-! powers, reckoned -/
def pm(n : I): I -> I -> I -> I -> I
  | 0, _, _, acc => acc
  | k + 1, a, e, acc => pm n k (a * a%n) (e/2) (if e%2=1 then acc * a%n else acc)
def IC(n:I):∀k a e b,e<2^k->b<n->pm n k a e b=b*a^e%n
 | 0,a,e,b,h,ha=>by
  have:e=0:=by simpa using h
  subst this;rw[pm,gF,ay,YL ha]
 | k+1,a,e,b,h,ha=>by
  have c:(if e%2=1 then b*a%n else b)<n:=by
   split
   .exact ZL _ oM
   exact ha
  rw[pm,IC n k _ _ _ (by rw[Z5]at h;omega) c];have d:∀y,y*(a*a%n)^(e/2)%n=y*(a*a)^(e/2)%n:=by
   intro y;rw[mi,<-yEb,<-mi]
  rw[d];have f:a^e=a^(e%2)*(a*a)^(e/2):=by
   have:(a*a)=a^2:=by rw[Z5,yCz]
   rw[this,<-ye,<-ox,I.mod_add_div]
  rw[f];split
  .rename_i h1
   rw[h1,yCz,mi,yFC,<-mi,kI]
  rename_i h1
  have:e%2=0:=oM;rw[this,gF,px]
def part'{q a:I}(f:IsP q)(e:IsP r)(c:r ∣ n)(b:1<n)(g:n<2^k)
 (h1:pm n k a (n-1) 1=1) (hd:(n-1)%q=0) (d:yEC (pm n k a ((n-1)/q) 1+(n-1)) n=1):q ∣ r-1:=by
 rw[IC n k a (n-1) 1 oM b,px]at h1;rw[IC n k a _ 1 (I.lt_of_le_of_lt (I.div_le_self _ _) oM) b,px]at d;exact part f e c b h1 (yBu hd) d
/-! the two primes -/
def x21: IsP 1627771:=small (k:=1275) dC dK dC
def x30:IsP 545358713:=small (k:=23352) dC dK dC
def x26:IsP 44706919:=small (k:=6686) dC dK dC
def x17:IsP 120233:=small (k:=346) dC dK dC
def x27:IsP 107590001:=small (k:=10372) dC dK dC
def x23:IsP 7240687:=small (k:=2690) dC dK dC
def x16:IsP 96557:=small (k:=310) dC dK dC
def x39:IsP 297159362677:=
 Ee (f:=1627771) dC dK (λr b hd=>part' (k:=39) (a:=2) x21 b hd dC dK dK dK dK)
def c95:IsP 29047611873442575647497758179:=
 Ee (f:=(545358713*297159362677)) dC dK (λr b hd=>yAB dK (part' (k:=95) (a:=2) x30 b hd dC dK dK dK dK) (part' (k:=95) (a:=2) x39 b hd dC dK dK dK dK))
def b68:IsP 174723607534414371449:=
 Ee (f:=(44706919*120233)) dC dK (λr b hd=>yAB dK (part' (k:=68) (a:=2) x26 b hd dC dK dK dK dK) (part' (k:=68) (a:=2) x17 b hd dC dK dK dK dK))
def c109:IsP 341948486974166000522343609283189:=
 Ee (f:=29047611873442575647497758179) dC dK (λr b hd=>part' (k:=109) (a:=2) c95 b hd dC dK dK dK dK)
def pN:IsP 115792089237316195423570985008687907852837564279074904382605163141518161494337:=
 Ee (f:=(174723607534414371449*341948486974166000522343609283189)) dC dK (λr b hd=>yAB dK (part' (k:=256) (a:=2) b68 b hd dC dK dK dK dK) (part' (k:=256) (a:=2) c109 b hd dC dK dK dK dK))
def e128:IsP 255515944373312847190720520512484175977:=
 Ee (f:=(107590001*7240687*96557)) dC dK (λr b hd=>yAB dK (yAB dK (part' (k:=128) (a:=2) x27 b hd dC dK dK dK dK) (part' (k:=128) (a:=2) x23 b hd dC dK dK dK dK)) (part' (k:=128) (a:=2) x16 b hd dC dK dK dK dK))
def XC:IsP 205115282021455665897114700593932402728804164701536103180137503955397371:=
 Ee (f:=255515944373312847190720520512484175977) dC dK (λr b hd=>part' (k:=237) (a:=2) e128 b hd dC dK dK dK dK)
def pP:IsP 115792089237316195423570985008687907853269984665640564039457584007908834671663:=
 Ee (f:=205115282021455665897114700593932402728804164701536103180137503955397371) dC dK (λr b hd=>part' (k:=256) (a:=2) XC b hd dC dK dK dK dK)
end NT
namespace EC
structure Line{P:I}[NeZero P](x1 y1 x2 y2 l:B P):Prop where
 go:y2=y1+l*(x2-x1)
 on:l*(y1+y2)=x1^2+x1*x2+x2^2
variable {P:Nat}[NeZero P]
def Ei{k b d f l c g:B P}(h1:b^2=k^3+7)(j:f^2=d^3+7)(hl:Line k b d f l)(hx:c=l^2-k-d)(i:g=l*(k-c)-b):g^2=c^3+7:=by
 let⟨e,h⟩:=hl
 subst i hx e
 grobner
def QR(k g e b l1 l2 f j d i c l:B P)(q:Line k g e f l1)(p:Line e f b j l2)
 (n:d=l1^2-k-e) (o:i=l1*(k-d)-g) (r:c=l2^2-e-b) (s:l=l2*(e-c)-f) :
 ((i-j)^2-(d+b)*(d-b)^2)*(c-k)^2=((l-g)^2-(k+c)*(c-k)^2)*(d-b)^2:=by
 let⟨m,u⟩:=q
 let⟨e3,t⟩:=p
 subst o s n r e3 m
 grobner
def QQ(c g f k l1 l2 j d b i e l:B P)(q:Line c g f j l1)(p:Line f j k d l2)
 (n:b=l1^2-c-f) (o:i=l1*(c-b)-g) (r:e=l2^2-f-k) (s:l=l2*(f-e)-j) :
 ((i-d)^2-(k+b)*(b-k)^2)*((l-g)*(b-k)-(i-d)*(e-c))+(b-k)^2*(((i-d)*k-d*(b-k))*(e-c)-((l-g)*c-g*(e-c))*(b-k))=0:=by
 let⟨m,u⟩:=q
 let⟨e3,t⟩:=p
 subst o s n r e3 m
 grobner (ringSteps:=100000000)
def Ol(b g d k l1 l2 f e c i:B P)(o:Line b g d f l1)(n:Line d f k e l2)
 (l:k=l1^2-b-d) (m:e=l1*(b-k)-g) (p:c=l2^2-d-k) (q:i=l2*(d-c)-f) :
 (9*k^4-8*k*e^2)*(c-b)^2=((i-g)^2-(b+c)*(c-b)^2)*(4*e^2):=by
 let⟨j,s⟩:=o
 let⟨e3,r⟩:=n
 subst q p m l j
 grobner (ringSteps:=100000000)
def Oj(c f d k l1 l2 g b e i:B P)(o:Line c f d g l1)(n:Line d g k b l2)
 (l:k=l1^2-c-d) (m:b=l1*(c-k)-f) (p:e=l2^2-d-k) (q:i=l2*(d-e)-g) :
 (3*k^2*(k*(4*b^2)-(9*k^4-8*k*b^2))-2*b^2*(4*b^2))*(e-c)=((i-f)*(c*(4*b^2)-(9*k^4-8*k*b^2))-f*(e-c)*(4*b^2))*(2*b):=by
 let⟨j,s⟩:=o
 let⟨e3,r⟩:=n
 subst q p m l j
 grobner (ringSteps:=100000000)
end EC
namespace EC
variable {P:Nat}[NeZero P]
def val_zero:(0:B P).val=0:=by simp
def val_one(h:NT.IsP P):(1:B P).val=1:=by
 have k:=h.1;show 1%P=1;exact YL oM
def nzd(h:NT.IsP P){a b:B P}(e:a*b=0):a=0\/b=0:=by
 have h1:a.val*b.val%P=0:=by
  have:=congrArg yEO e;rw[qy,val_zero]at this;exact this
 rcases h.euclid (yBu h1)with k|k
 .exact Y3 (pw (by rw[val_zero];exact yCE k a.isLt))
 exact YZ (pw (by rw[val_zero];exact yCE k b.isLt))
def bG(h:NT.IsP P){a b:B P}(k:a≠0)(c:b≠0):a*b≠0:=λe=>(nzd h e).elim k c
def cancel(h:NT.IsP P){a b c:B P}(d:a≠0)(e:b*a=c*a):b=c:=by
 have h1:(b-c)*a=0:=by grobner
 rcases nzd h h1 with k|k
 .grobner
 exact absurd k d
def inv(a:B P):B P:=B.ofNat P (a.val^(P-2))
def inv_mul(h:NT.IsP P){a:B P}(k:a≠0):inv a*a=1:=by
 apply pw;have c:=h.1;have b:¬P ∣ a.val:=λhd=>k (pw (by rw[val_zero];exact yCE hd a.isLt))
 rw[qy,val_one h];show a.val^(P-2)%P*a.val%P=1;rw[yEY,<-Z5,show(P-2).succ=P-1 by omega];exact h.fermat1 _ b
abbrev Pt(P:I):=zb (B P × B P)
def On:Pt P->Prop
 | none=>True
 | some (x,y)=>y^2=x^3+7
def neg:Pt P->Pt P
 | none=>G
 | some (x,y)=>F (x,-y)
def nM(k b c d:B P):B P:=if k=c then 3*k^2*inv (2*b) else(d-b)*inv (c-k)
def third(k c b l:B P):Pt P:=F (l^2-k-b,l*(k-(l^2-k-b))-c)
def add:Pt P->Pt P->Pt P
 | none,b=>b
 | a,G=>a
 | some (x1,y1),F (x2,y2)=>if x1=x2/\y2 = -y1 then G else third x1 y1 x2 (nM x1 y1 x2 y2)
def nO(h:NT.IsP P){x k b:B P}(h1:k^2=x^3+7)(c:b^2=x^3+7)(ho:¬b = -k):b=k:=by
 have e:(b-k)*(b+k)=0:=by grobner
 rcases nzd h e with e|e
 .grobner
 exact absurd (by grobner) ho
def yB{x k:B P}(h:NT.IsP P)(b:(2:B P)≠0)(ho:¬(x=x/\k = -k)):2*k≠0:=λe=>by
 rcases nzd h e with e|e
 .exact b e
 exact ho ⟨Z,by rw[e];grobner⟩
def bI(h:NT.IsP P)(i:(2:B P)≠0){k c b d:B P}(f:c^2=k^3+7)(g:d^2=b^3+7)(ho:¬(k=b/\d = -c)):Line k c b d (nM k c b d):=by
 unfold nM;by_cases hx:k=b
 .subst hx;rw[yFU Z];have l:=nO h f g (λe=>ho ⟨Z,e⟩);subst l;have j:=inv_mul h (yB h i ho);exact⟨by grobner,by grobner⟩
 rw[yFV hx];have hd:b-k≠0:=λe=>hx (by grobner)
 have j:=inv_mul h hd;refine⟨by grobner,cancel h hd (by grobner)⟩
def Ev(h:NT.IsP P)(j:(2:B P)≠0){k d b c l m:B P}(f:d^2=k^3+7)(g:c^2=b^3+7)(ho:¬(k=b/\c = -d))(L:Line k d b c l)(M:Line k d b c m):l=m:=by
 let⟨n,b1⟩:=L
 let⟨o,p⟩:=M
 by_cases hx:k=b
 .subst hx;have i:=nO h f g (λe=>ho ⟨Z,e⟩);subst i;exact cancel h (yB h j ho) (by grobner)
 have hd:b-k≠0:=λe=>hx (by grobner)
 exact cancel h hd (by grobner)
def bU(h:NT.IsP P)(g:(2:B P)≠0){b k c d l:B P}(e:k^2=b^3+7)(f:d^2=c^3+7)(ho:¬(b=c/\d = -k))(L:Line b k c d l):add (F (b,k)) (F (c,d))=third b k c l:=by
 show(if b=c/\d = -k then G else third b k c (nM b k c d))=_;rw[yFV ho,Ev h g e f ho (bI h g e f ho) L]
def jC{b k c d:B P}(ho:b=c/\d = -k):add (F (b,k)) (F (c,d))=G:=by
 show(if b=c/\d = -k then G else third b k c (nM b k c d))=_;rw[yFU ho]
def bF{a:Pt P}:add a G=a:=by cases a<;>rfl
def Line.swap{d k e c l:Fin P}(L:Line d k e c l):Line e c d k l:=by
 let⟨a,b⟩:=L
 exact⟨by grobner,by grobner⟩
def Fz{k d c e l:B P}(L:Line k d c e l):third k d c l=third c e k l:=by
 let⟨a,b⟩:=L
 unfold third;have g:l^2-k-c=l^2-c-k:=by grobner
 have f:l*(k-(l^2-k-c))-d=l*(c-(l^2-c-k))-e:=by grobner
 rw[f,g]
def add_comm(h:NT.IsP P)(c:(2:B P)≠0)(a b:Pt P)(k:On a)(f:On b):add a b=add b a:=by
 rcases a with _|⟨j,g⟩
 .rw[bF];rfl
 rcases b with _|⟨l,i⟩
 .rfl
 by_cases ho:j=l/\i = -g
 .rw[jC ho,jC ⟨ho.1.symm,by rw[ho.2];grobner⟩]
 have d:¬(l=j/\g = -i):=λe=>ho ⟨e.1.symm,by rw[e.2];grobner⟩
 have L:=bI h c k f ho;rw[bU h c k f ho L,bU h c f k d L.swap,Fz L]
def H6{a b:Pt P}(h:NT.IsP P)(g:(2:B P)≠0)(k:On a)(c:On b):On (add a b):=by
 rcases a with _|⟨f,d⟩
 .exact c
 rcases b with _|⟨i,e⟩
 .exact k
 by_cases ho:f=i/\e = -d
 .rw[jC ho];trivial
 have L:=bI h g k c ho;rw[bU h g k c ho L];exact Ei k c L Z Z
def cJ{a:Pt P}(h:On a):On (neg a):=by
 rcases a with _|⟨x,y⟩
 .trivial
 have k:y^2=x^3+7:=h;show(-y)^2=x^3+7
 grobner
def neg_neg'(a:Pt P):neg (neg a)=a:=by
 rcases a with _|⟨x,y⟩
 .rfl
 show F (x,- -y)=F (x,y);have:- -y=y:=by grobner
 rw[this]
def add_neg(a:Pt P):add a (neg a)=G:=by
 rcases a with _|⟨x,y⟩
 .rfl
 exact jC ⟨Z,Z⟩
def Line.neg{d k e c l:Fin P}(L:Line d k e c l):Line d (-k) e (-c) (-l):=by
 let⟨a,b⟩:=L
 exact⟨by grobner,by grobner⟩
def neg_add(h:NT.IsP P)(i:(2:B P)≠0){a b:Pt P}(g:On a)(m:On b):neg (add a b)=add (neg a) (neg b):=by
 rcases a with _|⟨k,d⟩
 .rfl
 rcases b with _|⟨c,f⟩
 .rfl
 by_cases ho:k=c/\f = -d
 .rw[jC ho];exact(jC ⟨ho.1,by rw[ho.2]⟩).symm
 have L:=bI h i g m ho;have j:¬(k=c/\-f = - -d):=λe=>ho ⟨e.1,by have:=e.2;grobner⟩
 rw[bU h i g m ho L];refine Eq.trans ?_ (bU h i (cJ (a:=F (k,d)) g) (cJ (a:=F (c,f)) m) j L.neg).symm;generalize nM k d c f=l;unfold third;show F (l^2-k-c,-(l*(k-(l^2-k-c))-d))=F ((-l)^2-k-c,-l*(k-((-l)^2-k-c)) - -d);have o:(-l)^2=l^2:=by grobner
 rw[o];have n:-(l*(k-(l^2-k-c))-d) = -l*(k-(l^2-k-c)) - -d:=by grobner
 rw[n]
def Line.back{k c e g l d f:Fin P}(L:Line k c e g l)(j:d=l^2-k-e)(i:f=l*(k-d)-c):Line k (-c) d f (-l):=by
 let⟨a,b⟩:=L
 subst i j a;exact⟨by grobner,by grobner (ringSteps:=10000000)⟩
def UW{c k b l:B P}(d:b=l^2-c-k):(-l)^2-c-b=k:=by
 subst d
 grobner
def UV{d k c b l:B P}(a:b=c+l*(k-d)):-l*(d-k) - -c=b:=by
 subst a
 grobner
def TW{x y:B P}(z:y=0)(k:y^2=x^3+7):x^3+7=0:=by
 grobner
def En(h:NT.IsP P)(n:(2:B P)≠0)(y:∀x:B P,x^3+7≠0){b c:Pt P}(g:On b)(m:On c):add (neg b) (add b c)=c:=by
 rcases b with _|⟨d,f⟩
 .rfl
 rcases c with _|⟨i,o⟩
 .rw[bF];exact jC ⟨Z,by grobner⟩
 have p:=g;have w:=m;by_cases ho:d=i/\o = -f
 .rw[jC ho,bF,ho.1,ho.2];rfl
 have L:=bI h n g m ho;have k:=Ei g m L Z Z;rw[bU h n g m ho L];generalize nM d f i o=l at L k;let⟨j,q⟩:∃j,j=l^2-d-i:=⟨_,Z⟩
 unfold third;rw[<-q]at k⊢;let⟨r,t⟩:∃r,r=l*(d-j)-f:=⟨_,Z⟩
 rw[<-t]at k⊢;have a:=L.go;have s:¬(d=j/\r = - -f):=λe=>by
  let⟨u,v⟩:=e
  have z:2*f=0:=by
   grobner
  rcases nzd h z with z|z
  .exact n z
  exact y d (TW z p)
 refine(bU h n (cJ (a:=F (d,f)) g) k s (L.back q t)).trans ?_;rw[third,UW q,UV a]
def Wv(h:NT.IsP P){b k d c f g n i l3 j:B P}(l:d-k≠0)(m:c-b≠0)(e:n-g=l3*(d-k))(o:i-f=j*(c-b))
 (hx:((n-g)^2-(d+k)*(d-k)^2)*(c-b)^2=((i-f)^2-(b+c)*(c-b)^2)*(d-k)^2):l3^2-d-k=j^2-b-c:=by
 rw[e,o]at hx;clear e o;refine cancel h (bG h (bG h l l) (bG h m m)) ?_
 grobner
def Wu(h:NT.IsP P){d k c j l g i o l3 n X:B P}(m:c-k≠0)(q:j-d≠0)(t:i-g=l3*(c-k))(u:o-l=n*(j-d))(r:l3^2-c-k=X)
 (f:((i-g)^2-(k+c)*(c-k)^2)*((o-l)*(c-k)-(i-g)*(j-d))+(c-k)^2*(((i-g)*k-g*(c-k))*(j-d)-((o-l)*d-l*(j-d))*(c-k))=0):l3*(c-X)-i=n*(d-X)-l:=by
 rw[t,u]at f;have s:i=g+l3*(c-k):=by clear f r;grobner
 have v:c+k=l3^2-X:=by clear f;grobner
 rw[s];let⟨a,x⟩:∃a,c-k=a:=⟨_,Z⟩
 rw[x]at m f⊢;generalize j-d=b at q f;have p:(n*(d-X)-l-(l3*(k-X)-g))*(a*a*a*b)=0:=by
  have w:k+c=l3^2-X:=by rw[<-v];clear f;grobner
  rw[w]at f
  grobner
 rcases nzd h p with e|e
 .have w:c=k+a:=by clear f p e v s r t u;grobner
  rw[w]
  grobner
 exact absurd e (bG h (bG h (bG h m m) m) q)
def WH(h:NT.IsP P){c k d g b i l3 j:B P}(l:2*b≠0)(m:d-c≠0)(f:l3*(2*b)=3*k^2)(n:i-g=j*(d-c))
 (hx:(9*k^4-8*k*b^2)*(d-c)^2=((i-g)^2-(c+d)*(d-c)^2)*(4*b^2)):l3^2-k-k=j^2-c-d:=by
 rw[n]at hx;refine cancel h (bG h (bG h l l) (bG h m m)) ?_;have e:9*k^4=(l3*(2*b))*(l3*(2*b)):=by rw[f];clear hx f;grobner
 rw[e]at hx
 grobner
def WG(h:NT.IsP P){c b g f k l l3 m X:B P}(i:2*k≠0)(p:g-c≠0)(d:l3*(2*k)=3*b^2)(q:l-f=m*(g-c))(n:l3^2-b-b=X)
 (j:(3*b^2*(b*(4*k^2)-(9*b^4-8*b*k^2))-2*k^2*(4*k^2))*(g-c)=((l-f)*(c*(4*k^2)-(9*b^4-8*b*k^2))-f*(g-c)*(4*k^2))*(2*k)):l3*(b-X)-k=m*(c-X)-f:=by
 rw[q]at j;have e:9*b^4-8*b*k^2=X*(4*k^2):=by
  have o:9*b^4=(l3*(2*k))*(l3*(2*k)):=by rw[d];clear j d;grobner
  rw[o,<-n]
  grobner
 rw[e,<-d]at j;clear e d n;refine cancel h (bG h (bG h (bG h i i) i) p) ?_
 grobner
def nI{a b:B P}(h:¬a=b):a-b≠0:=λe=>h (by grobner)
def Line.run{c k d b l:Fin P}(L:Line c k d b l):b-k=l*(d-c)/\k-b=l*(c-d):=by
 obtain⟨a,-⟩:=L;exact⟨by grobner,by grobner⟩
def Line.at{x y l:Fin P}(L:Line x y x y l):l*(2*y)=3*x^2:=by
 obtain⟨-,b⟩:=L
 grobner
def SQ{m l d:B P}(s:m^2=l^2):(m*d)^2=(l*d)^2:=by grobner
def Qv{b k:B P}(s:(b - -k)^2=(b-k)^2):4*(b*k)=0:=by grobner
def XK{m l b c k:B P}(r:m^2-c-b=k)(e:k=l^2-b-c):m^2=l^2:=by grobner
def Vo{x l a b:B P}(e:x=l^2-a-b):x=l^2-b-a:=by grobner
def Vn{g d k b e c l:B P}(L:Line g d k b l)(f:c=l*(g-e)-d):c=l*(k-e)-b:=by
 obtain⟨a,-⟩:=L
 grobner
def four_ne(h:NT.IsP P)(k:(2:B P)≠0):(4:B P)≠0:=λe=>by
 have:(2:B P)*2=0:=by grobner
 rcases nzd h this with e|e<;>exact k e
def Eh{y z:B P}(e:y = -z):z = -y:=by grobner
def B8(h:NT.IsP P)(p:(2:B P)≠0){k f d l g i l1 l2 b m c j:B P}(z:i^2=g^3+7)(L:f^2=k^3+7)
 (u:Line k f d l l1) (s:Line d l g i l2) (q:b=l1^2-k-d) (r:m=l1*(k-b)-f) (v:c=l2^2-d-g) (y:j=l2*(d-c)-l)
 (K:m^2=b^3+7) (M:j^2=c^3+7) (w:¬(b=g/\i = -m)) (N:¬(k=c/\j = -f)) (hx:¬c=k) :
 add (F (b,m)) (F (g,i))=add (F (k,f)) (F (c,j)):=by
 have o:=bI h p K z w;have n:=bI h p L M N;rw[bU h p K z w o,bU h p L M N n];unfold third;by_cases hd:b=g
 .have Q:=nO h K (hd ▸ z) (λe=>w ⟨hd,e⟩);subst hd Q;have t:=yB (x:=b) h p w;have a:=WH h t (nI hx) o.at n.run.1 (Ol k f d b l1 l2 l i c j u s q r v y);have O:=WG h t (nI hx) o.at n.run.1 Z (Oj k f d b l1 l2 l i c j u s q r v y);rw[O,a]
 have a:=Wv h (nI hd) (nI hx) o.run.2 n.run.1 (QR k f d g l1 l2 l i b m c j u s q r v y);rw[Wu h (nI hd) (nI hx) o.run.2 n.run.1 Z (QQ k f d g l1 l2 l i b m c j u s q r v y),a]
def add_assoc(h:NT.IsP P)(l:(2:B P)≠0)(h7:∀x:B P,x^3+7≠0)(a b c:Pt P)(g:On a)(k:On b)(n:On c):add (add a b) c=add a (add b c):=by
 have comm:=λ(a b:Pt P) (g:On a) (k:On b)=>add_comm h l a b g k
 have f:=H6 h l g k;have i:=H6 h l k n;have V:∀ {u v:Pt P},On u->On v->add (neg u) (add u v)=v:=λhu hv=>En h l h7 hu hv
 by_cases z1:b=neg a
 .subst z1;rw[add_neg];have:=V k n;rw[neg_neg']at this;exact this.symm
 by_cases z2:c=neg b
 .subst z2;rw[add_neg,bF,comm _ _ f n,comm a b g k];exact V k g
 by_cases A:c=neg (add a b)
 .subst A;rw[add_neg];have e:add b (neg (add a b))=neg a:=by
   rw[comm a b g k,neg_add h l k g];have:=V (cJ k) (cJ g);rw[neg_neg']at this;exact this
  rw[e,add_neg]
 by_cases r:add b c=neg a
 .rw[r,add_neg];have e:a=neg (add b c):=by rw[r,neg_neg']
  have j:add a b=neg c:=by
   rw[comm a b g k,e,neg_add h l k n];have:=V (cJ k) (cJ n);rw[neg_neg']at this;exact this
  rw[j,comm _ _ (cJ n) n,add_neg]
 rcases a with _|⟨p,t⟩
 .rfl
 rcases b with _|⟨j,q⟩
 .rfl
 rcases c with _|⟨w,Q⟩
 .rw[bF,bF]
 have w1:¬(p=j/\q = -t):=λe=>z1 (by rw[e.1,e.2];rfl)
 have w2:¬(j=w/\Q = -q):=λe=>z2 (by rw[e.1,e.2];rfl)
 have L:=bI h l g k w1;have O:=bI h l k n w2;have C:=bU h l g k w1 L;have K:=bU h l k n w2 O;rw[C]at f A⊢;rw[K]at i r⊢;generalize nM p t j q=l1 at L C f A⊢;generalize nM j q w Q=l2 at O K i r⊢;unfold third at f i A r C K⊢;let⟨W,N⟩:∃W,W=l1^2-p-j:=⟨_,Z⟩
 let⟨T,e5⟩:∃T,T=l2^2-j-w:=⟨_,Z⟩
 rw[<-N]at f A C⊢;rw[<-e5]at i r K⊢;let⟨y4,f4⟩:∃y4,y4=l1*(p-W)-t:=⟨_,Z⟩
 let⟨y5,f5⟩:∃y5,y5=l2*(j-T)-q:=⟨_,Z⟩
 rw[<-f4]at f A C⊢;rw[<-f5]at i r K⊢;have w3:¬(W=w/\Q = -y4):=λe=>A (by rw[e.2,<-e.1];rfl)
 have w4:¬(p=T/\y5 = -t):=λe=>r (by rw[e.2,<-e.1];rfl)
 by_cases hx:T=p
 .have hy:y5=t:=by
   have s:=i;rw[hx]at s;exact nO h g s (λe=>w4 ⟨hx.symm,e⟩)
  by_cases hd:W=w
  .exfalso;have h0:Q=y4:=by
    exact nO h f (hd ▸ n) (λe=>w3 ⟨hd,e⟩)
   have r1:=V k n;rw[K,hx,hy]at r1;rw[hd,<-h0]at C;have h3:¬p=j:=λe=>by
    subst e;have s:=nO h g k (λe=>w1 ⟨Z,e⟩);subst s;rw[comm _ _ (cJ k) g,add_neg]at r1;cases r1
   have u1:¬(j=p/\t = - -q):=λe=>h3 e.1.symm
   have M:=bI h l (cJ (a:=F (j,q)) k) g u1;have X:third j (-q) p (nM j (-q) p t)=F (w,Q):=(bU h l (cJ (a:=F (j,q)) k) g u1 M).symm.trans r1;generalize nM j (-q) p t=m at M X;unfold third at X;have r4:m^2-j-p=w:=by injection X with X;injection X
   rw[hd]at N;have s2:=SQ (d:=p-j) (XK r4 N);rw[<-M.run.1,<-L.run.2]at s2;have s:∀ {x y:B P},y^2=x^3+7->y≠0:=λo z=>h7 _ (TW z o)
   rcases nzd h (Qv s2)with e|e
   .exact four_ne h l e
   rcases nzd h e with e|e
   .exact s g e
   exact s k e
  -- the same,from the other side
  rw[comm _ _ f n,comm _ _ g i];exact(B8 h l g n O.swap L.swap (Vo e5) (Vn O f5) (Vo N) (Vn L f4) i f (λe=>w4 ⟨e.1.symm,Eh e.2⟩) (λe=>w3 ⟨e.1.symm,Eh e.2⟩) hd).symm
 exact B8 h l n g L O N f4 e5 f5 f i w3 w4 hx
structure Cur(P:I)[NeZero P]:Prop where
 pr:NT.IsP P
 two:(2:B P)≠0
 sev:∀x:B P,x^3+7≠0
def Cur.y_ne(C:Cur P){a b:Fin P}(h:On (F (a,b))):b≠0:=λe=>C.sev a (TW e h)
def Cur.opp_ne(C:Cur P){a b:Fin P}(h:On (F (a,b))):¬(a=a/\b = -b):=λe=>by
 have h1:2*b=0:=by
  have:=e.2
  grobner
 exact bG C.pr C.two (C.y_ne h) h1
def Jac(x y z:B P):Pt P->Prop
 | none=>z=0
 | some (a,b)=>z≠0/\x=a*z^2/\y=b*z^3
def Frac(x y z:B P):Pt P->Prop
 | none=>z=0
 | some (a,b)=>z≠0/\x=a*z/\y=b*z
def Pair(x y:B P):Pt P->Prop
 | none=>x=0/\y=0
 | some (a,b)=>x=a/\y=b
def dbl(n:B P):B P:=n+n
def twB(x y:B P):B P:=dbl (dbl (x*(y*y)))
def twS(x:B P):B P:=dbl (x*x)+x*x
def twX(x y:B P):B P:=twS x*twS x-dbl (twB x y)
def twY(x y:B P):B P:=twS x*(twB x y-twX x y)-dbl (dbl (dbl (y*y*(y*y))))
def twZ(y z:B P):B P:=dbl (y*z)
def Xo{a b l x y z:B P}(g:l*(2*b)=3*a^2)(c:x=a*z^2)(k:y=b*z^3):twX x y=(l^2-a-a)*twZ y z^2:=by
 subst c k;unfold twX twS twB twZ dbl
 grobner (ringSteps:=100000000)
def Xn{a b l x y z X:B P}(g:l*(2*b)=3*a^2)(d:x=a*z^2)(k:y=b*z^3)(c:twX x y=X*twZ y z^2):twY x y=(l*(a-X)-b)*twZ y z^3:=by
 subst d k;rw[twY,c];unfold twS twB twZ dbl
 grobner (ringSteps:=100000000)
def Xm(C:Cur P){b y z:B P}(d:b≠0)(k:z≠0)(c:y=b*z^3):twZ y z≠0:=λe=>by
 have h1:2*b*(z*z*(z*z))=0:=by
  unfold twZ dbl at e;subst c
  grobner
 exact bG C.pr (bG C.pr C.two d) (bG C.pr (bG C.pr k k) (bG C.pr k k)) h1
def Jac.twice(C:Cur P){x y z:Fin P}{p:Pt P}(h:Jac x y z p)(k:On p):Jac (twX x y) (twY x y) (twZ y z) (add p p):=by
 match p,h,k with
 | none,h,_ =>
  have c:=h;show twZ y z=0;subst c;unfold twZ dbl
  grobner
 | some (a,b),h,k =>
  let⟨e,d,c⟩:=h
  have ho:=C.opp_ne k;have L:=bI C.pr C.two k k ho;rw[bU C.pr C.two k k ho L];have hx:=Xo L.at d c;exact⟨Xm C (C.y_ne k) e c,hx,Xn L.at d c hx⟩
def cS(b k:B P):B P:=b*(k*k)
def eK(b k:B P):B P:=b*(k*k)*k
def plX(k b bx c:B P):B P:=(c-b)*(c-b)-(bx-k)*(bx-k)*(bx-k)-dbl ((bx-k)*(bx-k)*k)
def plY(k b bx c:B P):B P:=(c-b)*((bx-k)*(bx-k)*k-plX k b bx c)-(bx-k)*(bx-k)*(bx-k)*b
def plZ(c k b bx:B P):B P:=c*k*(bx-b)
def XE{a b c d l t k e bx f Z:B P}(g:d-b=l*(c-a))(j:k=a*t^2)(i:e=b*t^3)(e3:bx=c*t^2)(m:f=d*t^3)(n:Z=t*(bx-k)):plX k e bx f=(l^2-a-c)*Z^2:=by
 have o:d=b+l*(c-a):=by grobner
 subst o j i e3 m n;unfold plX dbl
 grobner (ringSteps:=100000000)
def XD{a b c d l t k e bx f Z X:B P}(g:d-b=l*(c-a))(j:k=a*t^2)(i:e=b*t^3)(e3:bx=c*t^2)(n:f=d*t^3)(o:Z=t*(bx-k))(m:plX k e bx f=X*Z^2):plY k e bx f=(l*(a-X)-b)*Z^3:=by
 rw[plY,m];have p:d=b+l*(c-a):=by grobner
 subst p j i e3 n o
 grobner (ringSteps:=100000000)
def CB(C : Cur P){a c t : B P}(ht : t ≠ 0)(e : a * t ^ k = c * t ^ k): a = c := by
  have hk : ∀k : I, t ^ k ≠ 0 := λk => by
    induction k with
    | zero => intro h; exact ht (by have h2 : (1 : B P) = 0 := by { rw [← h]; grind }; calc t = t * 1 := by grobner
                                    _ = 0 := by rw [h2]; grobner)
    | succ k ih => intro h; exact bG C.pr ih ht (by rw [<-h]; grind)
  exact cancel C.pr (hk k) e
def Jac.plus(C:Cur P){j o f l n e:Fin P}{p q:Pt P}(h:Jac j o f p)(i:On p)(w:Jac l n e q)(m:On q)(M:f≠0)(N:e≠0):
 (cS j e=cS l f/\eK o e=eK n f/\add p q=add p p) \/
 (¬(cS j e=cS l f/\eK o e=eK n f)/\Jac (plX (cS j e) (eK o e) (cS l f) (eK n f)) (plY (cS j e) (eK o e) (cS l f) (eK n f)) (plZ f e (cS j e) (cS l f)) (add p q)):=by
 match p,q,h,i,w,m with
 | none,_,h,_,_,_=>exact absurd h M
 | some (a,b),G,_,_,h,_=>exact absurd h N
 | some (a,b),F (c,d),h,i,w,m =>
  obtain⟨-,K,y⟩:=h;obtain⟨-,A,z⟩:=w;have u:=bG C.pr M N;have r:cS j e=a*(f*e)^2:=by subst K;unfold cS;clear i m;grobner
  have s:eK o e=b*(f*e)^3:=by subst y;unfold eK;clear i m;grobner
  have e3:cS l f=c*(f*e)^2:=by subst A;unfold cS;clear i m;grobner
  have t:eK n f=d*(f*e)^3:=by subst z;unfold eK;clear i m;grobner
  by_cases hs:cS j e=cS l f/\eK o e=eK n f
  .refine Y3 ⟨hs.1,hs.2,?_⟩;have h1:a=c:=CB C u (by rw[<-r,<-e3];exact hs.1);have g:b=d:=CB C u (by rw[<-s,<-t];exact hs.2);rw[h1,g]
  refine YZ ⟨hs,?_⟩;by_cases g:a=c
  .have hd:d = -b:=Z1 λv=>hs ⟨by rw[r,e3,g],by
    have:=nO C.pr (x:=a) i (by rw[g];exact m) v;rw[s,t,this]⟩
   rw[jC ⟨g,hd⟩];show plZ _ _ _ _=0;rw[r,e3,g];unfold plZ
   grobner
  have ho:¬(a=c/\d = -b):=λh=>g h.1
  have L:=bI C.pr C.two i m ho;rw[bU C.pr C.two i m ho L];have v:plZ f e (cS j e) (cS l f)=f*e*(cS l f-cS j e):=rfl;have hx:=XE L.run.1 r s e3 t v;refine⟨?_,hx,XD L.run.1 r s e3 t v hx⟩;rw[v];refine bG C.pr u (λh=>g ?_);exact CB C (k:=2) u (by rw[<-r,<-e3];clear i m L hx;grobner)
def Jac.zero(C:Cur P){x y z:Fin P}{p:Pt P}(h:Jac x y z p)(k:z=0):p=G:=by
 match p,h with
 | none,_=>rfl
 | some (a,b),h=>exact absurd k h.1
def Jac.neg{x y z:Fin P}{p:Pt P}(h:Jac x y z p):Jac x (0-y) z (neg p):=by
 match p,h with
 | none,h=>exact h
 | some (a,b),h=>exact⟨h.1,h.2.1,by have:=h.2.2;show 0-y = -b*z^3;grobner⟩
def inv_zero(C:Cur P):inv (0:B P)=0:=by
 apply pw;have k:=C.pr.1;show(0:B P).val^(P-2)%P=_;rw[val_zero];by_cases h:P=2
 .exact absurd (pw (by rw[val_zero];show 2%P=0;rw[h])) C.two
 rw[yFm oM,I.zero_mod]
def Jac.pair(C:Cur P){x y z:Fin P}{p:Pt P}(h:Jac x y z p):Pair (x*(inv z*inv z)) (y*(inv z*inv z)*inv z) p:=by
 match p,h with
 | none,h =>
  have k:=h;subst k;rw[inv_zero C];exact⟨by grobner,by grobner⟩
 | some (a,b),h =>
  have d:=inv_mul C.pr h.1;obtain⟨-,c,k⟩:=h;subst c k;exact⟨by grobner,by grobner⟩
def Pair.jac(C:Cur P){x y:Fin P}{p:Pt P}(h:Pair x y p)(c:¬(x=0/\y=0)):Jac x y 1 p:=by
 match p,h with
 | none,h=>exact absurd h c
 | some (a,b),h =>
  let⟨d,k⟩:=h
  subst d k;refine⟨λe=>?_,by grobner,by grobner⟩;have:=congrArg yEO e;rw[val_zero,val_one C.pr]at this;omega
def Pair.nothing(C:Cur P){x y:Fin P}{p:Pt P}(h:Pair x y p)(k:On p)(d:x=0/\y=0):p=G:=by
 match p,h,k with
 | none,_,_=>rfl
 | some (a,b),h,k =>
  let⟨e,c⟩:=h
  exact absurd (by rw[<-c];exact d.2) (C.y_ne k)
/- The reference's fractions. -/
def frT(d e w v2 : B P): B P:=d * d * w-e * e * e-(v2 + v2) * (e * e)
def XV{a b c d l w v v2 u u2:B P}(g:d-b=l*(c-a))(e:v2=a*w)(k:u2=b*w)(e3:v=c*w)(f:u=d*w):(v-v2)*frT (u-u2) (v-v2) w v2=(l^2-a-c)*((v-v2)*(v-v2)*(v-v2)*w):=by
 have i:d=b+l*(c-a):=by grobner
 subst i e k e3 f;unfold frT
 grobner (ringSteps:=100000000)
def XU{a b c d l w v v2 u u2:B P}(g:d-b=l*(c-a))(e:v2=a*w)(k:u2=b*w)(e3:v=c*w)(f:u=d*w):
 (u-u2)*(v2*((v-v2)*(v-v2))-frT (u-u2) (v-v2) w v2)-u2*((v-v2)*(v-v2)*(v-v2))=(l*(a-(l^2-a-c))-b)*((v-v2)*(v-v2)*(v-v2)*w):=by
 have i:d=b+l*(c-a):=by grobner
 subst i e k e3 f;unfold frT
 grobner (ringSteps:=100000000)
def fdD(x:B P):B P:=x*x+x*x+x*x
def fdE(y z:B P):B P:=(y+y)*z
def fdT(x y z:B P):B P:=fdD x*fdD x*z-(x+x)*(fdE y z*fdE y z)
def XX{a b l x y z:B P}(g:l*(2*b)=3*a^2)(c:x=a*z)(k:y=b*z):fdE y z*fdT x y z=(l^2-a-a)*(fdE y z*fdE y z*fdE y z*z):=by
 subst c k;unfold fdT fdD fdE
 grobner (ringSteps:=100000000)
def XY{a b l x y z:B P}(g:l*(2*b)=3*a^2)(c:x=a*z)(k:y=b*z):fdT x y z=(l^2-a-a)*(fdE y z*fdE y z*z):=by
 subst c k;unfold fdT fdD fdE
 grobner (ringSteps:=100000000)
def XW{a b l x y z X:B P}(g:l*(2*b)=3*a^2)(c:x=a*z)(k:y=b*z)(hT:fdT x y z=X*(fdE y z*fdE y z*z)):
 fdD x*(x*(fdE y z*fdE y z)-fdT x y z)-y*(fdE y z*fdE y z*fdE y z)=(l*(a-X)-b)*(fdE y z*fdE y z*fdE y z*z):=by
 rw[hT];subst c k;unfold fdD fdE
 grobner (ringSteps:=100000000)
def Frac.zero{x y z:Fin P}{p:Pt P}(h:Frac x y z p)(k:z=0):p=G:=by
 match p,h with
 | none,_=>rfl
 | some (a,b),h=>exact absurd k h.1
def Frac.double(C:Cur P){x y z:Fin P}{p:Pt P}(h:Frac x y z p)(k:On p)(d:z≠0):
 Frac (fdE y z*fdT x y z) (fdD x*(x*(fdE y z*fdE y z)-fdT x y z)-y*(fdE y z*fdE y z*fdE y z)) (fdE y z*fdE y z*fdE y z*z) (add p p):=by
 match p,h,k with
 | none,h,_=>exact absurd h d
 | some (a,b),h,k =>
  obtain⟨-,g,c⟩:=h;have ho:=C.opp_ne k;have L:=bI C.pr C.two k k ho;rw[bU C.pr C.two k k ho L];have f:fdE y z≠0:=λe=>by
   refine bG C.pr (bG C.pr C.two (C.y_ne k)) (bG C.pr d d) ?_;unfold fdE at e;subst c
   grobner
  exact⟨bG C.pr (bG C.pr (bG C.pr f f) f) d,XX L.at g c,XW L.at g c (XY L.at g c)⟩
def Frac.plus(C:Cur P){f n e g m k:Fin P}{p q:Pt P}(h:Frac f n e p)(l:On p)(z:Frac g m k q)(j:On q)(O:e≠0)(Q:k≠0):
 (g*e=f*k/\¬m*e=n*k/\add p q=G)\/(g*e=f*k/\m*e=n*k/\¬m*e=0/\add p q=add p p) \/
 (¬g*e=f*k/\Frac ((g*e-f*k)*frT (m*e-n*k) (g*e-f*k) (e*k) (f*k))
  ((m*e-n*k)*(f*k*((g*e-f*k)*(g*e-f*k))-frT (m*e-n*k) (g*e-f*k) (e*k) (f*k))-n*k*((g*e-f*k)*(g*e-f*k)*(g*e-f*k)))
  ((g*e-f*k)*(g*e-f*k)*(g*e-f*k)*(e*k)) (add p q)):=by
 match p,q,h,l,z,j with
 | none,_,h,_,_,_=>exact absurd h O
 | some (a,b),G,_,_,h,_=>exact absurd h Q
 | some (a,b),F (c,d),h,l,z,j =>
  obtain⟨-,N,A⟩:=h;obtain⟨-,M,K⟩:=z;have w:=bG C.pr O Q;have s:f*k=a*(e*k):=by subst N;clear l j;grobner
  have r:n*k=b*(e*k):=by subst A;clear l j;grobner
  have e3:g*e=c*(e*k):=by subst M;clear l j;grobner
  have o:m*e=d*(e*k):=by subst K;clear l j;grobner
  generalize f*k=v2 at *;generalize n*k=u2 at *;generalize g*e=v at *;generalize m*e=u at *;by_cases hs:v=v2
  .have i:a=c:=cancel C.pr w (by rw[<-s,<-e3,hs]);by_cases t:u=u2
   .have y:b=d:=cancel C.pr w (by rw[<-r,<-o,t]);refine YZ (Y3 ⟨hs,t,?_,by rw[i,y]⟩);rw[o];exact bG C.pr (C.y_ne j) w
   refine Y3 ⟨hs,t,jC ⟨i,?_⟩⟩;exact Z1 λy=>t (by
    have:=nO C.pr (x:=a) l (by rw[i];exact j) y;rw[o,r,this])
  refine YZ (YZ ⟨hs,?_⟩);have i:¬a=c:=λh=>hs (by rw[e3,s,h])
  have ho:¬(a=c/\d = -b):=λh=>i h.1
  have L:=bI C.pr C.two l j ho;rw[bU C.pr C.two l j ho L];have hd:=nI hs;exact⟨bG C.pr (bG C.pr (bG C.pr hd hd) hd) w,XV L.run.1 s r e3 o,XU L.run.1 s r e3 o⟩
def mul:I->Pt P->Pt P
 | 0,_=>G
 | n+1,a=>add (mul n a) a
def jU:On (G:Pt P):=trivial
def jH{a:Pt P}:add G a=a:=rfl
def Cur.on(C:Cur P){a b:Pt P}(k:On a)(c:On b):On (add a b):=H6 C.pr C.two k c
def Cur.comm(C:Cur P){a b:Pt P}(k:On a)(c:On b):add a b=add b a:=add_comm C.pr C.two a b k c
def Cur.assoc(C:Cur P){a b c:Pt P}(k:On a)(e:On b)(d:On c):add (add a b) c=add a (add b c):=add_assoc C.pr C.two C.sev a b c k e d
def Cur.neg_l(C:Cur P){a:Pt P}(k:On a):add (neg a) a=G:=by
 rw[C.comm (cJ k) k,add_neg]
def Cur.swap(C:Cur P){a b c d:Pt P}(f:On a)(e:On b)(k:On c)(hd:On d):add (add a b) (add c d)=add (add a c) (add b d):=by
 rw[C.assoc f e (C.on k hd),<-C.assoc e k hd,C.comm e k,C.assoc k e hd,<-C.assoc f k (C.on e hd)]
def cK(C:Cur P){a:Pt P}(k:On a):∀n,On (mul n a)
 | 0=>jU
 | n+1=>C.on (cK C k n) k
def mul_add(C:Cur P){a:Pt P}(k:On a)(m:I):∀n,mul (m+n) a=add (mul m a) (mul n a)
 | 0=>(bF).symm
 | n+1=>by
  show add (mul (m+n) a) a=add (mul m a) (add (mul n a) a);rw[mul_add C k m n,C.assoc (cK C k m) (cK C k n) k]
def dW:Y->Pt P->Pt P
 | .ofNat n,a=>mul n a
 | .negSucc n,a=>neg (mul (n+1) a)
def jT(C:Cur P){a:Pt P}(k:On a):∀n,On (dW n a)
 | .ofNat n=>cK C k n
 | .negSucc n=>cJ (cK C k (n+1))
def pD(C:Cur P){a:Pt P}(k:On a):∀n,dW (n+1) a=add (dW n a) a
 | .ofNat n=>rfl
 | .negSucc 0=>by
  show(G:Pt P)=add (neg (add G a)) a;rw[jH,C.neg_l k]
 | .negSucc (n+1)=>by
  show neg (mul (n+1) a)=add (neg (add (mul (n+1) a) a)) a;have h1:=cK C k (n+1);rw[neg_add C.pr C.two h1 k,C.assoc (cJ h1) (cJ k) k,C.neg_l k,bF]
def uG(C:Cur P){a:Pt P}(k:On a)(n:Y):dW (n-1) a=add (dW n a) (neg a):=by
 have h:=pD C k (n-1);rw[Y.sub_add_cancel]at h;rw[h,C.assoc (jT C k _) k (cJ k),add_neg,bF]
def Dt(C:Cur P){a:Pt P}(k:On a)(m:Y):∀n:I,dW (m+n) a=add (dW m a) (dW n a)
 | 0=>by rw[Zt,yDv];exact(bF).symm
 | n+1=>by
  rw[show m+((n+1:I):Y)=(m+n)+1 by omega,pD C k,Dt C k m n,show((n+1:I):Y)=(n:Y)+1 by omega,pD C k,
   C.assoc (jT C k _) (jT C k _) k]
def Ds(C:Cur P){a:Pt P}(k:On a):∀n:I,dW (-(n:Y)) a=neg (dW n a)
 | 0=>rfl
 | n+1=>by
  have h1:dW (((n+1:I):Y)) a=add (dW n a) a:=by rw[show((n+1:I):Y)=(n:Y)+1 by omega,pD C k]
  rw[h1,neg_add C.pr C.two (jT C k _) k,<-Ds C k n,show -((n+1:I):Y) = -(n:Y)-1 by omega,uG C k]
def Dp(C:Cur P){a:Pt P}(k:On a)(m:Y):∀n:I,dW (m-n) a=add (dW m a) (dW (-(n:Y)) a)
 | 0=>by rw[Zt,Y.sub_zero];exact(bF).symm
 | n+1=>by
  rw[show m-((n+1:I):Y)=(m-n)-1 by omega,uG C k,Dp C k m n,show -((n+1:I):Y) = -(n:Y)-1 by omega,uG C k,
   C.assoc (jT C k _) (jT C k _) (cJ k)]
def xU(C:Cur P){a:Pt P}(b:On a)(m n:Y):dW (m+n) a=add (dW m a) (dW n a):=by
 rcases Y.le_total 0 n with h|h
 .obtain⟨k,rfl⟩:=yD1 h;exact Dt C b m k
 let⟨k,c⟩:=yD1 (show 0<=-n by omega)
 obtain rfl:n = -(k:Y):=oM;rw[<-Dp C b m k,Y.sub_eq_add_neg]
def Dq(a:Pt P):dW 1 a=a:=jH
def JA(a:Pt P):dW 0 a=G:=rfl
def tot(a:I->Pt P):I->(I->Y)->Pt P
 | 0,_=>G
 | k+1,f=>add (tot a k f) (dW (f k) (a k))
def Fx{f:I->Y}(C:Cur P){a:I->Pt P}:∀k,(∀i,i<k->On (a i))->On (tot a k f)
 | 0,_=>jU
 | k+1,h=>C.on (Fx C k λi b=>h i oM) (jT C (h k oM) _)
def eJ{a:I->Pt P}{f g:I->Y}:∀k,(∀i,i<k->f i=g i)->tot a k f=tot a k g
 | 0,_=>rfl
 | k+1,h=>by
  show add (tot a k f) _=add (tot a k g) _;rw[eJ k (λi b=>h i oM),h k oM]
def yC(a:I->Pt P){f:I->Y}:∀k,(∀i,i<k->f i=0)->tot a k f=G
 | 0,_=>rfl
 | k+1,h=>by
  show add (tot a k f) _=G;rw[yC a k (λi b=>h i oM),h k oM];rfl
def Ck(C:Cur P){a:I->Pt P}(f g:I->Y):∀k,(∀i,i<k->On (a i))->tot a k (λj=>f j+g j)=add (tot a k f) (tot a k g)
 | 0,_=>rfl
 | k+1,h=>by
  have h1:∀i,i<k->On (a i):=λi c=>h i oM
  have b:=h k oM;show add (tot a k _) (dW (f k+g k) (a k))=add (add (tot a k f) (dW (f k) (a k))) (add (tot a k g) (dW (g k) (a k)));rw[Ck C f g k h1,xU C b,C.swap (Fx C k h1) (Fx C k h1) (jT C b _) (jT C b _)]
def Ij(C:Cur P){a:I->Pt P}(i:I)(d:Y):∀k,i<k->(∀i,i<k->On (a i))->tot a k (λj=>if j=i then d else 0)=dW d (a i)
 | k+1,hi,h=>by
  show add (tot a k _) (dW (if k=i then d else 0) (a k))=_;by_cases b:k=i
  .subst b;rw[yFU Z,yC a k (λj c=>yFV oM)];rfl
  rw[yFV b,Ij C i d k oM (λj c=>h j oM)];exact bF
def O0{f:I->Y}(C:Cur P){a:I->Pt P}(d:Y)(c:i<k)(h:∀i,i<k->On (a i)):
 tot a k (λj=>if j=i then f j+d else f j)=add (tot a k f) (dW d (a i)):=by
 rw[<-Ij C i d k c h,<-Ck C f _ k h];refine eJ k λj _=>?_
 by_cases b:j=i
 .rw[yFU b,yFU b]
 rw[yFV b,yFV b,yDv]
def JG{f:I->Y}(C:Cur P){a:I->Pt P}(h:∀i,i<k->On (a i)):tot a k (λj=>2*f j)=add (tot a k f) (tot a k f):=by
 rw[<-Ck C f f k h];exact eJ k λj _=>oM
end EC
namespace EC
def Pj{x c:I}(f:NT.IsP P)(j:P=3*c+1)(l:7<P)(d:(P-7)^c%P≠1):(x*x*x+7)%P≠0:=λe=>by
 have hx:¬P ∣ x:=λhd=>by
  have h1:P ∣ x*x*x:=I.dvd_mul_left_of_dvd hd _;have k:P ∣ 7:=(I.dvd_add_right h1).1 (yBu e);have:=xV dC k;omega
 have k:x*x*x%P=P-7:=by
  have i:x*x*x%P<P:=ZL _ oM;have b:(x*x*x%P+7)%P=0:=by rw[yEZ];exact e
  by_cases g:x*x*x%P+7<P
  .rw[YL g]at b;omega
  rw[yEo oM,YL oM]at b;omega
 apply d;rw[<-k,<-yEb];rw[<-(f.fermat1 x hx)]
 congr 1
 rw[show P-1=3*c by omega,ye]
 congr 1
 rw[Z5,Z5,yCz]
def UE{c:I}[NeZero P](b:NT.IsP P)(d:P=3*c+1)(g:7<P)(f:(P-7)^c%P≠1):Cur P:=by
 refine⟨b,λe=>?_,λx e=>?_⟩
 .have:=congrArg yEO e;rw[val_zero]at this;have k:(2:B P).val=2%P:=rfl;rw[k,YL oM]at this;omega
 have i:x*x*x+7=0:=by rw[<-e];grobner
 have:=congrArg yEO i;rw[val_zero,B.val_add,qy,qy]at this;have k:(7:B P).val=7%P:=rfl;rw[k,yEY,yEZ,I.add_mod_mod]at this;exact Pj b d g f this
def Qc:NT.pm 115792089237316195423570985008687907853269984665640564039457584007908834671663 256 (115792089237316195423570985008687907853269984665640564039457584007908834671663-7) 38597363079105398474523661669562635951089994888546854679819194669302944890554 1≠1:=dK
def VS{c:I}(b:c<2^k)(h1:1<P)(h:NT.pm P k (P-7) c 1≠1):(P-7)^c%P≠1:=λe=>h (by rw[NT.IC P k _ c 1 b h1,px];exact e)
def cur:∃(P:I) (_:NeZero P),P=115792089237316195423570985008687907853269984665640564039457584007908834671663/\Cur P:=by
 have d:=NT.pP;have k:=Qc;have b:115792089237316195423570985008687907853269984665640564039457584007908834671663=3*38597363079105398474523661669562635951089994888546854679819194669302944890554+1:=dK;have e:38597363079105398474523661669562635951089994888546854679819194669302944890554<2^256:=dK;have f:7<115792089237316195423570985008687907853269984665640564039457584007908834671663:=dK;generalize 38597363079105398474523661669562635951089994888546854679819194669302944890554=c at *;generalize 115792089237316195423570985008687907853269984665640564039457584007908834671663=P at *;have g:NeZero P:=⟨oM⟩
 exact⟨P,g,Z,UE d b f (VS e oM k)⟩
end EC
section
structure At4(w:Yp)(k a b c d:I):Prop where
 c0:w.cell? ⟨k,0,G⟩=F (uZ a)
 c1:w.cell? ⟨k,1,G⟩=F (uZ b)
 c2:w.cell? ⟨k,2,G⟩=F (uZ c)
 c3:w.cell? ⟨k,3,G⟩=F (uZ d)
 f:∀o,w.frozen? ⟨k,o,G⟩=D
variable {w w1:Yp}{k a b c d:Nat}
def At4.lt(h:At4 w k a b c d):k<w.heap.size:=World.block_lt_of_cell? _ _ h.c0
def cb_{B o:I}{v:Yq}(c:Below B w w1)(b:k<B)(h:w.cell? ⟨k,o,G⟩=F v):w1.cell? ⟨k,o,G⟩=F v:=by
 rw[c.cell (p:=⟨k,o,G⟩) b];exact h
def At4.below{B:I}(h:At4 w k a b c d)(f:Below B w w1)(e:k<B):At4 w1 k a b c d:=
 ⟨cb_ f e h.c0,cb_ f e h.c1,cb_ f e h.c2,cb_ f e h.c3,λo=>by rw[f.frozen (p:=⟨k,o,G⟩) e];exact h.f o⟩
def At4.call(h:At4 w k a b c d)(e:kZ w w1):At4 w1 k a b c d:=h.below e h.lt
def At4.alloc(h:At4 w k a b c d)(o:Obj):At4 (w.alloc o) k a b c d:=h.call (aD o)
def At4.drewN(h:At4 w k a b c d)(q:I):At4 (w.drewN q) k a b c d:=⟨h.c0,h.c1,h.c2,h.c3,h.f⟩
def At4.cl(h:At4 w k a b c d)(f:kZ w' w1)(e:w'=w\/w'=w.drew:=by first|exact Y3 rfl|exact YZ rfl):At4 w1 k a b c d:=by
 rcases e with rfl|rfl
 .exact h.call f
 exact At4.call (w:=w.drew) ⟨h.c0,h.c1,h.c2,h.c3,h.f⟩ f
def At4.new(w:Yp)(t:YW)(a b c d:I):At4 (w.alloc (.cells #[uZ a,uZ b,uZ c,uZ d] t)) w.heap.size a b c d:=
 ⟨by rw[Zj];rfl,by rw[Zj];rfl,by rw[Zj];rfl,by rw[Zj];rfl,λo=>qj _ _ _ _⟩
def At4.made(w:Yp)(t:YW)(a b c d:I)(e:w.heap.size=k):At4 (w.alloc (.cells #[uZ a,uZ b,uZ c,uZ d] t)) k a b c d:=
 e ▸ At4.new w t a b c d
def mO{o:I}(h:i≠j\/o≠k):(⟨i,o,G⟩:Addr)≠⟨j,k,G⟩:=by
 intro e;simp only[Addr.mk.injEq,and_true]at e;omega
def co_{o:I}{x v:Yq}(h:w.cell? ⟨k,o,G⟩=F v)(b:j≠k):(w.setCell ⟨j,i,G⟩ x).cell? ⟨k,o,G⟩=F v:=by
 rw[Z8 _ _ _ _ (mO (Y3 b))];exact h
def cs_{o:I}{v x:Yq}(h:w.cell? ⟨k,o,G⟩=F v):(w.setCell ⟨k,j,G⟩ x).cell? ⟨k,o,G⟩=F (if j=o then x else v):=by
 split
 .subst_vars
  exact World.cell?_setCell_same _ _ _ h
 rename_i e
 rw[Z8 _ _ _ _ (mO (YZ e))];exact h
def fs_{p:Addr}{x:Yq}(h:∀o,w.frozen? ⟨k,o,G⟩=D)(o:I):(w.setCell p x).frozen? ⟨k,o,G⟩=D:=by
 rw[ve];exact h o
def At4.other{o:I}(h:At4 w k a b c d)(e:j≠k)(v:Yq):At4 (w.setCell ⟨j,o,G⟩ v) k a b c d:=
 ⟨co_ h.c0 e,co_ h.c1 e,co_ h.c2 e,co_ h.c3 e,fs_ h.f⟩
def At4.set0(h:At4 w k a b c d)(x:I):At4 (w.setCell (aZ k) (uZ x)) k x b c d:=⟨cs_ h.c0,cs_ h.c1,cs_ h.c2,cs_ h.c3,fs_ h.f⟩
def At4.set1(h:At4 w k a b c d)(x:I):At4 (w.setCell ⟨k,1,G⟩ (uZ x)) k a x c d:=⟨cs_ h.c0,cs_ h.c1,cs_ h.c2,cs_ h.c3,fs_ h.f⟩
def At4.set2(h:At4 w k a b c d)(x:I):At4 (w.setCell ⟨k,2,G⟩ (uZ x)) k a b x d:=⟨cs_ h.c0,cs_ h.c1,cs_ h.c2,cs_ h.c3,fs_ h.f⟩
def At4.set3(h:At4 w k a b c d)(x:I):At4 (w.setCell ⟨k,3,G⟩ (uZ x)) k a b c x:=⟨cs_ h.c0,cs_ h.c1,cs_ h.c2,cs_ h.c3,fs_ h.f⟩
def At4.drew(h:At4 w k a b c d):At4 w.drew k a b c d:=⟨h.c0,h.c1,h.c2,h.c3,h.f⟩
def set4(w:Yp)(k:I)(x y z t:Yq):Yp:=(((w.setCell (aZ k) x).setCell ⟨k,1,G⟩ y).setCell ⟨k,2,G⟩ z).setCell ⟨k,3,G⟩ t
def At4.self4(h:At4 w k a b c d)(x y z t:I):At4 (set4 w k (uZ x) (uZ y) (uZ z) (uZ t)) k x y z t:=(((h.set0 x).set1 y).set2 z).set3 t
def At4.other4(h:At4 w k a b c d)(e:j≠k)(x y z t:Yq):At4 (set4 w j x y z t) k a b c d:=(((h.other e x).other e y).other e z).other e t
def aE{x y z t:Yq}{B:I}{b:Yp}(h:Below B b w)(k:B<=j):Below B b (set4 w j x y z t):=
 (((h.setCell (p:=⟨j,0,G⟩) k x).setCell (p:=⟨j,1,G⟩) k y).setCell (p:=⟨j,2,G⟩) k z).setCell (p:=⟨j,3,G⟩) k t
def JI(w:Yp)(j:I)(x y z t:Yq):(set4 w j x y z t).heap.size=w.heap.size:=by simp[set4]
end
structure FoldI(w wr:Yp)(g0 g1 g2 a b c d p q r s:I):Prop where
 bl:kZ w wr
 pr:At4 wr w.heap.size g0 g1 g2 0
 lo:At4 wr (w.heap.size+1) a b c d
 hi:At4 wr (w.heap.size+1+1) p q r s
 re:At4 wr (w.heap.size+1+1+1) 0 0 0 0
 ha:a<18446744073709551616
 hb:b<18446744073709551616
 hc:c<18446744073709551616
 hd:d<18446744073709551616
 hp:p<18446744073709551616
 hq:q<18446744073709551616
 hr:r<18446744073709551616
 hs:s<18446744073709551616
def NC{a c d p q s f t gk:I}(u:P+val f i g 0=top)(m:top<2*P)(n:val a b c d<top)(j:gk=val a b c d+top*val 0 0 0 0)
 (e:t+top*k=val a b c d+val f i g 0) (o:k<=1) (l:t=val p q r s) (v:t<top):(k=0->val a b c d=gk%P)/\(k=1->val p q r s=gk%P):=by
 have e:gk=val a b c d:=by rw[j];rfl
 rw[e];refine⟨λh=>?_,λh=>?_⟩
 .subst h;rw[YL oM]
 subst h;rw[<-l,yEo oM,YL oM];omega
def OV{p q s:I}(h:¬(p=0/\q=0/\r=0/\s=0)):0<val p q r s:=by unfold val;omega
def Ko{x gk:I}(k:0<h)(c:P+g=top)(b:top<2*P)(d:gk=x+top*h):x+g*h<gk/\(x+g*h)%P=gk%P:=by
 have e:gk=x+g*h+P*h:=by rw[d,<-c,ph];omega
 rw[e,yCy];have:0<P*h:=I.mul_pos oM k;exact⟨oM,Z⟩
def EF{l t a c d x:I}(h1:g*h+x=l+18446744073709551616*t)(k:t=val a b c d):val l a b c+top*val d 0 0 0=x+val g 0 0 0*h:=by
 have e:val g 0 0 0=g:=by unfold val;omega
 rw[e];unfold val at *;unfold top;omega
def val_mul(c b k h:I):val c b k 0*h=c*h+18446744073709551616*(b*h)+340282366920938463463374607431768211456*(k*h):=by
 rw[val,ph,ph,ph,kI,kI];omega
def Ai{l0 l1 l2 o m x a c d l c' e f:I}(h1:l0+18446744073709551616*val a b c d=i*h+x)
 (q:l1+18446744073709551616*val j l c' n=o*h+val a b c d) (p:l2+18446744073709551616*val k e f g=m*h+val j l c' n) :
 val l0 l1 l2 k+top*val e f g 0=x+val i o m 0*h:=by
 rw[val_mul];unfold val at *;unfold top;omega
def Ak(g0 g1 g2:I)(x y:Yq)(m n P:I)(k8:g0<18446744073709551616)(ka:g1<18446744073709551616)(kd:g2<18446744073709551616)
 (hor:(g1=0/\g2=0)\/∃o:I,bits .or .u64 (g1:Y) (g2:Y)=(o:Y)/\o≠0) (hP:P+val g0 g1 g2 0=top) (kb:top<2*P) (hx:Four x m) (hy:Four y n) (w:Yp) :
 Zl prog 235 #[.agg #[.int .u64 g0,.int .u64 g1,.int .u64 g2,.int .u64 0],x,y] w (Ret λe w'=>Below w.heap.size w w'/\Four e ((m+top*n)%P)):=by
 obtain⟨a,b,c,d,rfl,ha,hb,hc,hd,em⟩:=hx;obtain⟨p,q,r,s,rfl,hp,hq,hr,hs,en⟩:=hy;go_enter func235,ntmps235;go_wp2;go_loopg [] (val a b c d+top*val p q r s) (λg wr=>∃(a b c d p q r s:I),FoldI w wr g0 g1 g2 a b c d p q r s/\g=val a b c d+top*val p q r s/\E (g%P=(m+top*n)%P))
 case atStart =>
  have f:=iN w (.cells #[.int .u64 g0,.int .u64 g1,.int .u64 g2,.int .u64 0] 120) (.cells #[.int .u64 a,.int .u64 b,.int .u64 c,.int .u64 d] 118) (.cells #[.int .u64 p,.int .u64 q,.int .u64 r,.int .u64 s] 118) (.cells #[.int .u64 0,.int .u64 0,.int .u64 0,.int .u64 0] 118);refine⟨a,b,c,d,p,q,r,s,⟨f,?_,?_,?_,?_,ha,hb,hc,hd,hp,hq,hr,hs⟩,Z,?_⟩
  .exact(((At4.new w 120 g0 g1 g2 0).alloc _).alloc _).alloc _
  .exact((At4.made (w.alloc _) 118 a b c d (YE _ _)).alloc _).alloc _
  .exact(At4.made ((w.alloc _).alloc _) 118 p q r s (by simp)).alloc _
  .exact At4.made (((w.alloc _).alloc _).alloc _) 118 0 0 0 0 (by simp)
  .rw[em,en];rfl
 case round =>
  obtain⟨a,b,c,d,p,q,r,s,hI,hg,HE⟩:=hrel;clear em en ha hb hc hd hp hq hr hs;obtain⟨bl,pr,lo,hi,re,ha,hb,hc,hd,hp,hq,hr,hs⟩:=hI;have HB:E (Below w.heap.size w wr):=bl;clear bl;generalize Q:w.heap.size+1+1+1=C at re⊢;generalize T:w.heap.size+1+1=k2 at hi⊢;generalize h1:w.heap.size+1=k1 at lo⊢;have H:E (w.heap.size+1=k1/\w.heap.size+1+1=k2/\w.heap.size+1+1+1=C):=⟨h1,T,Q⟩
  generalize L:w.heap.size=K at pr HB⊢;have H0:E (w.heap.size=K):=L;have kc:E (K<=k1):=by unfold E;omega
  have h7:K≠k1:=oM;have kn:K≠k2:=oM;have b5:K≠C:=oM;have n12:k1≠k2:=oM;have h9:k1≠C:=oM;have ke:k2≠C:=oM;have z0:=pr.lt;have z1:=lo.lt;have z2:=hi.lt;have z3:=re.lt;clear L h1 T Q;by_cases hz:p=0/\q=0/\r=0/\s=0
  .obtain⟨rfl,rfl,rfl,rfl⟩:=hz;obtain⟨p0,p1,p2,p3,pf⟩:=id pr;obtain⟨l0,l1,l2,l3,lf⟩:=id lo;obtain⟨L,h1,T,Q,hf⟩:=id hi;obtain⟨r0,V,r2,r3,rf⟩:=id re;go_wp2_with fail
   refine(tG _ _ _ _ (Four.mk ha hb hc hd Z) (Four.mk k8 ka kd dC Z) _).mono ?_;rintro e w1 ⟨v,rfl,f,v4,t,k,rfl,⟨a',b',c',d',rfl,h5,h6,h4,h8,W⟩,hk,X⟩;have z:=NC hP kb (jK ha hb hc hd) hg X hk W (W ▸ jK h5 h6 h4 h8);rw[HE.out]at z;have O:E _:=z;clear z;clear p0 p1 p2 p3 pf l0 l1 l2 l3 lf L h1 T Q hf r0 V r2 r3 rf X W hg HE;have j:=lo.call f;have i:=re.call f;have z3:=i.lt;have z1:=j.lt;have N:E (Below K w w1):=HB.trans (f.mono oM);obtain⟨l0,l1,l2,l3,lf⟩:=id j;obtain⟨r0,V,r2,r3,rf⟩:=id i;have A:k=0\/k=1:=oM;rcases A with rfl|rfl
   .go_wp2;have u:=((((i.set0 a).set1 b).set2 c).set3 d).alloc (.cells #[.int .u64 a',.int .u64 b',.int .u64 c',.int .u64 d'] 118);refine YB (by simp[results,Tryz.results235,go_sem,u.c0,u.c1,u.c2,u.c3];rfl) Z ?_;refine⟨_,Z,?_,Four.mk ha hb hc hd (O.1 trivial).symm⟩;rw[H0.out];have q0:K<=C:=by have:=H.out;have:=H0.out;omega
    have q1:=(((N.setCell (p:=⟨C,0,G⟩) q0 (.int .u64 a)).setCell (p:=⟨C,1,G⟩) q0 (.int .u64 b)).setCell (p:=⟨C,2,G⟩) q0 (.int .u64 c)).setCell (p:=⟨C,3,G⟩) q0 (.int .u64 d);exact q1.alloc (by simp;omega) _
   .go_wp2;have u:=((((i.set0 a').set1 b').set2 c').set3 d').alloc (.cells #[.int .u64 a',.int .u64 b',.int .u64 c',.int .u64 d'] 118);refine YB (by simp[results,Tryz.results235,go_sem,u.c0,u.c1,u.c2,u.c3];rfl) Z ?_;refine⟨_,Z,?_,Four.mk h5 h6 h4 h8 (O.2 trivial).symm⟩;rw[H0.out];have q0:K<=C:=by have:=H.out;have:=H0.out;omega
    have q1:=(((N.setCell (p:=⟨C,0,G⟩) q0 (.int .u64 a')).setCell (p:=⟨C,1,G⟩) q0 (.int .u64 b')).setCell (p:=⟨C,2,G⟩) q0 (.int .u64 c')).setCell (p:=⟨C,3,G⟩) q0 (.int .u64 d');exact q1.alloc (by simp;omega) _
  .go_upto_region 1 with fail
   go_cut [12] from 10 to 72 (λc wx=>c=.bool J/\wr=wx)
   case first =>
    obtain⟨L,h1,T,Q,hf⟩:=id hi;go_wp2_with fail
    all_goals (go_meet;exact⟨Z,Z⟩)
   case rest =>
    obtain⟨rfl,rfl⟩:=hcut;have hw:=Ko (OV hz) hP kb hg;clear hz;obtain⟨p0,p1,p2,p3,pf⟩:=id pr;obtain⟨l0,l1,l2,l3,lf⟩:=id lo;obtain⟨L,h1,T,Q,hf⟩:=id hi;rcases hor with⟨rfl,rfl⟩|⟨o,ho,b6⟩
    .have hor:bits .or .u64 0 0=0:=dK;go_wp2_with fail
     refine(kW g0 _ _ _ _ k8 (Four.mk hp hq hr hs Z) (Four.mk ha hb hc hd Z) _).mono ?_;rintro e w1 ⟨v,rfl,f,l,v4,t,rfl,hl,⟨a',b',c',d',rfl,h5,h6,h4,h8,W⟩,X⟩;have j:=(lo.alloc _).call f;have z:=(hi.alloc _).call f;have A:=(pr.alloc _).call f;have i:=(re.alloc _).call f;have u:=(At4.new wr 118 0 0 0 0).call f;have N:E (Below K w w1):=(HB.alloc oM _).trans (f.mono (by simp;omega));clear f p0 p1 p2 p3 pf l0 l1 l2 l3 lf L h1 T Q hf lo hi pr re;generalize k9:wr.heap.size=k4 at u z0 z1 z2 z3⊢;clear k9;have m0:K≠k4:=oM;have m1:k1≠k4:=oM;have m2:k2≠k4:=oM;have m3:C≠k4:=oM;have M:E (K<k4):=z0;clear z0 z1 z2 z3;have z0:=A.lt;have z1:=j.lt;have z2:=z.lt;have z3:=i.lt;have z4:=u.lt;have O:E (g0*val p q r s+val a b c d=l+18446744073709551616*t/\t=val a' b' c' d'):=⟨X.symm,W⟩
     have HL:E (_/\_):=hw;clear X W hw hg;obtain⟨p0,p1,p2,p3,pf⟩:=id A;obtain⟨l0,l1,l2,l3,lf⟩:=id j;obtain⟨L,h1,T,Q,hf⟩:=id z;obtain⟨t0,t1,t2,t3,tf⟩:=id u;go_wp2;go_region
     go_wp2;obtain⟨q1,q2,q3⟩:=H.out;have q0:=H0.out;subst q1 q2 q3 q0;go_roundg (val l a' b' c'+top*val d' 0 0 0)
     case measure=>rw[EF O.1 O.2];exact HL.1
     case rel =>
      refine⟨l,a',b',c',d',0,0,0,⟨?_,?_,?_,?_,?_,hl,h5,h6,h4,h8,dC,dC,dC⟩,Z,?_⟩
      .have s1:=(N.setCell (p:=⟨w.heap.size+1,0,G⟩) (ue _) (.int .u64 l))
       exact(aE (aE (aE s1 (ax M.out)) (ue _)) oM).drew
      .exact((((A.other h7.symm _).other4 m0.symm _ _ _ _).other4 h7.symm _ _ _ _).other4 kn.symm _ _ _ _).drew
      .exact((((j.set0 l).other4 m1.symm _ _ _ _).self4 l a' b' c').other4 n12.symm _ _ _ _).drew
      .exact((((z.other n12 _).other4 m2.symm _ _ _ _).other4 n12 _ _ _ _).self4 d' 0 0 0).drew
      .exact((((i.other h9 _).other4 m3.symm _ _ _ _).other4 h9 _ _ _ _).other4 ke _ _ _ _).drew
      .unfold E;rw[EF O.1 O.2,<-HE.out];exact HL.2
    .go_wp2_with fail
     refine(kW g0 _ _ _ _ k8 (Four.mk hp hq hr hs Z) (Four.mk ha hb hc hd Z) _).mono ?_;rintro e w1 ⟨v,rfl,f,l,v4,t,rfl,hl,⟨a',b',c',d',rfl,h5,h6,h4,h8,W⟩,X⟩;have j:=(lo.alloc _).call f;have z:=(hi.alloc _).call f;have A:=(pr.alloc _).call f;have i:=(re.alloc _).call f;have u:=(At4.new wr 118 0 0 0 0).call f;have N:E (Below K w w1):=(HB.alloc oM _).trans (f.mono (by simp;omega));clear f p0 p1 p2 p3 pf l0 l1 l2 l3 lf L h1 T Q hf lo hi pr re;generalize k9:wr.heap.size=k4 at u z0 z1 z2 z3⊢;clear k9;have m0:K≠k4:=oM;have m1:k1≠k4:=oM;have m2:k2≠k4:=oM;have m3:C≠k4:=oM;have M:E (K<k4):=z0;clear z0 z1 z2 z3;have ki:E (l+18446744073709551616*val a' b' c' d'=g0*val p q r s+val a b c d):=by unfold E;rw[<-W];exact X
     have HL:E (_/\_):=hw;clear X W hw hg;have z0:=A.lt;have z1:=j.lt;have z2:=z.lt;have z3:=i.lt;have z4:=u.lt;obtain⟨p0,p1,p2,p3,pf⟩:=id A;obtain⟨l0,l1,l2,l3,lf⟩:=id j;obtain⟨L,h1,T,Q,hf⟩:=id z;obtain⟨t0,t1,t2,t3,tf⟩:=id u;go_wp2_with fail
     refine(kW g1 _ _ _ _ ka (Four.mk hp hq hr hs Z) (Four.mk h5 h6 h4 h8 Z) _).mono ?_;rintro e w2 ⟨v,rfl,V,l',v5,t,rfl,ku,⟨a2,b2,c2,d2,rfl,kz,km,kr,kx,W⟩,X⟩;have hn:=((j.set0 l).other4 m1.symm _ _ _ _).call V;have hu:=((z.other n12 _).other4 m2.symm _ _ _ _).call V;have hm:=((A.other h7.symm _).other4 m0.symm _ _ _ _).call V;have k6:=((i.other h9 _).other4 m3.symm _ _ _ _).call V;have ht:=((u.other m1 _).self4 a' b' c' d').call V;have kl:E (Below K w w2):=((aE (N.setCell (p:=⟨k1,0,G⟩) kc.out _) (ax M.out)).trans (V.mono (by simp;omega)))
     clear V p0 p1 p2 p3 pf l0 l1 l2 l3 lf L h1 T Q hf t0 t1 t2 t3 tf j z A i u N z0 z1 z2 z3 z4;have kj:E (l'+18446744073709551616*val a2 b2 c2 d2=g1*val p q r s+val a' b' c' d'):=by unfold E;rw[<-W];exact X
     clear X W;have z0:=hm.lt;have z1:=hn.lt;have z2:=hu.lt;have z3:=k6.lt;have z4:=ht.lt;obtain⟨p0,p1,p2,p3,pf⟩:=id hm;obtain⟨l0,l1,l2,l3,lf⟩:=id hn;obtain⟨L,h1,T,Q,hf⟩:=id hu;obtain⟨t0,t1,t2,t3,tf⟩:=id ht;go_wp2_with fail
     refine(kW g2 _ _ _ _ kd (Four.mk hp hq hr hs Z) (Four.mk kz km kr kx Z) _).mono ?_;rintro e w3 ⟨v,rfl,O,hj,v6,t,rfl,kp,⟨a3,b3,c3,d3,rfl,kw,ko,ky,kv,W⟩,X⟩;have k7:=((hn.set1 l').other4 m1.symm _ _ _ _).call O;have k5:=((hu.other n12 _).other4 m2.symm _ _ _ _).call O;have kf:=((hm.other h7.symm _).other4 m0.symm _ _ _ _).call O;have kk:=((k6.other h9 _).other4 m3.symm _ _ _ _).call O;have kg:=((ht.other m1 _).self4 a2 b2 c2 d2).call O;have kt:E (Below K w w3):=((aE (kl.setCell (p:=⟨k1,1,G⟩) kc.out _) (ax M.out)).trans (O.mono (by simp;omega)))
     clear O p0 p1 p2 p3 pf l0 l1 l2 l3 lf L h1 T Q hf t0 t1 t2 t3 tf hn hu hm k6 ht kl z0 z1 z2 z3 z4;have kh:E (hj+18446744073709551616*val a3 b3 c3 d3=g2*val p q r s+val a2 b2 c2 d2):=by unfold E;rw[<-W];exact X
     clear X W;have z0:=kf.lt;have z1:=k7.lt;have z2:=k5.lt;have z3:=kk.lt;have z4:=kg.lt;obtain⟨l0,l1,l2,l3,lf⟩:=id k7;obtain⟨L,h1,T,Q,hf⟩:=id k5;obtain⟨t0,t1,t2,t3,tf⟩:=id kg;go_wp2;go_region
     go_wp2;clear l0 l1 l2 l3 lf L h1 T Q hf t0 t1 t2 t3 tf;obtain⟨q1,q2,q3⟩:=H.out;have q0:=H0.out;subst q1 q2 q3 q0;go_roundg (val l l' hj a3+top*val b3 c3 d3 0)
     case measure=>rw[Ai ki.out kj.out kh.out];exact HL.1
     case rel =>
      refine⟨l,l',hj,a3,b3,c3,d3,0,⟨?_,?_,?_,?_,?_,hl,ku,kp,kw,ko,ky,kv,dC⟩,Z,?_⟩
      .have s1:=(kt.setCell (p:=⟨w.heap.size+1,2,G⟩) (ue _) (.int .u64 hj))
       have s2:=(aE s1 (ax M.out) (x:=(.int .u64 a3)) (y:=(.int .u64 b3)) (z:=(.int .u64 c3)) (t:=(.int .u64 d3)))
       exact(aE (s2.setCell (p:=⟨w.heap.size+1,3,G⟩) (ue _) (.int .u64 a3)) oM).drew
      .exact((((kf.other h7.symm _).other4 m0.symm _ _ _ _).other h7.symm _).other4 kn.symm _ _ _ _).drew
      .exact((((k7.set2 hj).other4 m1.symm _ _ _ _).set3 a3).other4 n12.symm _ _ _ _).drew
      .exact((((k5.other n12 _).other4 m2.symm _ _ _ _).other n12 _).self4 b3 c3 d3 0).drew
      .exact((((kk.other h9 _).other4 m3.symm _ _ _ _).other h9 _).other4 ke _ _ _ _).drew
      .unfold E;rw[Ai ki.out kj.out kh.out,<-HE.out];exact HL.2
end Go.Proofs.YtdoammpgchejcaaGreat
