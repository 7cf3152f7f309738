import Derived.Test.YtndpeoebngkhmaaGreatProg
import Derived.Sort.Row
import Derived.WalkKit
import Derived.ProofKit
import Derived.Below
import Derived.Deep.MidRow
import Derived.KernelRfl
import Derived.Deep.Draws
import Derived.Deep.OwnRows
import Derived.Test.YtndpeoebngkhmaaGreatRows
import Derived.Deep.LoopGhost
import Derived.Deep.QuietTactic
import Derived.StillTailTactics
import Derived.BigRegion
import Derived.BigQuiet
import Derived.WalkSpells
import Derived.WalkLawsBesides
import Derived.Deep.RegionWith
import Derived.Lib.LazyBuf
import Derived.Laws.AppendOwn
import Derived.Deep.AppendSrc
import Derived.Lib.AppendZeros
import Derived.Lib.ConvBytes
import Derived.Deep.RegionLaw
import Derived.Lib.Mul64
import Derived.Laws.Bits64b
import Derived.Laws.Externs
import Derived.OrdersHeld
import Derived.Orders
import Derived.Laws.OwnMore
import Derived.ArgAppend
import Derived.Deep.DeepCutAuto
import Derived.Deep.Upon
set_option linter.unusedVariables false
set_option linter.defProp false
set_option linter.constructorNameAsVariable false
set_option linter.unusedSimpArgs false
set_option maxRecDepth 1000000
set_option maxHeartbeats 4000000
namespace Go.Proofs.YtndpeoebngkhmaaGreat
open _root_ renaming Array->R,Bool->Hc,Fin->B,Int->Y,List->G,Nat->I,Option->GJ,UInt8->Fk,rfl->Z
open Go.RowKit renaming Hid->E
open Go.Sort renaming Holds->FE
open _root_.Bool renaming false->D,true->H
open _root_.Option renaming none->F,some->J
variable {P:Nat}[NeZero P]{N:Nat}
theorem yGP{c:Prop}{h:Decidable c}(hc:c){α:Sort _}{t e:α}:ite c t e=t:=if_pos hc
theorem yGQ{c:Prop}{h:Decidable c}(hc:¬c){α:Sort _}{t e:α}:ite c t e=e:=if_neg hc
theorem yGR:True:=True.intro
open _root_.Array renaming all_eq_true'->ul,any_eq_true'->yt,ext_getElem?->yDY,getD_eq_getD_getElem?->ZB,getElem?_eq_getElem->ZS,getElem?_eq_none->AF,getElem?_eq_some_iff->ZO,getElem?_replicate->yDu,getElem?_setIfInBounds->zk,getElem?_toList->qi,getElem_replicate->xh,mapM_eq_mapM_toList->yB6,replicate->ZA,size_append->pq,size_replicate->ZL,size_setIfInBounds->rh,toList_replicate->yE1
open _root_.BitVec renaming ofInt->yu,ofNat->AI,toNat_ofNat->yFf
open _root_.Bool renaming and_eq_true->ZD,or_eq_false_iff->yDT,or_eq_true->xj,or_false->xk,true_or->CR
open _root_.Classical renaming byContradiction->xD
open _root_.Go renaming Calls->ae,Exit->fI,FuncId->ph,Oper->Z4,Operand->oF,Program->ai,TypeId->ZR,Value->Zm,World->Zl,bodyPost_ret->Zx,execOp->Z0,run_append_room_src->yF7,run_convert_bytes_back->yFy,run_loadVar_mid->um,run_storeCells_cells->yFU,run_underlying->yw,undef->am,wpList_load_mid->gS,wpOp_mono->xm
open _root_.Go.Addr renaming add->ts
open _root_.Go.Builtin renaming append_->oT,nextslicecap->yC0
open _root_.Go.Code renaming region->gH
open _root_.Go.Ending renaming returned->yFC
open _root_.Go.Instr renaming alloc->yFe,index->yDK,indexAt->iB,loadAt->yE0,sliceAt->ux,storeAt->CT,sureAddr->AJ
open _root_.Go.IntKind renaming i64->ZN,u64->cW,u8->yEY,wrap_u64->yx
open _root_.Go.Lib renaming half_mul_le->yEx,wpList_append_run->uy
open _root_.Go.Next renaming value->pi
open _root_.Go.Oper renaming upon_enter->un,wp->ao
open _root_.Go.Region renaming binds->ml,ready->ZX,wanted->rl
open _root_.Go.Result renaming andThen->yEq,andThen_ok->lp
open _root_.Go.RowKit renaming Below->yFd
open _root_.Go.RowKit.Below renaming heap_setCell->yDn,refl->ZF
open _root_.Go.Sem renaming run_bind->ZK,run_pure->qj
open _root_.Go.Value renaming oneCell'->yFV,ownBlock->AR,slice->oz
open _root_.Go.World renaming cell?->yy,cell?_alloc_new->oX,cell?_of_block->ZP,cell?_setCell_other->yz,cell?_setCells_out->yEH,frozen?_alloc_new->xn,frozen?_of_block->sI,frozen?_setCell->AT,frozen?_setCells->yEV,setCells->C8,size_alloc->Zy
open _root_.Int renaming natCast_mul->sg,natCast_pow->xL
open _root_.List renaming all_eq_true->Z7,append_nil->ug,countP_cons->yFJ,countP_replicate->yFb,eq_nil_iff_forall_not_mem->yEj,find?_eq_none->yFo,find?_some->yCl,getD_eq_getElem?_getD->yBI,getElem?_append_left->uo,getElem?_append_right->xS,getElem?_cons_succ->ZQ,getElem?_cons_zero->ZT,getElem?_drop->yD1,getElem?_eq_getElem->ZH,getElem?_eq_none->zl,getElem?_eq_some_iff->Zz,getElem?_map->rm,getElem?_of_mem->zb,getElem?_take->xp,length_append->Zv,length_cons->Z9,length_drop->yDF,length_eq_zero_iff->yES,length_map->ZI,length_nil->uh,length_take->zc,mapM_cons->yDl,mapM_nil->yDw,map_append->ty,map_cons->uz,map_inj_left->yEa,map_nil->yEi,map_toArray->yEh,mem_append->py,mem_cons->fT,mem_cons_of_mem->ps,mem_cons_self->pw,mem_of_find?_eq_some->Dr,mem_of_getElem?->oE,mem_range->p9,mem_zipIdx_iff_getElem?->yDe,not_mem_nil->ZJ,range->fo,size_toArray->kI
open _root_.Nat renaming add_assoc->tz,add_sub_cancel_left->xV,ble_eq->yGE,le_of_ble_eq_true->qt,le_refl->Zo,le_trans->Zw,lt_of_lt_of_le->Zn,lt_of_succ_le->yh,lt_trans->yEm,mod_eq_of_lt->ZC,mul_add->te,mul_le_mul->qm,mul_left_comm->yEc,strongRecOn->yFX,zero_add->Zs,zero_le->pj
open _root_.Option renaming isSome_iff_exists->Z8,map_eq_some_iff->Zp,some->ZV
open _root_.Or renaming inl->Z5,inr->ZW
open _root_.Prod renaming mk->an
open Go.Proofs.Tryz
open Go.RowKit Go.Sort Go.Deep
variable {A q qA qB:Option Addr}{C after vs xs ys:List Zm}{L:Array Bool}{T:ZR}{V:Nat->Zm}{W W' w w':Zl}{X ks ks2:List Nat}{a:Act}{b base i j k n r:Nat}{cs2:List (List Zm)}{f:ph}{g:Z4}{p0:Prop}{tmps:Array Zm}{v0 v1 v2:Zm}{μ ν:Nat->Nat}
abbrev uZ(n:Y):Zm:=.int .u64 n
abbrev iZ(n:Y):Zm:=.int .i64 n
abbrev aZ(k:I):Go.Addr:=⟨k,0,F⟩
abbrev jZ(k:I):Zm:=.pointer (J ⟨k,0,F⟩)
abbrev sZ(k n c:I):Zm:=.slice (J ⟨k,0,F⟩) n c
abbrev oZ(k o:I):Zm:=.pointer (J ⟨k,o,F⟩)
abbrev qZ(k o n c:I):Zm:=.slice (J ⟨k,o,F⟩) n c
abbrev nZ:Zm:=.slice F 0 0
abbrev tZ:Zm:=.bool H
abbrev fZ:Zm:=.bool D
abbrev lZ(w:Zl)(c:G Zm)(T:ZR):Zl:=w.alloc (.cells c.toArray T)
abbrev gZ(T:ZR)(n:I):Prop:=(prog.info? T).map (·.size)=J n
abbrev yZ(T:ZR):Prop:=(prog.underlying T).map (·.isRow)=J H
abbrev wZ(T:ZR):Prop:=(prog.underlying T).map (·.isRow)=J D
abbrev cZ(f:ph)(a:R Zm)(w:Zl)(Q:Go.Ending->Zl->Prop):Prop:=Go.Calls prog f a w Q
theorem gQ(h:(prog.info? T).map (·.size)=J n:=by kernel_rfl):gZ T n:=h
theorem yQ(h:(prog.underlying T).map (·.isRow)=J H:=by kernel_rfl):yZ T:=h
theorem wQ(h:(prog.underlying T).map (·.isRow)=J D:=by kernel_rfl):wZ T:=h
theorem vH{α:Sort _}(x:α):∃y,x=y:=⟨x,Z⟩
theorem yH{α:Sort _}(x:α):∃y,Go.RowKit.Hid (x=y):=⟨x,Z⟩
theorem oN{p q:Prop}(h:q)(k:q->p:=by intro _;omega):p:=k h
def oM{p:Prop}(h:p:=by omega):p:=h
def kR{p:Prop}(h:p:=by kernel_rfl):p:=h
def dC{p:Prop}(h:p:=by decide):p:=h
def dK{p:Prop}(h:p:=by decide +kernel):p:=h
section
def hE{α:Sort _}(x:α):∃y,E (x=y):=⟨x,Z⟩
def mk1{p:Prop}(h:p):E p:=h
def mk2{p1:Prop}(k:p0)(h1:p1):E (p0/\p1):=⟨k,h1⟩
def mk3{p1 p2:Prop}(b:p0)(h1:p1)(k:p2):E (p0/\p1/\p2):=⟨b,h1,k⟩
def mk4{p1 p2 k:Prop}(c:p0)(h1:p1)(b:p2)(d:k):E (p0/\p1/\p2/\k):=⟨c,h1,b,d⟩
def mk5{p1 p2 k b:Prop}(e:p0)(h1:p1)(c:p2)(f:k)(d:b):E (p0/\p1/\p2/\k/\b):=⟨e,h1,c,f,d⟩
def mk6{p1 p2 k c b:Prop}(g:p0)(h1:p1)(d:p2)(i:k)(e:c)(f:b):E (p0/\p1/\p2/\k/\c/\b):=⟨g,h1,d,i,e,f⟩
def mk7{p1 p2 k c b p6:Prop}(i:p0)(h1:p1)(e:p2)(j:k)(f:c)(g:b)(d:p6):E (p0/\p1/\p2/\k/\c/\b/\p6):=⟨i,h1,e,j,f,g,d⟩
def mk8{p1 p2 k c b p6 p7:Prop}(j:p0)(h1:p1)(e:p2)(l:k)(f:c)(i:b)(d:p6)(g:p7):E (p0/\p1/\p2/\k/\c/\b/\p6/\p7):=⟨j,h1,e,l,f,i,d,g⟩
section
variable {P:ai}{ops:Array Z4}{rest:List Z4}{op:Z4}{a:Act}{w w':Zl}{Q:fI->Act->Zl->Prop}{T:ZR}{y:oF}{g o:Nat}{cs:List Zm}{v:Zm}{ob:Obj}
def stR(t:Tmp)(b:E (w.setCells g o cs=w'))(hv:E (.agg cs.toArray=v))(th:w.there g o cs.toArray.size)(d:(P.info? T).map (·.size)=J cs.toArray.size)(h1:cs.toArray.all (·.oneCell')=H)(h:wpList P ops Q rest (a.put op.dst am) w')(k:op.guard=F:=by rfl)(ho:op.op=.store T (.tmp t) y:=by rfl)(hx:a.eval (.tmp t)=oZ g o:=by rfl)(c:a.eval y=v:=by rfl):wpList P ops Q (op :: rest) a w:=
 wpList_store_mid k T (.tmp t) y ho g o cs.toArray hx (c.trans hv.symm) th d h1 (by rw[show cs.toArray.toList=cs from Z,b.out];exact h)
def ldR(t:Tmp)(c:w.rangeAt g o cs)(hv:E (.agg cs.toArray=v))(e:(P.underlying T).map (·.isRow)=J H)(f:(P.info? T).map (·.size)=J cs.length)(h:wpList P ops Q rest (a.put op.dst v) w)(k:op.guard=F:=by rfl)(ho:op.op=.load T (.tmp t):=by rfl)(hx:a.eval (.tmp t)=oZ g o:=by rfl):wpList P ops Q (op :: rest) a w:=by
 let⟨d,h1,b⟩:=Zp.1 e
 exact gS k T (.tmp t) ho g o hx cs d c h1 b f (hv.out▸h)
def alR(t:Tmp)(e:E (w.heap.size=g))(b:E (w.alloc ob=w'))(h:wpList P ops Q rest (a.put op.dst (jZ g)) w')(hd:op.dst=J t:=by rfl)(k:op.guard=F:=by rfl)(c:(Z0 a.eval op).run P w=.ok (.value (jZ w.heap.size)) (w.alloc ob):=by kernel_rfl):wpList P ops Q (op :: rest) a w:=
 wpList_plain k λK d=>by
  rw[ao,c,e.out,b.out];exact d _ _ h
end
end
namespace SP
def YF(x:BitVec 64):(x.toNat:Y)<2^64:=by
 have:=x.isLt;omega
def eH(x:BitVec 64):yu 64 (x.toNat:Y)=x:=by
 apply BitVec.eq_of_toNat_eq;rw[BitVec.ofInt_natCast,yFf];exact ZC x.isLt
def iC(x:BitVec 64):cW.wrap (x.toNat:Y)=x.toNat:=by
 rw[yx];have:=YF x;exact Y.emod_eq_of_lt oM this
def u(v:BitVec 64):Y:=(v.toNat:Y)
def dD(a b:BitVec 64):bits .xor .u64 (u a) (u b)=u (a ^^^ b):=by
 show cW.wrap ((yu 64 (a.toNat:Y) ^^^ yu 64 (b.toNat:Y)).toNat:Y)=_;rw[eH,eH,iC];rfl
def eE(a b:BitVec 64):bits .and .u64 (u a) (u b)=u (a &&& b):=by
 show cW.wrap ((yu 64 (a.toNat:Y) &&& yu 64 (b.toNat:Y)).toNat:Y)=_;rw[eH,eH,iC];rfl
def dW(a b:BitVec 64):bits .or .u64 (u a) (u b)=u (a ||| b):=by
 show cW.wrap ((yu 64 (a.toNat:Y) ||| yu 64 (b.toNat:Y)).toNat:Y)=_;rw[eH,eH,iC];rfl
def sN(a:BitVec 64):bits .xor .u64 cW.max (u a)=u (~~~a):=by
 have e:cW.max=u (BitVec.allOnes 64):=dK;rw[e,dD,BitVec.allOnes_xor]
def XL(b:k<64):bits .and .u64 (k:Y) 63=k:=by
 have h:∀j:B 64,bits .and .u64 ((j.val:I):Y) 63=(j.val:Y):=dK;exact h ⟨k,b⟩
def BG(x:BitVec 64)(k:I):cW.wrap (u x*2^k)=u (x <<< k):=by
 unfold u;rw[yx,BitVec.toNat_shiftLeft,I.shiftLeft_eq,Y.natCast_emod,sg,xL];rfl
def Ik(x:BitVec 64)(k:I):u x/2^k=u (x >>> k):=by
 unfold u;rw[BitVec.toNat_ushiftRight,I.shiftRight_eq_div_pow,Y.natCast_ediv,xL];rfl
def rol(w:BitVec 64)(n:I):BitVec 64:=w <<< n ||| w >>> (64-n)
abbrev St:=R (BitVec 64)
def enc(v:BitVec 64):Zm:=uZ (u v)
def G9(d:St)(x:I):BitVec 64:=d[x]! ^^^ d[x+5]! ^^^ d[x+10]! ^^^ d[x+15]! ^^^ d[x+20]!
def mS(d:St):I->St
 | 0=>#[0,0,0,0,0]
 | k+1=>(mS d k).setIfInBounds k (G9 d k)
def bL(d:St)(i:I)(v:BitVec 64):St:=d.setIfInBounds i (d[i]! ^^^ v)
def nJ(v:BitVec 64)(x:I)(d:St):I->St
 | 0=>d
 | m+1=>bL (nJ v x d m) (x+5*m) v
def bT(s:St)(x:I):BitVec 64:=s[(x+4)%5]! ^^^ rol s[(x+1)%5]! 1
def lF(s d:St):I->St
 | 0=>d
 | k+1=>nJ (bT s k) k (lF s d k) 5
def wW(d:St):St:=lF (mS d 5) d 5
def cF(d:St)(i:I)(v:BitVec 64):(bL d i v).size=d.size:=by simp[bL]
def wX(d:St)(k:I):(mS d k).size=5:=by
 induction k with
 | zero=>rfl
 | succ k ih=>simp[mS,ih]
def uG(v:BitVec 64)(x:I)(d:St)(m:I):(nJ v x d m).size=d.size:=by
 induction m with
 | zero=>rfl
 | succ k ih=>simp[nJ,cF,ih]
def tD{s d:St}{m:I}:(lF s d m).size=d.size:=by
 induction m with
 | zero=>rfl
 | succ k ih=>simp[lF,uG,ih]
structure Tm where
 x:I
 y:I
 m:BitVec 64
 d:St
def Aa(t:I):I:=(t+1)*(t+2)/2%64
def Fw(t:I)(s:Tm):Tm:=
 { x:=s.y,y:=(2*s.x+3*s.y)%5,m:=s.d[s.y+5*((2*s.x+3*s.y)%5)]!,d:=s.d.setIfInBounds (s.y+5*((2*s.x+3*s.y)%5)) (rol s.m (Aa t)) }
def xP(d:St):I->Tm
 | 0=>{ x:=1,y:=0,m:=d[1]!,d:=d }
 | t+1=>Fw t (xP d t)
def tQ(d:St):St:=(xP d 24).d
def Ic{d:St}(hd:d.size=25)(t:I):(xP d t).x<5/\(xP d t).y<5/\(xP d t).d.size=25:=by
 induction t with
 | zero=>exact⟨show 1<5 by decide,show 0<5 by decide,hd⟩
 | succ t ih =>
  let⟨h1,k,b⟩:=ih
  refine⟨k,?_,?_⟩
  .show(2*(xP d t).x+3*(xP d t).y)%5<5;omega
  show((xP d t).d.setIfInBounds _ _).size=25;rw[rh,b]
def rowAt(d:St)(i:I):St:=
 bL (bL (bL (bL (bL d i (~~~d[i+1]! &&& d[i+2]!)) (i+1) (~~~d[i+2]! &&& d[i+3]!)) (i+2) (~~~d[i+3]! &&& d[i+4]!)) (i+3) (~~~d[i+4]! &&& d[i]!)) (i+4) (~~~d[i]! &&& d[i+1]!)
def AU(d:St):I->St
 | 0=>d
 | k+1=>rowAt (AU d k) (5*k)
def chi(d:St):St:=AU d 5
def FY(d:St)(i:I):(rowAt d i).size=d.size:=by simp[rowAt,cF]
def AS{d:St}:(AU d k).size=d.size:=by
 induction k with
 | zero=>rfl
 | succ k ih=>simp[AU,FY,ih]
end SP
namespace SP
structure Only(b off n:I)(w w':Zl):Prop where
 os:w'.os=w.os
 tape:w'.tape=w.tape
 output:w'.output=w.output
 size:w.heap.size<=w'.heap.size
 block:∀k,k<w.heap.size->k≠b->w'.heap[k]? = w.heap[k]?
 cell:∀o,(o<off\/off+n<=o)->w'.cell? ⟨b,o,F⟩=w.cell? ⟨b,o,F⟩
 froz:∀o,w'.frozen? ⟨b,o,F⟩=w.frozen? ⟨b,o,F⟩
variable {b off n:Nat}{w w1 w2:Zl}
def Only.refl(b off n:I)(w:Zl):Only b off n w w:=⟨Z,Z,Z,Zo _,λ_ _ _=>rfl,λ_ _=>rfl,λ_=>rfl⟩
def Only.trans(h:Only b off n w w1)(k:Only b off n w1 w2):Only b off n w w2:=
 ⟨k.os.trans h.os,k.tape.trans h.tape,k.output.trans h.output,Zw h.size k.size,
  λi c d=>(k.block i (Zn c h.size) d).trans (h.block i c d),
  λo ho=>(k.cell o ho).trans (h.cell o ho),λo=>(k.froz o).trans (h.froz o)⟩
def Only.drewN(h:Only b off n w w1)(q:I):Only b off n w (w1.drewN q):=⟨h.os,h.tape,h.output,h.size,h.block,h.cell,h.froz⟩
def Only.drew(h:Only b off n w w1):Only b off n w w1.drew:=⟨h.os,h.tape,h.output,h.size,h.block,h.cell,h.froz⟩
def Only.setCell(h:Only b off n w w1){o:I}(h1:off<=o)(f:o<off+n)(v:Zm):Only b off n w (w1.setCell ⟨b,o,F⟩ v):=by
 refine h.trans ⟨Z,Z,Z,by simp,λk _ d=>yDn _ _ _ _ d,λc ho=>?_,λc=>by simp⟩;exact yz _ _ _ _ (by intro e;simp only[Addr.mk.injEq,and_true,true_and]at e;omega)
def Only.alloc(h:Only b off n w w1)(d:b<w1.heap.size)(o:Obj):Only b off n w (w1.alloc o):=by
 refine h.trans ⟨Z,Z,Z,by simp,λk c _=>Below.heap_alloc _ _ _ c,λe _=>?_,λe=>?_⟩
 .exact World.cell?_alloc_lt _ _ _ d
 exact World.frozen?_alloc_old _ _ _ (by show b≠_;omega)
def Only.below(h:Only b off n w w1){B:I}(d:B<=w.heap.size)(e:B<=b):Below B w w1:=
 ⟨h.os,h.tape,h.output,h.size,λk c=>h.block k oM oM⟩
def Only.of_below{B:I}(h:Below B w w1)(e:B=w.heap.size)(c:b<B):Only b off n w w1:=
 ⟨h.os,h.tape,h.output,h.size,λk d _=>h.block k oM,λo _=>h.cell (p:=⟨b,o,F⟩) c,λo=>h.frozen (p:=⟨b,o,F⟩) c⟩
def Only.other(h:Only b off n w w1){c o:I}(k:c≠b)(hs:c<w.heap.size):w1.cell? ⟨c,o,F⟩=w.cell? ⟨c,o,F⟩/\w1.frozen? ⟨c,o,F⟩=w.frozen? ⟨c,o,F⟩:=
 ⟨ZP (w:=w) (h.block c hs k),sI (w:=w) (h.block c hs k)⟩
def Only.fresh{o m:I}{x:Obj}(h:Only w.heap.size o m (w.alloc x) w1):Below w.heap.size w w1:=
 ((ZF _ _).alloc (Zo _) x).trans (h.below (by simp) (Zo _))
section
variable {α:Type}[Inhabited α]{enc:α->Zm}{d:Array α}
def Holds.lt(h:FE enc w b off d)(hd:0<d.size):b<w.heap.size:=World.block_lt_of_cell? _ _ (h 0 hd).1
def Holds.other{c o:I}(h:FE enc w c o d)(k:Only b off n w w1)(f:c≠b)(hd:0<d.size):FE enc w1 c o d:=by
 intro j e;have:=h j e;have:=k.other (o:=o+j) f (Holds.lt h hd);rw[this.1,this.2];exact h j e
def Holds.same{o:I}(h:FE enc w b o d)(k:Only b off n w w1)(hd:o+d.size<=off\/off+n<=o):FE enc w1 b o d:=by
 intro j c;rw[k.cell _ oM,k.froz];exact h j c
def Holds.below{B:I}(h:FE enc w b off d)(k:Below B w w1)(c:b<B):FE enc w1 b off d:=by
 intro j e;rw[k.cell (p:=⟨b,off+j,F⟩) c,k.frozen (p:=⟨b,off+j,F⟩) c];exact h j e
def Holds.drewN(h:FE enc w b off d)(q:I):FE enc (w.drewN q) b off d:=h
def Holds.drew(h:FE enc w b off d):FE enc w.drew b off d:=h
def Holds.set(h:FE enc w b off d)(c:i<d.size)(x:α):FE enc (w.setCell ⟨b,off+i,F⟩ (enc x)) b off (d.setIfInBounds i x):=by
 intro j k;rw[rh]at k;rw[AT];by_cases e:j=i
 .subst e;rw[getElem!_set_same d j x c];exact⟨World.cell?_setCell_same _ _ _ (h j k).1,(h j k).2⟩
 rw[getElem!_set_other d i j x e,yz _ _ _ _ (by intro e';simp only[Addr.mk.injEq,and_true,true_and]at e';omega)];exact h j k
def Holds.new(w:Zl)(t:ZR)(d:Array α):FE enc (w.alloc (.cells (d.map enc) t)) w.heap.size 0 d:=by
 intro j k;rw[oX,xn];refine⟨?_,Z⟩;simp only[Zs,Array.getElem?_map,ZS k,GJ.map_some,getElem!_pos d j k]
def Holds.made(w:Zl)(t:ZR)(n:I)(x:α):FE enc (w.alloc (.cells (madeCells #[enc x] n) t)) w.heap.size 0 (ZA n x):=by
 intro j k;rw[ZL]at k;rw[oX,xn];refine⟨?_,Z⟩;rw[getElem!_pos _ j (by simpa using k),xh];simp[madeCells,k,I.mod_one]
end
def Holds.xor{d:St}(h:FE enc w b off d)(k:i<d.size){x:BitVec 64}(hx:d[i]! = x)(v:BitVec 64):FE enc (w.setCell ⟨b,off+i,F⟩ (uZ (u (x ^^^ v)))) b off (bL d i v):=by
 rw[bL,hx];exact Holds.set h k (x ^^^ v)
def bY{d:St}{v:BitVec 64}(h:j≠i):(bL d i v)[j]! = d[j]!:=getElem!_set_other d i j _ h
end SP
namespace SP
def mixed:prog.follows .mixedOrders=H:=kR
def aX{off:I}{d:St}(h:FE enc w b off d)(k:i<d.size){x:BitVec 64}(hx:d[i]! = x):
 w.cell? ⟨b,off+i,F⟩=J (uZ (u x))/\w.frozen? ⟨b,off+i,F⟩=D:=by
 rw[<-hx];exact h i k
def ret_int{k:IntKind}{a b:Y}(h:a=b):yFC (.int k a)=.returned (.int k b):=by rw[h]
def D5(x:BitVec 64)(k:I)(w:Zl)(b:k<64):
 cZ 243 #[uZ (u x),iZ k] w λe w'=>e=.returned (uZ (u (rol x k)))/\w'=w:=by
 have c:=XL b;go_enter func243,ntmps243;go_wp2;go_ret;refine⟨ret_int ?_,Z⟩;rw[BG,Ik,dW];rfl
def nS(r:I):I:=if 255<2*r then(2*r) ^^^ 369 else 2*r
def zL(r:I):I->BitVec 64 × I
 | 0=>(0,r)
 | j+1=>((zL r j).1 ||| AI 64 ((zL r j).2%2) <<< (2^j-1),nS (zL r j).2)
def zM(h:r<256):nS r<256:=by
 have H:∀j:B 256,nS j.val<256:=dK;exact H ⟨r,h⟩
def PU(h:r<256):(zL r j).2<256:=by
 induction j with
 | zero=>exact h
 | succ j ih=>exact zM ih
def MD(h:r<256):bits .xor .i64 ((r:Y)*2) 369=(((2*r) ^^^ 369:I):Y):=by
 have H:∀j:B 256,bits .xor .i64 ((j.val:Y)*2) 369=(((2*j.val) ^^^ 369:I):Y):=dK;exact H ⟨r,h⟩
def ME(h:r<256):bits .and .i64 (r:Y) 1=u (AI 64 (r%2)):=by
 have H:∀j:B 256,bits .and .i64 (j.val:Y) 1=u (AI 64 (j.val%2)):=dK;exact H ⟨r,h⟩
def rN(x:BitVec 64):cW.wrap (u x)=u x:=iC x
def pU(d:St)(c:BitVec 64):St:=bL (chi (tQ (wW d))) 0 c
def rcC(r:I):BitVec 64:=(zL r 7).1
def rcN(r:I):I:=(zL r 7).2
def TE(h:r<256):rcN r<256:=by
 unfold rcN;exact PU h
def Bi:I->I
 | 0=>1
 | k+1=>rcN (Bi k)
def PV(k:I):Bi k<256:=by
 induction k with
 | zero=>decide
 | succ k ih=>exact TE ih
def pF(d:St):I->St
 | 0=>d
 | k+1=>pU (pF d k) (rcC (Bi k))
def perm(d:St):St:=pF d 24
def kQ(d:St):(wW d).size=d.size:=tD
def mX{d:St}(hd:d.size=25):(tQ d).size=25:=(Ic hd 24).2.2
def ET(d:St):(chi d).size=d.size:=AS
def EG{d:St}{c:BitVec 64}(hd:d.size=25):(pU d c).size=25:=by
 rw[pU,cF,ET,mX];rw[kQ,hd]
def pD{d:St}(hd:d.size=25)(k:I):(pF d k).size=25:=by
 induction k with
 | zero=>exact hd
 | succ k ih=>exact EG ih
def vW{d:St}(hd:d.size=25):(perm d).size=25:=pD hd 24
abbrev Bs:=R Fk
def ub(x:Fk):Y:=(x.toNat:Y)
def encB(x:Fk):Zm:=.int .u8 (ub x)
def wide(x:Fk):BitVec 64:=AI 64 x.toNat
def low(v:BitVec 64):Fk:=Fk.ofNat v.toNat
def O8(x:Fk):ub x=u (wide x):=by
 unfold ub u wide;rw[yFf,ZC];have:=x.toNat_lt;omega
def Cs(x:Fk):cW.wrap (ub x)=u (wide x):=by rw[O8,rN]
def RS(v:BitVec 64):yEY.wrap (u v)=ub (low v):=by
 have e:yEY.wrap (u v)=u v%256:=by simp[IntKind.wrap,IntKind.bits,IntKind.signed]
 rw[e];unfold u ub low;rw[Fk.toNat_ofNat'];omega
def lT(bs:Bs)(o:I):I->BitVec 64
 | 0=>0
 | i+1=>lT bs o i ||| wide bs[o+i]! <<< (8*i)
def mP(bs:Bs)(o:I):BitVec 64:=lT bs o 8
def iM(bs:Bs)(d:St):I->St
 | 0=>d
 | i+1=>bL (iM bs d i) i (mP bs (8*i))
def eD(bs:Bs)(d:St)(k:I):(iM bs d k).size=d.size:=by
 induction k with
 | zero=>rfl
 | succ k ih=>simp[iM,cF,ih]
def byteOf(d:St)(k:I):Fk:=low (d[k/8]! >>> (8*(k%8)))
def eY(d:St)(n:I):I->Bs
 | 0=>ZA n 0
 | k+1=>(eY d n k).setIfInBounds k (byteOf d k)
def front(d:St)(n:I):Bs:=eY d n n
def kK{d:St}:(eY d n k).size=n:=by
 induction k with
 | zero=>simp[eY]
 | succ k ih=>simp[eY,ih]
def aW{d:St}:(front d n).size=n:=kK
end SP
namespace SP
attribute [local go_sem] dD eE dW rN Cs
def uR{off:I}{d:Bs}(h:FE encB w b off d)(i:I)(k:i<d.size){x:Fk}(hx:d[i]! = x):
 w.cell? ⟨b,off+i,F⟩=J (.int .u8 (ub x))/\w.frozen? ⟨b,off+i,F⟩=D:=by
 rw[<-hx];exact h i k
def word_any(f d o len cap:I)(bs:Bs)(w:Zl)(m:FE encB w f d bs)(q:8<=len)(ho:o+8<=bs.size)(hl:len<=4611686018427387904):
 cZ 235 #[qZ f (d+o) len cap] w λe w'=>e=.returned (uZ (u (mP bs o)))/\w'=w:=by
 go_enter func235,ntmps235;go_wp2
 go_loop [3,5] (λs3 s5=>∃(k:I) (c:BitVec 64),k<=8/\s5=iZ k/\s3=uZ (u c)/\E (lT bs o k=c)) (λ_ s5=>8-(intOf s5).toNat)
 exact⟨0,0,dC,Z,Z,Z⟩;obtain⟨k,c,p,rfl,rfl,g⟩:=hrel;by_cases i:k<8
 .let⟨x,hx⟩:∃x,bs[o+k]! = x:=⟨_,Z⟩
  let⟨j,b⟩:=uR m (o+k) oM hx
  rw[<-tz]at j;have l:E (lT bs o (k+1)=c ||| wide x <<< (8*k)):=by
   show lT bs o k ||| wide bs[o+k]! <<< (8*k)=_
   rw[g.out,hx]
  clear hx b;have hs:=BG (wide x) (8*k);have n:(k:Y)<(len:Y):=oM;go_wp2
  go_round
  case rel=>exact⟨k+1,_,oM,by go_num,Z,l⟩
  case measure=>simp[intOf];omega
 have b:k=8:=oM;subst b;go_wp2;go_ret;rw[mP,g.out];exact⟨Z,Z⟩
theorem Qy(b off i c len cap:I)(bs:Bs)(d:St)(w:Zl)(hd:d.size=25)(y:FE enc w b off d)(s:FE encB w i c bs)(hl:bs.size=len)(r:len<=200)(q:len<=cap)
 (f:i≠b\/c+len<=off\/off+25<=c) :
 ae prog 225 #[.pointer (J ⟨b,off,F⟩),.slice (J ⟨i,c,F⟩) len cap] w λe w'=>e=.returned (.tuple #[])/\Only b off 25 w w'/\FE enc w' b off (iM bs d (len/8)):=by
 go_enter func225,ntmps225;go_wp2;go_loopg [8] (len/8) (λg s8 wr=>∃(k:I) (f:St),k+g=len/8/\s8=.int .i64 k/\FE enc wr b off f/\Only b off 25 w wr/\E (f=iM bs d k))
 case atStart=>exact⟨0,d,oM,Z,y,Only.refl _ _ _ _,Z⟩
 case round =>
  obtain⟨k,f,K,rfl,n,m,p⟩:=hrel;have hs:f.size=25:=by rw[p.out,eD,hd]
  by_cases t:k<len/8
  .have l:FE encB wr i c bs:=by
    by_cases j:i=b
    .subst j;exact Holds.same s m oM
    .exact Holds.other s m j oM
   obtain⟨x,hx⟩:∃x,f[k]! = x:=⟨_,Z⟩
   obtain⟨M,C⟩:=aX n (i:=k) oM hx;have z:E (f[k]! = x):=hx;clear hx;have L:(k:Y)<25:=oM;have A:(0:Y)<=(k:Y)*8:=oM;have r2:(k:Y)*8<=(len:Y):=oM;have a:((k:Y)*8).toNat=8*k:=oM;have s1:ZN.wrap ((k:Y)*8)=(k:Y)*8:=IntWalk.i64_in _ oM;have lt:(k:Y)<(len:Y)/8:=oM;go_wp2_with fail
   have j:(cap=8*k)=False:=eq_false oM;have v:E (FE encB wr.drew i c bs):=Holds.drew l;have u:E (8*k+8<=bs.size):=by show _<=_;omega
   clear l;go_region_with (go_at_call 235;apply(word_any i c (8*k) (len-8*k) (cap-8*k) bs _ v oM u oM).mono;rintro e N ⟨rfl,rfl⟩)
   all_goals
    go_wp2;go_roundg (gk-1)
    case measure=>omega
    case rel =>
     refine⟨k+1,bL f k (mP bs (8*k)),oM,by go_num,?_,?_,?_⟩
     .exact Holds.drew (Holds.xor n oM z _)
     .exact(m.setCell (o:=off+k) oM oM _).drew
     .rw[p.out];rfl
  .have j:k=len/8:=oM;have lt:(len:Y)/8<=(k:Y):=oM;go_wp2
   go_end0
   refine⟨Z,m,?_⟩;rw[<-j,<-p.out];exact n
def slice22:prog.underlying 22=J (.slice 5):=kR
def info5:(prog.info? 5).map (λi=>(i.zero,i.size,i.bytes))=J (J (.int .u8 0),1,1):=kR
attribute [local go_sem] RS
def wI(b off n:I)(d:St)(w:Zl)(hd:d.size=25)(p:FE enc w b off d)(A:n<=200):
 ae prog 162 #[.pointer (J ⟨b,off,F⟩),.int .i64 n] w λe w'=>e=.returned (.slice (J ⟨w.heap.size,0,F⟩) n n)/\Below w.heap.size w w'/\FE encB w' w.heap.size 0 (front d n):=by
 have r:=Holds.lt p oM;have u:=run_make_row' (P:=prog) 22 5 (.int .u8 0) 1 slice22 info5 Z .i64 .i64 n oM oM;go_enter func162,ntmps162;go_wp2;generalize c:(w.alloc _)=t;go_loopg [11] n (λg s11 wr=>∃(k:I) (bs:Bs),k+g=n/\s11=.int .i64 k/\FE encB wr w.heap.size 0 bs/\Only w.heap.size 0 n t wr/\E (bs=eY d n k))
 case atStart =>
  refine⟨0,_,oM,Z,?_,Only.refl _ _ _ _,Z⟩;rw[<-c];exact Holds.made (enc:=encB) w 5 n 0
 case round =>
  obtain⟨k,bs,z,rfl,j,f,m⟩:=hrel;have hs:bs.size=n:=by rw[m.out,kK]
  have s:FE enc wr b off d:=Holds.other (by rw[<-c];exact Holds.below p ((ZF _ _).alloc (Zo _) _) r) f oM oM;by_cases q:k<n
  .obtain⟨x,hx⟩:∃x,d[k/8]! = x:=⟨_,Z⟩
   obtain⟨a,y⟩:=aX s (i:=(k/8)) oM hx;obtain⟨c1,f1⟩:=j k oM;rw[Zs]at c1 f1;have v:E (byteOf d k=low (x >>> (8*(k%8)))):=by show low _=_;rw[hx]
   have l:=Ik x (8*(k%8));go_wp2;go_roundg (gk-1)
   case measure=>omega
   case rel =>
    refine⟨k+1,bs.setIfInBounds k (low (x >>> (8*(k%8)))),oM,by go_num,?_,?_,?_⟩
    .have:=Holds.set j (i:=k) oM (low (x >>> (8*(k%8))));rw[Zs]at this;exact this
    .exact f.setCell (o:=k) oM oM _
    .show _=(eY d n k).setIfInBounds k (byteOf d k);rw[v.out,m.out]
  .have l:k=n:=oM;go_wp2;go_ret;refine⟨Z,?_,?_⟩
   .rw[<-c]at f;exact f.fresh
   .unfold front;rw[m.out,l]at j;exact j
end SP
namespace SP
variable {w w1:Zl}{b o n:Nat}
def heap_setCells(b:I){k:I}(c:k≠b):∀(vs:G Zm) (p:I) (w:Zl),(w.setCells b p vs).heap[k]? = w.heap[k]?
 | [],_,_=>rfl
 | v :: r,p,w=>by rw[C8,heap_setCells b c r (p+1) _,yDn _ _ _ _ c]
def Only.setCells(h:Only b o n w w1)(vs:G Zm)(p:I)(e:o<=p)(g:p+vs.length<=o+n):Only b o n w (w1.setCells b p vs):=by
 have c:=below_setCells (B:=0) (b:=b) (pj _) vs p w1 (ZF 0 w1);exact h.trans ⟨c.os,c.tape,c.output,c.size,λk _ d=>heap_setCells b d vs p w1,
  λq f=>yEH b vs p w1 ⟨b,q,F⟩ (λ_ _=>by simp only;omega),λq=>yEV b vs p w1 _⟩
def Holds.setCells{bs r:Bs}(h:FE encB w b o bs)(vs:G Zm)(p:I)(e:r.size=bs.size)(f:p+vs.length<=bs.size)
 (h1:∀j (k:j<vs.length),vs[j]=encB r[p+j]!) (c:∀j,j<bs.size->j<p\/p+vs.length<=j->r[j]! = bs[j]!):FE encB (w.setCells b (o+p) vs) b o r:=by
 intro j k;rw[e]at k;rw[yEV];refine⟨?_,(h j k).2⟩;by_cases d:j<p\/p+vs.length<=j
 .rw[yEH b vs (o+p) w ⟨b,o+j,F⟩ (λ_ _=>by simp only;omega),c j k d];exact(h j k).1
 have c:j-p<vs.length:=oM;have:=World.cell?_setCells_in b vs (o+p) w (λi g=>by
  have:=(h (p+i) oM).1;rw[<-tz]at this;rw[this];rfl) (j-p) c
 rw[show o+p+(j-p)=o+j by omega]at this;rw[this,h1 (j-p) c,show p+(j-p)=j by omega]
def app_front(a r:Bs)(j:I)(k:j<a.size):(a++r)[j]! = a[j]:=by
 have h:j<(a++r).size:=by rw[pq];omega
 rw[getElem!_pos (a++r) j h,R.getElem_append_left k]
def app_back(a r:Bs)(j:I)(h1:a.size<=j)(k:j<a.size+r.size):(a++r)[j]! = r[j-a.size]!:=by
 have h:j<(a++r).size:=by rw[pq];omega
 rw[getElem!_pos (a++r) j h,R.getElem_append_right h1,getElem!_pos r (j-a.size) oM]
def rep_at(n j:I)(h:j<n):(ZA n (0:Fk))[j]! = 0:=by
 have k:j<(ZA n (0:Fk)).size:=by rw[ZL];exact h
 rw[getElem!_pos (ZA n (0:Fk)) j k,xh]
def conv_str(P:ai)(src k e:ZR)(hs:P.underlying src=J (.slice e))(l:P.underlying e=J (.int .u8))(hd:P.underlying k=J .string)
 (w:Zl) (b o n cap:I) (bs:Bs) (p:FE encB w b o bs) (g:bs.size=n):(convert src k (qZ b o n cap)).run P w=.ok (.string ⟨bs⟩) w:=by
 have h:=yFy (P:=P) w src k e ⟨b,o,F⟩ cap bs.toList hs l hd (λj m=>by
  have c:j<bs.size:=by simpa using m
  have f:=(p j c).1;rw[getElem!_pos bs j c]at f;have i:(⟨b,o,F⟩:Addr).add j=⟨b,o+j,F⟩:=by
   unfold ts;by_cases d:j=0
   .subst d;rfl
   rw[yGQ d]
  rw[i,f];simp[encB,ub])
 simpa[g]using h
end SP
namespace SP
def int5:prog.underlying 5=J (.int .u8):=kR
def str9:prog.underlying 9=J .string:=kR
end SP
def Bv:prog.underlying 23=J (.slice 22):=kR
def Nz:(prog.info? 22).map (λi=>(i.size,i.bytes,i.zero.map λz=>z.cells.size))=J (1,24,J 1):=kR
def Cm(g o j:I):(⟨g,o,F⟩:Addr).add j=⟨g,o+j,F⟩:=by
 unfold ts;by_cases k:j=0
 .subst k;rw[yGP Z];rfl
 rw[yGQ k]
structure VL(w:Zl)(q:GJ Addr)(m:I)(ys:G Zm):Prop where
 len:ys.length=m
 nil:q=F->m=0
 cells:ys=[]\/∃b o,q=J ⟨b,o,F⟩/\b<w.heap.size/\∀(j:I) u,ys[j]? = J u->w.cell? ⟨b,o+j,F⟩=J u
 one:∀u∈ys,u.oneCell'=H
def VL.below{m:I}(h:VL w q m ys)(c:Below w.heap.size w w'):VL w' q m ys:=
 ⟨h.len,h.nil,by
  rcases h.cells with e|⟨b,o,h1,k,f⟩
  .exact Z5 e
  exact ZW ⟨b,o,h1,Zn k c.size,λj u d=>by rw[c.cell (p:=⟨b,o+j,F⟩) k];exact f j u d⟩,h.one⟩
structure GLs(w W:Zl)(v:Zm)(xs:G Zm):Prop where
 bl:Below w.heap.size w W
 ow:W.ownsRow w.heap.size 22 1 v xs.length xs
 nn:v.ownBlock≠F
def GLs.lt{v:Zm}(h:GLs w W v xs):∃g cap,v=sZ g xs.length cap/\w.heap.size<=g/\g<W.heap.size:=by
 rcases id h.ow with⟨-,⟨rfl,c⟩|⟨g,cap,cur,rfl,h1,k,-⟩⟩
 .exact absurd Z h.nn
 refine⟨g,cap,Z,h1,?_⟩;by_cases b:g<W.heap.size
 .exact b
 rw[AF oM]at k;cases k
def GLs.below{v:Zm}(h:GLs w W v xs)(c:Below W.heap.size W W'):GLs w W' v xs:=by
 refine⟨h.bl.trans (c.mono h.bl.size),?_,h.nn⟩;rcases h.ow with⟨b,h1|⟨g,cap,cur,h1,d,k,e⟩⟩
 .exact⟨b,Z5 h1⟩
 refine⟨b,ZW ⟨g,cap,cur,h1,d,?_,e⟩⟩;rw[c.block g (by
  by_cases f:g<W.heap.size
  .exact f
  rw[AF oM]at k;cases k)]
 exact k
def GLs.app2{v:Zm}{m c:I}(h:GLs w W v xs)(hx:VL W q m ys)(T:xs.length+m<=1000000):
 ∃n W',(oT #[23,23] 23 #[v,.slice q m c]).run prog W=.ok n W'/\GLs w W' n (xs++ys)/\W.heap.size<=W'.heap.size:=by
 let⟨i,r,s⟩:=Zp.1 Nz
 simp only[an.injEq]at s;let⟨h1,t,O⟩:=s
 let⟨z,N,p⟩:=Zp.1 O
 obtain⟨g,cap,rfl,L,M⟩:=h.lt;cases q with
 | none =>
  have x:=hx.nil Z;subst x;obtain rfl:ys=[]:=yES.1 hx.len;rcases id h.ow with⟨-,⟨d,-⟩|⟨K,f,cur,d,Q,A,y,C⟩⟩
  .cases d
  injection d with d _ h0'
  injection d with d
  injection d with d
  subst d h0';refine⟨_,_,yF7 (P:=prog) W 23 23 23 22 i Bv r g 0 xs.length cap (.slice F 0 c) 0 [] (Src.ofNil (e':=22) _ Bv c) y (λj e=>by cases e) (λj e=>by cases e),?_,Zo _⟩;rw[ug];exact h
 | some a =>
  let⟨n,W',x,r2,d,y⟩:=run_append_own (P:=prog) W w.heap.size 23 23 22 i z 1 24 Bv r N h1 t p dC _ xs.length xs h.ow a m c ys (by rw[hx.len];omega)
   (λj u e=>by
    rcases hx.cells with rfl|⟨b,o,A,-,C⟩
    .cases e
    obtain rfl:=ZV.inj A;rw[Cm];exact C j u e) hx.one (by unfold maxLen;omega) oM h.bl.size
  refine⟨n,W',x,⟨⟨by rw[d.os,h.bl.os],by rw[d.tape,h.bl.tape],by rw[d.output,h.bl.output],Zw h.bl.size d.size,λk e=>?_⟩,?_,?_⟩,d.size⟩
  .rw[d.block k (Zn e h.bl.size) (by simp[AR];omega)];exact h.bl.block k e
  .rw[Zv,hx.len];exact r2
  rcases r2.2 with⟨A,-⟩|⟨K,f,cur,rfl,-⟩
  .have:=(y.1 A).1;exact absurd this (by simp)
  simp[AR]
def GLs.app{v:Zm}{m c:I}(h:GLs w W v xs)(hx:VL W q m ys)(d:xs.length+m<=1000000):
 ∃k W',(oT #[23,23] 23 #[v,.slice q m c]).run prog W=.ok k W'/\GLs w W' k (xs++ys):=by
 obtain⟨k,W',h1,b,-⟩:=h.app2 (c:=c) hx d;exact⟨k,W',h1,b⟩
section
def Hid.mkP{p:Prop}(h:p):Hid p:=h
section
variable {P:ai}{ops:Array Z4}{rest:List Z4}{op:Z4}{a:Act}{w w':Zl}{v:Zm}{Q:fI->Act->Zl->Prop}
def eL(k:op.guard=F)(X:Op)(_:op.op=X)(b:(Z0 a.eval op).run P w=.ok (.value v) w')(h:wpList P ops Q rest (a.put op.dst v) w'):wpList P ops Q (op :: rest) a w:=
 wpList_plain k λK c=>by
  rw[ao,b];exact c _ _ h
end
def dY{o:Obj}:Below w.heap.size w (w.alloc o):=(ZF _ _).alloc (Zo _) _
def nQ{cs:R Zm}{v:Zm}(h:cs[j]? = J v):(w.alloc (.cells cs T)).cell? ⟨w.heap.size,j,F⟩=J v:=by
 unfold World.alloc yy;simp[h]
def QG:GLs w (w.alloc (.cells #[] 22)) (sZ w.heap.size 0 0) []:=
 ⟨dY,⟨Z,.inr ⟨w.heap.size,0,#[],Z,Zo _,R.getElem?_push_size,Zo _,pj _,Z,Z⟩⟩,by simp[AR]⟩
def LC(h1:∀u∈ys,u.oneCell'=H):VL (w.alloc (.cells ys.toArray T)) (J (aZ w.heap.size)) ys.length ys:=
 ⟨Z,λh=>by(cases h),ZW ⟨w.heap.size,0,Z,by rw[Zy];omega,λj u k=>by rw[Zs];exact nQ (by simpa using k)⟩,h1⟩
def QA{a:GJ Addr}{x c1 y c2 nA cA nB cB:I}{k f:G Zm}(w:Zl)(K:VL w A x k)(hR:VL w a y f)(h1:x<=1000)(h2:y<=1000):
 ae prog 49 #[.agg #[.slice A x c1,.slice a y c2,.slice qA nA cA,.slice qB nB cB]] w λe w'=>∃v,e=.returned v/\GLs w w' v (k++f++[.slice qA nA cA,.slice qB nB cB]):=by
 let⟨l,n⟩:=hE (w.alloc (.cells #[.slice A x c1,.slice a y c2,.slice qA nA cA,.slice qB nB cB] 25))
 let⟨C,r⟩:=hE (l.alloc (.cells #[] 22))
 have e1:l.heap.size=w.heap.size+1:=by rw[<-n.out,Zy]
 have b1:Below w.heap.size w l:=n.out▸dY;have L:GLs l C (.slice (J ⟨l.heap.size,0,F⟩) 0 0) []:=r.out▸QG;have l1:=K.len;have l2:=hR.len;let⟨v3,P,i,t⟩:=L.app (c:=c1) ((K.below b1).below (r.out▸dY)) (by rw[uh];omega)
 rw[G.nil_append]at t;let⟨v4,o,b,z⟩:=t.app (c:=c2) ((hR.below b1).below t.bl) oM
 let⟨M,s⟩:=hE (o.alloc (.cells #[.slice qA nA cA,.slice qB nB cB] 22))
 have O:Below o.heap.size o M:=s.out▸dY;let⟨v6,w6,d,u⟩:=(z.below O).app (c:=2) (q:=J ⟨o.heap.size,0,F⟩) (m:=2) (ys:=[.slice qA nA cA,.slice qB nB cB]) (by
  rw[<-s.out];exact LC (by simp[yFV])) (by rw[Zv];omega)
 have cell:∀(W:Zl) (j:I) v,Below l.heap.size l W->(#[.slice A x c1,.slice a y c2,.slice qA nA cA,.slice qB nB cB]:R Zm)[j]? = J v->W.cell? ⟨w.heap.size,j,F⟩=J v:=λW j v T hj=>by
  rw[T.cell (p:=⟨w.heap.size,j,F⟩) (by show w.heap.size<_;omega),<-n.out];exact nQ hj
 have k0:=cell C 0 _ L.bl Z;have k1:=cell P 1 _ t.bl Z;have k2:=cell o 2 _ z.bl Z;have k3:=cell o 3 _ z.bl Z;obtain⟨a3,p3,rfl,-⟩:=t.lt;obtain⟨a4,p4,rfl,-⟩:=z.lt;obtain⟨a6,p6,rfl,-⟩:=u.lt;have Q:E (GLs w w6 (.slice (J ⟨a6,0,F⟩) (k++f++[oz qA nA cA,oz qB nB cB]).length p6) (k++f++[.slice qA nA cA,.slice qB nB cB])):=by
  refine⟨b1.trans (u.bl.mono b1.size),?_,u.nn⟩;rcases u.ow with⟨N,x1|⟨g,cap,cur,x1,x2,V⟩⟩
  .exact⟨N,Z5 x1⟩
  exact⟨N,ZW ⟨g,cap,cur,x1,oM,V⟩⟩
 generalize h0:(k++f++[oz qA nA cA,oz qB nB cB]).length=N6 at d Q;generalize X:(k++f).length=N4 at b d;generalize N:k.length=N3 at i b;have V:=Hid.mkP i;have H2:=Hid.mkP b;have H3:=Hid.mkP d;clear i b d cell L t z u b1 O K hR e1;go_enter func49,ntmps49;go_wp2_with (first|(refine eL (v:=.pointer (J ⟨w.heap.size,0,F⟩)) (w':=l) Z (.box 25 (.tmp 0)) Z ?_ ?_;(rw[<-n.out];kernel_rfl))|(refine eL (v:=.slice (J ⟨l.heap.size,0,F⟩) 0 0) (w':=C) Z (.buildSlice 23 0 #[]) Z ?_ ?_;(rw[<-r.out];kernel_rfl))|(refine eL (v:=.slice (J ⟨o.heap.size,0,F⟩) 2 2) (w':=M) Z (.buildSlice 23 2 #[(0,.tmp 14),(1,.tmp 16)]) Z ?_ ?_;(rw[<-s.out];kernel_rfl))|(at_builtin;refine uy C Z _ _ _ _ Z _ _ Z Z _ _ V ?_)|(at_builtin;refine uy P Z _ _ _ _ Z _ _ Z Z _ _ H2 ?_)|(at_builtin;refine uy M Z _ _ _ _ Z _ _ Z Z _ _ H3 ?_)|fail)
 go_ret;exact⟨_,Z,Q⟩
end
structure Sv where
 q:GJ Addr
 n:I
 c:I
def Sv.v(s:Sv):Zm:=.slice s.q s.n s.c
def rgC(a b c d e f g l r x y:Sv):G Zm:=[a.v,b.v,c.v,d.v,e.v,f.v,g.v,l.v,r.v,x.v,y.v]
def uIn:yZ 25:=yQ
def iIn:gZ 25 4:=gQ
def XM(a b c d e f g l r x y:Sv){n i:G Zm}(w:Zl)(hL:VL w l.q l.n n)(hR:VL w r.q r.n i)(h1:l.n<=1000)(h2:r.n<=1000):
 ae prog 10 #[.agg (rgC a b c d e f g l r x y).toArray] w λe' w'=>∃v,e'=.returned v/\GLs w w' v (n++i++[x.v,y.v]++[a.v,b.v,c.v,d.v,e.v,f.v,g.v]):=by
 let⟨M,na,ca⟩:=a;let⟨O,A,cb⟩:=b;let⟨qc,T,cc⟩:=c;let⟨C,nd,cd⟩:=d;let⟨qe,ne,ce⟩:=e;let⟨L,N,Q⟩:=f;let⟨X,V,cg⟩:=g
 let⟨ql,nl,cl⟩:=l;let⟨qr,nr,cr⟩:=r;let⟨P,nx,K⟩:=x;let⟨qy,ny,z⟩:=y
 dsimp only[Sv.v,rgC]at *;let⟨cs,k⟩:=hE ([.slice M na ca,.slice O A cb,.slice qc T cc,.slice C nd cd,.slice qe ne ce,.slice L N Q,.slice X V cg,.slice ql nl cl,.slice qr nr cr,.slice P nx K,.slice qy ny z]:G Zm)
 rw[k.out];let⟨w1,s⟩:=hE (w.alloc (.cells cs.toArray 27))
 have e1:w1.heap.size=w.heap.size+1:=by rw[<-s.out,Zy]
 have b1:Below w.heap.size w w1:=s.out▸dY;have l1:=hL.len;have l2:=hR.len;have cell:E (∀(W:Zl) (j:I) v,Below w1.heap.size w1 W->cs[j]? = J v->W.cell? ⟨w.heap.size,j,F⟩=J v):=λW j v hb hj=>by
  rw[hb.cell (p:=⟨w.heap.size,j,F⟩) (by show w.heap.size<_;omega),<-s.out];exact nQ (by simpa using hj)
 have h6:E (w1.rangeAt w.heap.size 7 [.slice ql nl cl,.slice qr nr cr,.slice P nx K,.slice qy ny z]):=λj u hj=>by
  refine cell w1 (7+j) u (ZF _ _) ?_;rw[<-k.out];match j,hj with
  | 0,h=>exact h
  | 1,h=>exact h
  | 2,h=>exact h
  | 3,h=>exact h
 let⟨dI,h7,h5⟩:=Zp.1 uIn
 have h4:=Hid.mkP b1;have HL:E (n.length+i.length<=2000):=by show _<=_;omega
 go_enter func10,ntmps10;go_wp2_with (first|(refine eL (v:=.pointer (J ⟨w.heap.size,0,F⟩)) (w':=w1) Z (.box 27 (.tmp 0)) Z ?_ ?_;(rw[<-s.out,<-k.out];kernel_rfl))|(refine gS Z 25 _ Z w.heap.size 7 ?_ [.slice ql nl cl,.slice qr nr cr,.slice P nx K,.slice qy ny z] dI ?_ ?_ ?_ ?_ ?_;rfl;exact h6;exact h7;exact h5;exact iIn;skip)|fail)
 apply(QA (c1:=cl) (c2:=cr) (qA:=P) (nA:=nx) (cA:=K) (qB:=qy) (nB:=ny) (cB:=z) w1 (hL.below b1) (hR.below b1) h1 h2).mono;rintro e' o ⟨v2,rfl,t⟩;have k0:=cell o 0 (.slice M na ca) t.bl (by rw[<-k.out];rfl);have k1:=cell o 1 (.slice O A cb) t.bl (by rw[<-k.out];rfl);have k2:=cell o 2 (.slice qc T cc) t.bl (by rw[<-k.out];rfl);have k3:=cell o 3 (.slice C nd cd) t.bl (by rw[<-k.out];rfl);have k4:=cell o 4 (.slice qe ne ce) t.bl (by rw[<-k.out];rfl);have k5:=cell o 5 (.slice L N Q) t.bl (by rw[<-k.out];rfl);have k6:=cell o 6 (.slice X V cg) t.bl (by rw[<-k.out];rfl);let⟨w3,h0⟩:=hE (o.alloc (.cells #[.slice M na ca,.slice O A cb,.slice qc T cc,.slice C nd cd,.slice qe ne ce,.slice L N Q,.slice X V cg] 22))
 have b3:Below o.heap.size o w3:=h0.out▸dY;let⟨v4,w4,h3,g4⟩:=(t.below b3).app (c:=7) (q:=J ⟨o.heap.size,0,F⟩) (m:=7) (ys:=[.slice M na ca,.slice O A cb,.slice qc T cc,.slice C nd cd,.slice qe ne ce,.slice L N Q,.slice X V cg]) (by
  rw[<-h0.out];exact LC (by simp[yFV])) (by have:=HL;rw[Zv,Zv];simp only[Z9,uh];omega)
 obtain⟨a2,p2,rfl,-⟩:=t.lt;obtain⟨a4,p4,rfl,-⟩:=g4.lt;have K4:E (GLs w w4 (.slice (J ⟨a4,0,F⟩) (n++i++[oz P nx K,oz qy ny z]++[oz M na ca,oz O A cb,oz qc T cc,oz C nd cd,oz qe ne ce,oz L N Q,oz X V cg]).length p4) (n++i++[oz P nx K,oz qy ny z]++[oz M na ca,oz O A cb,oz qc T cc,oz C nd cd,oz qe ne ce,oz L N Q,oz X V cg])):=by
  refine⟨h4.trans (g4.bl.mono h4.size),?_,g4.nn⟩;have:=h4.size;rcases g4.ow with⟨x0,x1|⟨g,cap,cur,x1,x2,x3⟩⟩
  .exact⟨x0,Z5 x1⟩
  exact⟨x0,ZW ⟨g,cap,cur,x1,oM,x3⟩⟩
 generalize h8:(n++i++[oz P nx K,oz qy ny z]++[oz M na ca,oz O A cb,oz qc T cc,oz C nd cd,oz qe ne ce,oz L N Q,oz X V cg]).length=N4 at h3 K4;generalize h9:(n++i++[oz P nx K,oz qy ny z]).length=N2 at h3⊢;go_wp2_with (first|(refine eL (v:=.slice (J ⟨o.heap.size,0,F⟩) 7 7) (w':=w3) Z (.buildSlice 23 7 #[(0,.tmp 9),(1,.tmp 11),(2,.tmp 13),(3,.tmp 15),(4,.tmp 17),(5,.tmp 19),(6,.tmp 21)]) Z ?_ ?_;(rw[<-h0.out];kernel_rfl))|(at_builtin;refine uy w3 Z _ _ _ _ Z _ _ Z Z _ _ (Hid.mkP h3).out ?_)|fail)
 go_ret;exact⟨_,Z,K4⟩
def uRg:yZ 27:=yQ
def iRg:gZ 27 11:=gQ
def GLs.cell{g c:I}(h:GLs w W (sZ g n c) xs)(j:I)(u:Zm)(k:xs[j]? = J u):W.cell? ⟨g,j,F⟩=J u:=by
 have:=h.ow.cells (g:=g) Z j u k;rw[Cm,Zs]at this;exact this
def YH(g c:I)(k:i<n)(w:Zl):(iB 23 (sZ g n c) (iZ i)).run prog w=.ok (oZ g i) w:=by
 go_simp
def ClR(w:Zl)(n m:I)(k:G Zm)(e:Ending)(w':Zl):Prop:=Below w.heap.size w w'/\∃t,e=.returned (.bool t)/\(t=H->n<=10/\m<=10/\∀s:Sv,s.v∈k->s.n<=100)
def KX(a b c d e f g l r x y:Sv){p o:G Zm}(w:Zl)(hL:VL w l.q l.n p)(hR:VL w r.q r.n o)(hs:∀u∈p++o,∃s:Sv,u=s.v):
 ae prog 5 #[.agg (rgC a b c d e f g l r x y).toArray] w (ClR w l.n r.n (p++o++[x.v,y.v]++[a.v,b.v,c.v,d.v,e.v,f.v,g.v])):=by
 let⟨cs,m⟩:=hE (rgC a b c d e f g l r x y:G Zm)
 let⟨A,q⟩:=hE (w.alloc (.cells cs.toArray 27))
 have e1:A.heap.size=w.heap.size+1:=by rw[<-q.out,Zy]
 have b1:Below w.heap.size w A:=q.out▸dY;have cell:∀(j:I) v,cs[j]? = J v->A.cell? ⟨w.heap.size,j,F⟩=J v:=λj v W=>by
  rw[<-q.out];exact nQ (by simpa using W)
 have k7:=cell 7 l.v (by rw[<-m.out];rfl);have k8:=cell 8 r.v (by rw[<-m.out];rfl);have O:E (∀u∈p++o++[x.v,y.v]++[a.v,b.v,c.v,d.v,e.v,f.v,g.v],∃s:Sv,u=s.v):=λu n=>by
  rcases py.1 n with n|n
  .rcases py.1 n with n|n
   .exact hs u n
   simp only[fT,ZJ,or_false]at n;rcases n with rfl|rfl<;>exact⟨_,Z⟩
  simp only[fT,ZJ,or_false]at n;rcases n with rfl|rfl|rfl|rfl|rfl|rfl|rfl<;>exact⟨_,Z⟩
 have hA:E (l.n<=10->r.n<=10->ae prog 10 #[.agg cs.toArray] A λe' w'=>∃v,e'=.returned v/\GLs A w' v (p++o++[x.v,y.v]++[a.v,b.v,c.v,d.v,e.v,f.v,g.v])):=λh1 P=>by
  rw[<-m.out];exact XM a b c d e f g l r x y A (hL.below b1) (hR.below b1) oM oM
 have h7:E (A.rangeAt w.heap.size 0 cs):=λj u W=>by rw[Zs];exact cell j u W
 have K:E (cs.length=11):=by rw[<-m.out];rfl
 have C:E (l.n<=10->r.n<=10->(p++o++[x.v,y.v]++[a.v,b.v,c.v,d.v,e.v,f.v,g.v]).length<=100):=λh1 P=>by
  have l1:=hL.len;have l2:=hR.len;rw[Zv,Zv,Zv];simp only[Z9,uh];omega
 generalize p++o++[x.v,y.v]++[a.v,b.v,c.v,d.v,e.v,f.v,g.v]=XS at O hA C⊢;rw[m.out];let⟨ql,nl,cl⟩:=l
 let⟨qr,nr,cr⟩:=r
 dsimp only[Sv.v]at k7 k8 hA C⊢;let⟨dI,h8,X⟩:=Zp.1 uRg
 have t:=Hid.mkP b1;clear e1 b1 hL hR hs cell;go_enter func5,ntmps5;by_cases h1:nl<=10
 .have i1:¬(10:Y)<(nl:Y):=oM;by_cases P:nr<=10
  .have i2:¬(10:Y)<(nr:Y):=oM;go_wp2_with (first|(refine eL (v:=.pointer (J ⟨w.heap.size,0,F⟩)) (w':=A) Z (.box 27 (.tmp 0)) Z ?_ ?_;(rw[<-q.out,<-m.out];kernel_rfl))|(refine gS Z 27 _ Z w.heap.size 0 ?_ cs dI ?_ ?_ ?_ ?_ ?_;rfl;exact h7;exact h8;exact X;(rw[K.out];exact iRg);skip)|fail)
   apply(hA h1 P).mono;rintro e' w2 ⟨v2,rfl,g2⟩;obtain⟨a2,p2,rfl,-⟩:=g2.lt;have V:=Hid.mkP g2;let⟨M,T⟩:∃M,E (XS.length=M):=⟨_,Z⟩
   have ha:M<=100:=by
    have:=C h1 P;have:=T;omega
   rw[T.out]at V⊢;go_wp2;go_loopg [4] M (λgk s4 wr=>∃i:I,i+gk=M/\s4=.int .i64 i/\w2=wr/\E (∀(k:I) (s:Sv),k<i->XS[k]? = J s.v->s.n<=100))
   exact⟨0,oM,Z,Z,λk s Q=>absurd Q (I.not_lt_zero _)⟩;obtain⟨i,hi,rfl,rfl,KM⟩:=hrel;by_cases h4:i<M
   .have N:(i:Y)<(M:Y):=oM;let⟨u,n⟩:∃u,XS[i]? = J u:=⟨_,ZH (oN T)⟩
    obtain⟨⟨qu,L,cu⟩,rfl⟩:=O u (oE n);have hb:w2.cell? ⟨a2,i,F⟩=J (.slice qu L cu):=V.cell i _ n;have h9:=YH a2 p2 h4;have HU:=Hid.mkP n;clear n;by_cases hn:L<=100
    .have h3:¬(100:Y)<(L:Y):=oM;go_wp2;go_roundg (gk-1);omega;refine⟨i+1,oM,Z,Z,λk s Q z=>?_⟩;by_cases h0:k=i
     .subst h0;rw[HU.out]at z;have:=ZV.inj z;unfold Sv.v at this;injection this with _ h5 _
      have h6:L=s.n:=h5;omega
     exact KM k s oM z
    have h3:(100:Y)<(L:Y):=oM;go_wp2;go_ret;exact⟨t.trans (V.bl.mono t.size),_,Z,λh=>by cases h⟩
   have N:¬(i:Y)<(M:Y):=oM;go_wp2;go_ret;refine⟨t.trans (V.bl.mono t.size),_,Z,λ_=>⟨h1,P,λs hs=>?_⟩⟩;let⟨k,Q,z⟩:=G.getElem_of_mem hs
   exact KM k s (oN T) (by rw[ZH Q,z])
  have i2:(10:Y)<(nr:Y):=oM;go_wp2_with (first|(refine eL (v:=.pointer (J ⟨w.heap.size,0,F⟩)) (w':=A) Z (.box 27 (.tmp 0)) Z ?_ ?_;(rw[<-q.out,<-m.out];kernel_rfl))|fail)
  go_ret;exact⟨t,_,Z,λh=>by cases h⟩
 have i1:(10:Y)<(nl:Y):=oM;go_wp2_with (first|(refine eL (v:=.pointer (J ⟨w.heap.size,0,F⟩)) (w':=A) Z (.box 27 (.tmp 0)) Z ?_ ?_;(rw[<-q.out,<-m.out];kernel_rfl))|fail)
 go_ret;exact⟨t,_,Z,λh=>by cases h⟩
def Pt(W:Zl)(u:Zm)(b:SP.Bs):Prop:=∃q c,u=.slice q (R.size b) c/\(b.size=0\/∃g o,q=J ⟨g,o,F⟩/\g<W.heap.size/\FE SP.encB W g o b)
def Pt.below{u:Zm}{b:SP.Bs}(h:Pt W u b)(d:Below W.heap.size W W'):Pt W' u b:=by
 obtain⟨q,c,h1,e|⟨g,o,i,k,f⟩⟩:=h
 .exact⟨q,c,h1,Z5 e⟩
 exact⟨q,c,h1,ZW ⟨g,o,i,Zn k d.size,SP.Holds.below f d k⟩⟩
def Pt.conv{u:Zm}{b:SP.Bs}(h:Pt W u b):(convert 22 9 u).run prog W=.ok (.string ⟨b⟩) W:=by
 obtain⟨q,c,rfl,d|⟨g,o,rfl,f,e⟩⟩:=h
 .obtain rfl:b=#[]:=Array.eq_empty_of_size_eq_zero d;cases q with
  | none=>exact run_convert_bytes_nil (P:=prog) (w:=W) 22 5 SP.slice22 SP.int5 0 c 9 SP.str9
  | some a=>exact yFy (P:=prog) W 22 9 5 a c [] SP.slice22 SP.int5 SP.str9 (λj k=>by cases k)
 exact SP.conv_str prog 22 9 5 SP.slice22 SP.int5 SP.str9 W g o _ c b e Z
structure Rg where
 a:Sv
 b:Sv
 c:Sv
 d:Sv
 e:Sv
 f:Sv
 g:Sv
 l:Sv
 r:Sv
 x:Sv
 y:Sv
def Rg.cs(p:Rg):G Zm:=rgC p.a p.b p.c p.d p.e p.f p.g p.l p.r p.x p.y
def Ev{c:I}(h:c<n):yC0 n c<=2*n+768:=by
 unfold yC0;split
 .omega
 split
 .omega
 simp only[Builtin.growBy];repeat' split
 all_goals omega
def val(a b c d:I):I:=a+18446744073709551616*b+340282366920938463463374607431768211456*c+6277101735386680763835789423207666416102355444464034512896*d
def Four(v:Zm)(n:I):Prop:=∃a b c d:I,v=.agg #[uZ a,uZ b,uZ c,uZ d] /\
 a<2^64/\b<2^64/\c<2^64/\d<2^64/\n=val a b c d
def top:I:=115792089237316195423570985008687907853269984665640564039457584007913129639936
def jV{a c d:I}(k:a<2^64)(e:b<2^64)(f:c<2^64)(hd:d<2^64):val a b c d<top:=by
 unfold val top;omega
def Four.lt{v:Zm}(h:Four v n):n<top:=by
 obtain⟨a,b,c,d,-,k,e,f,hd,rfl⟩:=h;exact jV k e f hd
def val_inj{a c d p q s:I}(f:a<2^64)(i:b<2^64)(j:c<2^64)
 (k:p<2^64) (e:q<2^64) (g:r<2^64) (h:val a b c d=val p q r s):a=p/\b=q/\c=r/\d=s:=by
 unfold val at h;omega
def Four.inj{v k:Zm}(h:Four v n)(g:Four k n):v=k:=by
 obtain⟨a,b,c,d,rfl,m,f,o,hd,e⟩:=h;obtain⟨p,q,r,s,rfl,j,i,l,hs,e'⟩:=g;obtain⟨rfl,rfl,rfl,rfl⟩:=val_inj m f o j i l (e.symm.trans e');rfl
def Four.num{v:Zm}{m:I}(h:Four v n)(k:Four v m):n=m:=by
 obtain⟨a,b,c,d,rfl,l,f,o,hd,rfl⟩:=h;obtain⟨p,q,r,s,e,i,g,j,hs,rfl⟩:=k;simp only[Value.agg.injEq,Array.mk.injEq,G.cons.injEq,Value.int.injEq,true_and,and_true,Int.ofNat_inj]at e;obtain⟨rfl,rfl,rfl,rfl⟩:=e;rfl
def Four.mk{a c d:I}(k:a<2^64)(e:b<2^64)(f:c<2^64)(hd:d<2^64)(g:n=val a b c d):
 Four (.agg #[uZ a,uZ b,uZ c,uZ d]) n:=⟨a,b,c,d,Z,k,e,f,hd,g⟩
def ret_int{k:IntKind}{a b:Y}(h:a=b):yFC (.int k a)=.returned (.int k b):=by rw[h]
def mixed:prog.follows .mixedOrders=H:=kR
def qI{x y c:I}(hx:x<2^64)(b:y<2^64)(d:c<=1):
 ∃s k:I,(∀w,(callFunc 145 #[uZ x,uZ y,uZ c]).run prog w=.ok (.value (.tuple #[uZ s,uZ k])) w) /\
  s<2^64/\k<=1/\s+18446744073709551616*k=x+y+c:=by
 refine⟨(x+y+c)%18446744073709551616,(x+y+c)/18446744073709551616,λw=>?_,oM,oM,oM⟩;rw[run_callFunc_extern func145 kR kR kR (e:=add64Entry) kR,run_add64 x y c oM oM oM oM];simp only[yEq]
 congr 5<;>omega
def mC{c:I}(x y:I)(hx:x<2^64)(b:y<2^64)(d:c<=1):
 ∃s k:I,(∀w,(callFunc 139 #[uZ x,uZ y,uZ c]).run prog w=.ok (.value (.tuple #[uZ s,uZ k])) w) /\
  s<2^64/\k<=1/\s+y+c=x+18446744073709551616*k:=by
 refine⟨(x+18446744073709551616-y-c)%18446744073709551616,if x<y+c then 1 else 0,λw=>?_,oM,by split<;>omega,by split<;>omega⟩;rw[run_callFunc_extern func139 kR kR kR (e:=(Extern.MathBitsCarry.rows[1]).2) kR];have:c=0\/c=1:=oM;rcases this with rfl|rfl<;>rfl
def wS{x y:I}(hx:x<2^64)(b:y<2^64):
 ∃s k:I,(∀w,(callFunc 145 #[uZ x,uZ y,uZ 0]).run prog w=.ok (.value (.tuple #[uZ s,uZ k])) w) /\
  s<2^64/\k<=1/\s+18446744073709551616*k=x+y:=qI hx b (pj 1)
def Cx(x y:I)(hx:x<2^64)(b:y<2^64):
 ∃s k:I,(∀w,(callFunc 139 #[uZ x,uZ y,uZ 0]).run prog w=.ok (.value (.tuple #[uZ s,uZ k])) w) /\
  s<2^64/\k<=1/\s+y=x+18446744073709551616*k:=mC x y hx b (pj 1)
def maskN{a:I}(k:a<2^64):bits .and .u64 (a:Y) 4294967295=((a%4294967296:I):Y):=by
 have h:=bits_and_u64_nat a 4294967295 k oM;rw[show a &&& 4294967295=a%4294967296 from I.and_two_pow_sub_one_eq_mod a 32]at h;exact h
def divN(a:I):(a:Y)/4294967296=((a/4294967296:I):Y):=oM
def mulN(a b:I):(a:Y)*(b:Y)=((a*b:I):Y):=(sg a b).symm
def addN(a b:I):(a:Y)+(b:Y)=((a+b:I):Y):=(Y.natCast_add a b).symm
def wrapN{a:I}(k:a<2^64):cW.wrap (a:Y)=(a:Y):=by rw[yx];omega
def wrapM(a:I):cW.wrap (a:Y)=((a%18446744073709551616:I):Y):=by rw[yx];omega
def Um(x y:I)(hx:x<2^64)(d:y<2^64)(w:Zl):
 ae prog 144 #[uZ x,uZ y] w λe w'=>e=.returned (.tuple #[uZ ((x*y/18446744073709551616:I):Y),uZ ((x*y%18446744073709551616:I):Y)])/\w'=w:=by
 let⟨i,f,bw,c⟩:=Lib.mul64_hi x y hx d
 have m:=yEx (a:=x/4294967296) (b:=y/4294967296) oM oM;have bb:=yEx (a:=x/4294967296) (b:=y%4294967296) oM oM;have n:=yEx (a:=x%4294967296) (b:=y/4294967296) oM oM;have b1:x/4294967296*(y/4294967296)<2^64:=oM;have j:x/4294967296*(y%4294967296)<2^64:=oM;have g:x%4294967296*(y/4294967296)<2^64:=oM;have k:x/4294967296*(y/4294967296)+(x/4294967296*(y%4294967296)+x%4294967296*(y%4294967296)/4294967296)/4294967296<2^64:=oM;have l:x/4294967296*(y/4294967296)+(x/4294967296*(y%4294967296)+x%4294967296*(y%4294967296)/4294967296)/4294967296+((x/4294967296*(y%4294967296)+x%4294967296*(y%4294967296)/4294967296)%4294967296+x%4294967296*(y/4294967296))/4294967296<2^64:=oM;go_enter func144,ntmps144;go_wp2;simp only[maskN hx,maskN d,divN,mulN,addN,wrapN i,wrapN j,wrapN f,maskN f,wrapN g,wrapN bw,wrapN b1,wrapN k,wrapN l,wrapM (x*y)];rw[c]
 go_ret2
 exact⟨Z,Z⟩
def Ni{x y:I}(hx:x<2^64)(b:y<2^64):
 ∃h l:I,(∀w,ae prog 144 #[uZ x,uZ y] w λe w'=>e=.returned (.tuple #[uZ h,uZ l])/\w'=w) /\
  h<2^64/\l<2^64/\l+18446744073709551616*h=x*y:=by
 have k:x*y<=18446744073709551615*18446744073709551615:=qm oM oM;exact⟨_,_,λw=>Um x y hx b w,oM,oM,oM⟩
def Wo{x y:I}(hx:x<2^64)(b:y<2^64):
 ae prog 144 #[uZ x,uZ y] w λe w'=>w'=w/\∃h l:I,e=.returned (.tuple #[uZ h,uZ l]) /\
  h<2^64/\l<2^64/\l+18446744073709551616*h=x*y:=by
 let⟨h,l,f,h1,c,d⟩:=Ni hx b
 exact(f w).mono λe w' k=>⟨k.2,h,l,k.1,h1,c,d⟩
def dH{x y o c:I}(hx:x<2^64)(n:y<2^64)(ho:o<2^64)(r:c<2^64):
 ∃h l s1 k s2 b g d:I,(∀w,ae prog 144 #[uZ x,uZ y] w λe w'=>e=.returned (.tuple #[uZ h,uZ l])/\w'=w) /\
  (∀w,(callFunc 145 #[uZ l,uZ c,uZ 0]).run prog w=.ok (.value (.tuple #[uZ s1,uZ k])) w) /\
  (∀w,(callFunc 145 #[uZ o,uZ s1,uZ 0]).run prog w=.ok (.value (.tuple #[uZ s2,uZ b])) w) /\
  cW.wrap ((h:Y)+(k:Y))=(g:Y)/\cW.wrap ((g:Y)+(b:Y))=(d:Y) /\
  s2<2^64/\d<2^64/\s2+18446744073709551616*d=x*y+o+c:=by
 have m:x*y<=18446744073709551615*18446744073709551615:=qm oM oM;let⟨h,l,p,hh,hl,t⟩:=Ni hx n
 let⟨s1,k,q,d,j,s⟩:=wS hl r
 let⟨s2,b,a2,f,i,e3⟩:=wS ho d
 refine⟨h,l,s1,k,s2,b,h+k,h+k+b,p,q,a2,?_,?_,f,oM,oM⟩
 .rw[addN];exact wrapN oM
 rw[addN];exact wrapN oM
def uN(x y o c:I)(hx:x<2^64)(m:y<2^64)(ho:o<2^64)(p:c<2^64)(w:Zl):
 ae prog 234 #[uZ x,uZ y,uZ o,uZ c] w λe w'=>w'=w/\∃l h:I,e=.returned (.tuple #[uZ l,uZ h]) /\
  h<2^64/\l<2^64/\l+18446744073709551616*h=x*y+o+c:=by
 have j:x*y<=18446744073709551615*18446744073709551615:=qm oM oM;go_enter func234,ntmps234;go_wp2_with fail
 apply(Wo hx m).mono;rintro e f ⟨rfl,h,l,rfl,hh,hl,r⟩;let⟨s1,k,s,b,i,q⟩:=wS hl ho
 let⟨s2,d,a2,n,g,e3⟩:=wS b p
 have f:cW.wrap ((h:Y)+(k:Y))=((h+k:I):Y):=by rw[addN];exact wrapN oM
 have t:cW.wrap (((h+k:I):Y)+(d:Y))=((h+k+d:I):Y):=by rw[addN];exact wrapN oM
 go_wp2
 go_ret2
 refine⟨Z,s2,h+k+d,?_,oM,oM,oM⟩;rfl
def Ret(Q:Zm->Zl->Prop)(e:Ending)(w:Zl):Prop:=∃v,e=.returned v/\Q v w
abbrev rZ(w:Zl)(Q:Zm->Zl->Prop):Go.Ending->Zl->Prop:=Ret λe w'=>yFd w.heap.size w w'/\Q e w'
abbrev dZ(f:ph)(a:R Zm)(w:Zl)(Q:Zm->Zl->Prop):Prop:=cZ f a w (rZ w Q)
abbrev eZ(f:ph)(a:R Zm)(w:Zl)(v:Zm):Prop:=cZ f a w (rZ w λe _=>e=v)
abbrev kZ(w W:Zl):Prop:=yFd w.heap.size w W
def aD(k:Obj):kZ w (w.alloc k):=(ZF _ _).alloc (Zo _) k
def below2(w:Zl)(b k:Obj):kZ w ((w.alloc b).alloc k):=(aD b).alloc (by simp) k
def below3(c b k:Obj):kZ w (((w.alloc c).alloc b).alloc k):=(below2 w c b).alloc (by simp;omega) k
def jJ(w:Zl)(d c k b:Obj):kZ w ((((w.alloc d).alloc c).alloc k).alloc b):=(below3 d c k).alloc (by simp;omega) b
def t9(x y:Zm)(m n:I)(hx:Four x m)(P:Four y n)(w:Zl):
 dZ 147 #[x,y] w λe w'=>∃(v:Zm) (s k:I),e=.tuple #[v,uZ k]/\Four v s/\k<=1/\s+top*k=m+n:=by
 obtain⟨a,b,c,d,rfl,V,C,X,hd,O⟩:=hx;obtain⟨p,q,r,s,rfl,N,K,Q,hs,en⟩:=P;let⟨s0,L,a0,j,l,e0⟩:=wS V N
 let⟨s1,A,W,o,g,e1⟩:=qI C K l
 let⟨s2,T,a2,t,f,e2⟩:=qI X Q g
 let⟨s3,z,M,i,u,e3⟩:=qI hd hs f
 have hv:val s0 s1 s2 s3+top*z=m+n:=by rw[O,en];unfold val top;omega
 go_enter func147,ntmps147;go_wp2_with (first|simp only[a0]|simp only[W]|simp only[a2]|simp only[M])
 refine Zx (by simp[results,Tryz.results147,go_sem];rfl) Z ?_;exact⟨_,Z,below3 _ _ _,_,_,z,Z,Four.mk j o t i Z,u,hv⟩
def wF(x y:Zm)(m n:I)(hx:Four x m)(P:Four y n)(w:Zl):
 dZ 224 #[x,y] w λe w'=>∃(v:Zm) (s k:I),e=.tuple #[v,uZ k]/\Four v s/\k<=1/\s+n=m+top*k:=by
 obtain⟨a,b,c,d,rfl,V,C,X,hd,O⟩:=hx;obtain⟨p,q,r,s,rfl,N,K,Q,hs,en⟩:=P;let⟨s0,L,a0,j,l,e0⟩:=Cx a p V N
 let⟨s1,A,W,o,g,e1⟩:=mC b q C K l
 let⟨s2,T,a2,t,f,e2⟩:=mC c r X Q g
 let⟨s3,z,M,i,u,e3⟩:=mC d s hd hs f
 have hv:val s0 s1 s2 s3+n=m+top*z:=by rw[O,en];unfold val top;omega
 go_enter func224,ntmps224;go_wp2_with (first|simp only[a0]|simp only[W]|simp only[a2]|simp only[M])
 refine Zx (by simp[results,Tryz.results224,go_sem];rfl) Z ?_;exact⟨_,Z,below3 _ _ _,_,_,z,Z,Four.mk j o t i Z,u,hv⟩
def kY{x:Zm}{m:I}(hx:Four x m):
 eZ 148 #[x] w x:=by
 obtain⟨a,b,c,d,rfl,f,g,i,hd,k⟩:=hx;go_enter func148,ntmps148;go_wp2;refine Zx (by simp[results,Tryz.results148,go_sem];rfl) Z ?_;exact⟨_,Z,below2 _ _ _,Z⟩
def kV{x:Zm}{m:I}(hx:Four x m):
 eZ 206 #[x] w x:=by
 obtain⟨a,b,c,d,rfl,f,g,i,hd,k⟩:=hx;go_enter func206,ntmps206;go_wp2;refine Zx (by simp[results,Tryz.results206,go_sem];rfl) Z ?_;exact⟨_,Z,below2 _ _ _,Z⟩
def CU(x a b c d:I):x*val a b c d=val (x*a) (x*b) (x*c) (x*d):=by
 unfold val;rw[te,te,te,yEc x _ b,yEc x _ c,yEc x _ d]
def tJ{x a c d p q s l0 l1 l2 l3 e h1 f m:I}(g:m=val a b c d)(en:n=val p q r s)
 (i:l0+18446744073709551616*e=x*a+p+0) (l:l1+18446744073709551616*h1=x*b+q+e)
 (j:l2+18446744073709551616*k=x*c+r+h1) (e3:l3+18446744073709551616*f=x*d+s+k) :
 l0+18446744073709551616*val l1 l2 l3 f=x*m+n:=by
 rw[g,en,CU x a b c d];unfold val;omega
def lJ(x:I)(y z:Zm)(m n:I)(hx:x<2^64)(V:Four y m)(P:Four z n)(w:Zl):
 dZ 222 #[uZ x,y,z] w λe w'=>∃(l:I) (v:Zm) (s:I),e=.tuple #[uZ l,v]/\l<2^64/\Four v s/\l+18446744073709551616*s=x*m+n:=by
 obtain⟨a,b,c,d,rfl,ha,M,hc,hd,T⟩:=V;obtain⟨p,q,r,s,rfl,Q,N,W,hs,en⟩:=P;go_enter func222,ntmps222;go_wp2_with fail
 apply(uN x a p 0 hx ha Q dC _).mono;rintro e k ⟨rfl,l0,L,rfl,t,f,C⟩;go_wp2_with fail
 apply(uN x b q L hx M N t _).mono;rintro e k ⟨rfl,l1,h1,rfl,j,A,X⟩;go_wp2_with fail
 apply(uN x c r h1 hx hc W j _).mono;rintro e k ⟨rfl,l2,K,rfl,o,i,O⟩;go_wp2_with fail
 apply(uN x d s K hx hd hs o _).mono;rintro e k ⟨rfl,l3,h3,rfl,g,u,e3⟩;go_wp2;refine Zx (by simp[results,Tryz.results222,go_sem];rfl) Z ?_;exact⟨_,Z,below3 _ _ _,l0,_,_,Z,f,Four.mk A i u g Z,tJ T en C X O e3⟩
namespace RG
inductive SV where
 | v (x:Zm)
 | p (b o:I)
 | s (b n c:I)
 | t (b n c:I) (y:Zm)
def SV.at(μ:I->I):SV->Zm
 | .v x=>x
 | .p b o=>oZ (μ b) o
 | .s b n c=>sZ (μ b) n c
 | .t b n c y=>.tuple #[sZ (μ b) n c,y]
def SV.blk:SV->GJ I
 | .v _=>F
 | .p b _=>J b
 | .s b _ _=>J b
 | .t b _ _ _=>J b
def SV.at_congr{s:SV}(h:∀b,s.blk=J b->μ b=ν b):s.at μ=s.at ν:=by
 cases s with
 | v x=>rfl
 | p b o=>show oZ (μ b) o=oZ (ν b) o;rw[h b Z]
 | s b n c=>show sZ (μ b) n c=sZ (ν b) n c;rw[h b Z]
 | t b n c y=>show Value.tuple #[sZ (μ b) n c,y]=.tuple #[sZ (ν b) n c,y];rw[h b Z]
inductive Kind where
 | stay
 | pass
 | call
 | make (b:I)
 | put (b:I)
structure It where
 dst:GJ Tmp
 need:G (Tmp × I)
 out:SV
 kind:Kind
structure Bl where
 before:G Zm
 after:G Zm
 al:GJ I
 st:GJ I
def on(L:R Hc)(i:I):Hc:=L.getD i D
def Bl.live(e:Bl)(L:Array Hc):Hc:=(e.al.map (on L)).getD H
def Bl.put(e:Bl)(L:Array Hc):Hc:=(e.st.map (on L)).getD false
def Bl.now(e:Bl)(L:Array Hc):G Zm:=if e.put L=H then e.after else e.before
def fV(h:i<L.size):on (L.setIfInBounds i H) j=(on L j || i == j):=by
 unfold on;simp only[ZB,zk];by_cases k:i=j
 .subst k;simp[h]
 simp[k]
def jU{e:Bl}(h:i<L.size):e.live (L.setIfInBounds i H)=(e.live L || e.al == J i):=by
 unfold Bl.live;cases c:e.al with
 | none=>rfl
 | some j =>
  show on _ j=(on L j || _);rw[fV h];by_cases k:i=j
  .subst k;simp
  have h1:(i == j)=D:=by simpa using k
  have b:(J j == J i)=D:=by simpa using λh=>k h.symm
  rw[h1,b]
def lN{e:Bl}(h:i<L.size):e.put (L.setIfInBounds i H)=(e.put L || e.st == J i):=by
 unfold Bl.put;cases c:e.st with
 | none=>rfl
 | some j =>
  show on _ j=(on L j || _);rw[fV h];by_cases k:i=j
  .subst k;simp
  have h1:(i == j)=D:=by simpa using k
  have b:(J j == J i)=D:=by simpa using λh=>k h.symm
  rw[h1,b]
def aF{B o:I}{cs:G Zm}(h:w.rangeAt k o cs)(c:Below B w w')(b:k<B):w'.rangeAt k o cs:=λj v hv=>by
 rw[c.cell (p:=⟨k,o+j,F⟩) b];exact h j v hv
def eM{B o:I}(h:w.there k o n)(c:Below B w w')(b:k<B):w'.there k o n:=λj d=>by
 rw[c.cell (p:=⟨k,o+j,F⟩) b,c.frozen (p:=⟨k,o+j,F⟩) b];exact h j d
def below_setCells{B k:I}{c:Zl}(b:B<=k):∀(vs:G Zm) (o:I) (w:Zl),Below B c w->Below B c (w.setCells k o vs)
 | [],_,_,h=>h
 | v :: r,o,w,h=>below_setCells b r (o+1) _ (h.setCell (p:=⟨k,o,F⟩) b v)
def setCells_size(k:I):∀(vs:G Zm) (o:I) (w:Zl),(w.setCells k o vs).heap.size=w.heap.size
 | [],_,_=>rfl
 | v :: r,o,w=>by
  rw[C8,setCells_size k r (o+1)];simp[World.setCell]
def there_setCells{k b o n:I}:∀(vs:G Zm) (i:I) (w:Zl),w.there b o n->(w.setCells k i vs).there b o n
 | [],_,_,h=>h
 | v :: r,i,w,h=>there_setCells r (i+1) _ λj c=>⟨World.isSome_setCells k [v] i w _ (h j c).1,by rw[AT];exact(h j c).2⟩
structure BelX(k0:I)(X:G I)(w w':Zl):Prop where
 os:w'.os=w.os
 tape:w'.tape=w.tape
 output:w'.output=w.output
 size:w.heap.size<=w'.heap.size
 block:∀j,j<k0->j ∉ X->w'.heap[j]? = w.heap[j]?
def BelX.below(h:BelX k [] w w'):Below k w w':=⟨h.os,h.tape,h.output,h.size,λj b=>h.block j b ZJ⟩
def BelX.drew(h:BelX k X w w'):BelX k X w w'.drew:=⟨h.os,h.tape,h.output,h.size,h.block⟩
def BelX.refl(k:I)(X:G I)(w:Zl):BelX k X w w:=⟨Z,Z,Z,Zo _,λ_ _ _=>rfl⟩
def BelX.trans{d:I}{a b c:Zl}(h:BelX d X a b)(k:BelX d X b c):BelX d X a c:=
 ⟨k.os.trans h.os,k.tape.trans h.tape,k.output.trans h.output,Zw h.size k.size,λi e hx=>(k.block i e hx).trans (h.block i e hx)⟩
structure Wd(w0:Zl)(k0:I)(X:G I)(bl:G Bl)(L:R Hc)(μ:I->I)(w:Zl):Prop where
 bel:BelX k0 X w0 w
 le:k0<=w.heap.size
 has:∀(b:I) (e:Bl),bl[b]? = J e->e.live L=H->w.rangeAt (μ b) 0 (e.now L)/\w.there (μ b) 0 e.before.length/\μ b<w.heap.size/\(k0<=μ b\/μ b∈X)
 inj:∀(b c:I) (e f:Bl),bl[b]? = J e->bl[c]? = J f->e.live L=H->f.live L=H->b≠c->μ b≠μ c
variable {w0 w w':Zl}{k0:Nat}{X:List Nat}{bl:List Bl}{L:Array Bool}{μ:Nat->Nat}
def Wd.same{d:Array Hc}(h:Wd w0 k0 X bl L μ w)(hl:∀(b:I) (e:Bl),bl[b]? = J e->e.live d=e.live L/\e.put d=e.put L):Wd w0 k0 X bl d μ w:=by
 refine⟨h.bel,h.le,λb e k hv=>?_,λb c e f k g i hf=>h.inj b c e f k g ((hl b e k).1 ▸ i) ((hl c f g).1 ▸ hf)⟩;have:=h.has b e k ((hl b e k).1 ▸ hv);unfold Bl.now at this⊢;rw[(hl b e k).2];exact this
def Wd.call(h:Wd w0 k0 X bl L μ w)(c:kZ w w'):Wd w0 k0 X bl L μ w':=by
 refine⟨h.bel.trans ⟨c.os,c.tape,c.output,c.size,λk g _=>c.block k (Zn g h.le)⟩,Zw h.le c.size,λb e d hv=>?_,h.inj⟩;let⟨h1,i,f,j⟩:=h.has b e d hv
 exact⟨aF h1 c f,eM i c f,Zn f c.size,j⟩
def upd(μ:I->I)(b k:I):I->I:=λc=>if c=b then k else μ c
structure Made(w:Zl)(k:I)(c:G Zm)(w':Zl):Prop where
 bel:kZ w w'
 le:w.heap.size<=k
 lt:k<w'.heap.size
 range:w'.rangeAt k 0 c
 there:w'.there k 0 c.length
def Made.alloc(w:Zl)(c:G Zm)(t:ZR):Made w w.heap.size c (w.alloc (.cells c.toArray t)):=by
 refine⟨aD _,Zo _,by rw[Zy];omega,λj v k=>?_,λj k=>⟨?_,xn _ _ _ _⟩⟩
 .rw[Zs,oX];simpa using k
 rw[Zs,oX];simp[k]
def Wd.make{e:Bl}(h:Wd w0 k0 X bl L μ w)(z:i<L.size)(x:bl[b]? = J e)(K:e.al=J i)(u:∀(c:I) (f:Bl),bl[c]? = J f->c≠b->f.al≠J i)
 (j:∀(c:I) (f:Bl),bl[c]? = J f->f.st≠J i) (q:e.put L=false) (t:Made w k e.before w') :
 Wd w0 k0 X bl (L.setIfInBounds i H) (upd μ b k) w':=by
 have p:∀(c:I) (f:Bl),bl[c]? = J f->f.put (L.setIfInBounds i H)=f.put L:=λc f m=>by
  rw[lN z,show(f.st == J i)=false by simpa using j c f m,xk]
 have n:∀(c:I) (f:Bl),bl[c]? = J f->c≠b->f.live (L.setIfInBounds i H)=f.live L:=λc f m j=>by
  rw[jU z,show(f.al == J i)=false by simpa using u c f m j,xk]
 have o:∀(c:I) (f:Bl),bl[c]? = J f->c≠b->f.live (L.setIfInBounds i H)=H->μ c<w.heap.size:=λc f m j hv=>(h.has c f m (n c f m j ▸ hv)).2.2.1
 have l:=t.bel;have r:=t.le;refine⟨h.bel.trans ⟨l.os,l.tape,l.output,l.size,λk A _=>l.block k (Zn A h.le)⟩,Zw h.le l.size,λc f m hv=>?_,λc d f g m hd hf y s=>?_⟩
 .by_cases j:c=b
  .subst j;rw[x]at m;obtain rfl:e=f:=ZV.inj m;have v:e.now (L.setIfInBounds i H)=e.before:=by unfold Bl.now;rw[p c e x,q];rfl
   rw[v];rw[upd,yGP Z];exact⟨t.range,t.there,t.lt,Z5 (Zw h.le r)⟩
  let⟨h1,a,q,C⟩:=h.has c f m (n c f m j ▸ hv)
  rw[upd,yGQ j];have v:f.now (L.setIfInBounds i H)=f.now L:=by unfold Bl.now;rw[p c f m]
  rw[v];exact⟨aF h1 l q,eM a l q,Zn q l.size,C⟩
 unfold upd;by_cases j:c=b
 .subst j;rw[yGP Z,yGQ (λh=>s h.symm)];exact I.ne_of_gt (Zn (o d g hd (λh=>s h.symm) y) r)
 by_cases q:d=b
 .subst q;rw[yGP Z,yGQ j];exact I.ne_of_lt (Zn (o c f m j hf) r)
 rw[yGQ j,yGQ q];exact h.inj c d f g m hd (n c f m j ▸ hf) (n d g hd q ▸ y) s
structure PutTo(k n:I)(cs:G Zm)(w w':Zl):Prop where
 os:w'.os=w.os
 tape:w'.tape=w.tape
 output:w'.output=w.output
 size:w.heap.size<=w'.heap.size
 block:∀j,j<w.heap.size->j≠k->w'.heap[j]? = w.heap[j]?
 range:w'.rangeAt k 0 cs
 there:w'.there k 0 n
def aM{k:I}:∀(vs:G Zm) (o:I) (w:Zl) (j:I),j≠k->(w.setCells k o vs).heap[j]? = w.heap[j]?
 | [],_,_,_,_=>rfl
 | v :: r,o,w,j,h=>by
  rw[C8,aM (k:=k) r (o+1) _ j h,yDn _ _ _ _ h]
def oP(k:I):∀(vs:G Zm) (o:I) (w:Zl),(w.setCells k o vs).os=w.os/\(w.setCells k o vs).tape=w.tape/\(w.setCells k o vs).output=w.output
 | [],_,_=>⟨Z,Z,Z⟩
 | v :: r,o,w=>by rw[C8];exact oP k r (o+1) _
def PutTo.store{o:I}{b:G Zm}(e:w.there k 0 n)(m:w.rangeAt k 0 b)(hl:o+vs.length<=n)(r:∀j,after[j]? = if o<=j/\j<o+vs.length then vs[j-o]? else b[j]?):PutTo k n after w (w.setCells k o vs):=by
 let⟨h1,g,p⟩:=oP k vs o w
 refine⟨h1,g,p,by rw[setCells_size];exact Zo _,λj _ c=>aM vs o w j c,λj v hv=>?_,there_setCells _ _ _ e⟩;have d:w.there k o vs.length:=λj c=>by have:=e (o+j) oM;rwa[Zs]at this
 rw[r j]at hv;rw[Zs];by_cases c:o<=j/\j<o+vs.length
 .rw[yGP c]at hv;have:=World.rangeAt_setCells_same w k o vs d (j-o) v hv;rwa[show o+(j-o)=j by omega]at this
 rw[yGQ c]at hv;have l:w.rangeAt k j [v]:=λi u f=>by
  cases i with
  | zero =>
   obtain rfl:v=u:=by simpa using f
   have:=m j v hv;rwa[Zs]at this
  | succ i=>simp at f
 have q:=World.rangeAt_setCells_apart l k o vs (ZW (by simp only[Z9,uh];omega));have:=q 0 v Z;exact this
def PutTo.whole{b:G Zm}(e:w.there k 0 b.length)(d:w.rangeAt k 0 b)(hl:after.length=b.length):PutTo k b.length after w (w.setCells k 0 after):=
 PutTo.store e d oM (λj=>by
  by_cases c:0<=j/\j<0+after.length
  .rw[yGP c];rfl
  rw[yGQ c,zl oM,zl oM])
def Wd.put{e:Bl}(h:Wd w0 k0 X bl L μ w)(t:i<L.size)(r:bl[b]? = J e)(hs:e.st=J i)(hv:e.live L=H)(m:PutTo (μ b) e.before.length e.after w w')
 (k:∀(c:I) (f:Bl),bl[c]? = J f->c≠b->f.st≠J i) (o:∀(c:I) (f:Bl),bl[c]? = J f->f.al≠J i) :
 Wd w0 k0 X bl (L.setIfInBounds i H) μ w':=by
 have l:∀(c:I) (f:Bl),bl[c]? = J f->f.live (L.setIfInBounds i H)=f.live L:=λc f n=>by
  rw[jU t,show(f.al == J i)=false by simpa using o c f n,xk]
 let⟨M,K,N,A⟩:=h.has b e r hv
 have C:=h.le;refine⟨h.bel.trans ⟨m.os,m.tape,m.output,m.size,λj q hx=>m.block j oM (λe=>A.elim (λh=>oM) (λh=>hx (e ▸ h)))⟩,Zw h.le m.size,λc f n p=>?_,λc d f g n hd hf z=>h.inj c d f g n hd (l c f n ▸ hf) (l d g hd ▸ z)⟩;rw[l c f n]at p;let⟨h1,y,s,x⟩:=h.has c f n p
 by_cases o:c=b
 .subst o;rw[r]at n;obtain rfl:e=f:=ZV.inj n;have u:e.now (L.setIfInBounds i H)=e.after:=by
   unfold Bl.now;rw[lN t,hs];simp
  rw[u];exact⟨m.range,m.there,Zn s m.size,x⟩
 have u:f.now (L.setIfInBounds i H)=f.now L:=by
  unfold Bl.now;rw[lN t,show(f.st == J i)=false by simpa using k c f n o,xk]
 rw[u];have k:=m.block (μ c) s (h.inj c b f e n r p hv o);refine⟨λj v q=>?_,λj q=>?_,Zn s m.size,x⟩
 .rw[ZP (w:=w) (a:=⟨μ c,0+j,F⟩) k];exact h1 j v q
 rw[ZP (w:=w) (a:=⟨μ c,0+j,F⟩) k,sI (w:=w) (a:=⟨μ c,0+j,F⟩) k];exact y j q
end RG
namespace RG
variable {P:ai}{ops:Array Z4}{Q:fI->Act->Zl->Prop}{w0 w:Zl}{k0:Nat}{X:List Nat}{its:List It}{bl:List Bl}{olds:List (Tmp × SV)}{a0:Act}{L:Array Bool}{μ μ' μ0:Nat->Nat}
structure Ac(its:G It)(bl:G Bl)(a0:Act)(L:R Hc)(μ:I->I)(a:Act):Prop where
 defers:a.defers=a0.defers
 size:a.tmps.size=a0.tmps.size
 got:∀(i:I) (it:It) (d:Tmp),its[i]? = J it->on L i=H->it.dst=J d->a.tmps[d]? = J (it.out.at μ)/\∀b,it.out.blk=J b->∃e:Bl,bl[b]? = J e/\e.live L=H
 rest:∀t:Tmp,(∀(i:I) (it:It),its[i]? = J it->on L i=H->it.dst≠J t)->a.tmps[t]? = a0.tmps[t]?
def bV(o:Z4)(j:I):Hc:=o.after.any (λe=>ml .any e && e.on == j)
def Ja(k:R Z4)(b:G It)(i:I)(t:Tmp):Hc:=b.zipIdx.all (λx=>x.1.dst != J t || (match k[x.2]? with|some o=>bV o i|none=>D))
def Known(c:R Z4)(i:I)(k:G It)(olds:G (Tmp × SV))(b:G (Tmp × I))(μ:I->I)(a:Act):Prop:=
 (∀(t:Tmp) (j:I) (it:It),(t,j)∈b->k[j]? = J it->a.eval (.tmp t)=it.out.at μ)/\(∀(t:Tmp) (s:SV),(t,s)∈olds->Ja c k i t=H->a.eval (.tmp t)=s.at μ)
def readB(k:R Z4)(i:I)(e:Bl):Hc:=match e.st with|none=>H|some s=>match k[s]? with|some o=>bV o i|none=>D
def Reads(k:R Z4)(i:I)(bl:G Bl)(μ:I->I)(w:Zl):Prop:=∀(b:I) (e:Bl),bl[b]? = J e->(e.al=F\/∃(o:Z4) (j:I),k[i]? = J o/\e.al=J j/\bV o j=H)->readB k i e=H->w.rangeAt (μ b) 0 e.before
def Does(P:ai)(Q:fI->Act->Zl->Prop)(bl:G Bl)(o:Z4)(it:It)(μ:I->I)(a:Act)(w:Zl)(K:Act->Zl->Prop):Kind->Prop
 | .stay=>K (a.put o.dst (it.out.at μ)) w->o.wp P a w K Q
 | .pass=>it.out=.v am
 | .call=>(∀w',kZ w w'->K (a.put o.dst (it.out.at μ)) w')->o.wp P a w K Q
 | .make b=>∀e:Bl,bl[b]? = J e->(∀(k:I) (w':Zl),Made w k e.before w'->K (a.put o.dst (it.out.at (upd μ b k))) w')->o.wp P a w K Q
 | .put b=>∀e:Bl,bl[b]? = J e->w.there (μ b) 0 e.before.length->w.rangeAt (μ b) 0 e.before->(∀w',PutTo (μ b) e.before.length e.after w w'->K (a.put o.dst (it.out.at μ)) w')->o.wp P a w K Q
def Cert(P:ai)(Q:fI->Act->Zl->Prop)(d:Zl)(c:I)(X:G I)(k:R Z4)(i:I)(b:G It)(bl:G Bl)(olds:G (Tmp × SV))(o:Z4)(it:It):Prop:=
 ∀(μ:I->I) (a:Act) (w:Zl) (K:Act->Zl->Prop),Known k i b olds it.need μ a->Reads k i bl μ w->BelX c X d w->Does P Q bl o it μ a w K it.kind
def Nv(k:G It)(bl:G Bl)(o:Z4)(it:It)(b:I):Hc:=
 (match bl[b]? with|some e=>(match e.al with|none=>H|some j=>bV o j)|none=>D) || it.need.any (λx=>bV o x.2 && (match k[x.2]? with|some jt=>jt.dst.isSome && jt.out.blk == J b|none=>D))
def BX(k:G It)(bl:G Bl)(i:I)(o:Z4)(it:It):Kind->Hc
 | .stay | .pass | .call=>bl.all (λe=>e.al != J i && e.st != J i) && (match it.out.blk with|none=>H|some b=>Nv k bl o it b)
 | .make b=>(match it.out.blk with|some c=>c == b|none=>D) && bl.zipIdx.all (λx=>x.1.st != J i && (x.1.al == J i) == (x.2 == b)) && (bl[b]?).isSome
 | .put b=>(match it.out with | .v _=>H|_=>D) && bl.zipIdx.all (λx=>x.1.al != J i && (x.1.st == J i) == (x.2 == b)) && (match bl[b]? with|some e=>(match e.al with|none=>H|some j=>bV o j)|none=>D)
def Kind.isPass:Kind->Hc
 | .pass=>H
 | _=>false
def NH(k:G It)(o:Z4)(it:It):Hc:=
 match o.guard with
 | none=>!it.kind.isPass
 | some (j,want)=>bV o j && (match k[j]? with|some jt=>jt.dst.isSome && (match jt.out with | .v (.bool b)=>(b == want) == !it.kind.isPass|_=>D)|none=>D)
def okB(k:G It)(bl:G Bl)(i:I)(o:Z4)(it:It):Hc:=
 (o.dst == it.dst) && NH k o it && o.after.all (λe=>!ml .any e || e.on<i) && it.need.all (λb=>bV o b.2 && ((k[b.2]?).bind (·.dst)) == J b.1) && BX k bl i o it it.kind
def Bn:G It->Hc
 | []=>H
 | it :: r=>(match it.dst with|none=>H|some d=>r.all (λk=>k.dst != J d)) && Bn r
def Yz(bl:G Bl)(olds:G (Tmp × SV)):Hc:=
 olds.all (λx=>(match x.2.blk with|none=>H|some b=>match bl[b]? with|some e=>e.al.isNone|none=>D))
def allB(b:R Z4)(k:G It)(bl:G Bl)(olds:G (Tmp × SV))(n:I):Hc:=
 b.size == k.length && Bn k && Yz bl olds && k.all (λit=>match it.dst with|none=>H|some d=>d<n) &&
 (fo k.length).all (λi=>match b[i]?,k[i]? with|some o,J it=>okB k bl i o it|_,_=>D)
def NY:∀ {k:G It},Bn k=H->∀(i j:I) (it b:It) (d:Tmp),k[i]? = J it->k[j]? = J b->it.dst=J d->b.dst=J d->i=j
 | [],_,i,_,_,_,_,h,_,_,_=>by simp at h
 | x :: r,h,i,j,it,b,d,hi,hj,di,dj=>by
  simp only[Bn,ZD]at h;match i,j with
  | 0,0=>rfl
  | 0,j+1 =>
   simp only[ZT,ZV.injEq]at hi;simp only[ZQ]at hj;subst hi;rw[di]at h;have:=Z7.1 h.1 b (oE hj);rw[dj]at this;simp at this
  | i+1,0 =>
   simp only[ZT,ZV.injEq]at hj;simp only[ZQ]at hi;subst hj;rw[dj]at h;have:=Z7.1 h.1 it (oE hi);rw[di]at this;simp at this
  | i+1,j+1 =>
   simp only[ZQ]at hi hj;rw[NY h.2 i j it b d hi hj di dj]
def qV{e:Bl}(k:i<L.size)(h:e.live L=H):e.live (L.setIfInBounds i H)=H:=by rw[jU k,h,CR]
def Ac.put{it:It}(h:Ac its bl a0 L μ a)(hd:Bn its=H)(p:i<L.size)(n:its[i]? = J it)(hμ:∀(b:I) (e:Bl),bl[b]? = J e->e.live L=H->μ' b=μ b)
 (o:∀d,it.dst=J d->d<a0.tmps.size) (hl:∀d,it.dst=J d->∀b,it.out.blk=J b->∃e:Bl,bl[b]? = J e/\e.live (L.setIfInBounds i H)=H)
 (v:Zm) (hv:∀d,it.dst=J d->v=it.out.at μ'):Ac its bl a0 (L.setIfInBounds i H) μ' (a.put it.dst v):=by
 have m:∀(j:I) (f:It) (d:Tmp),its[j]? = J f->on L j=H->f.dst=J d->a.tmps[d]? = J (f.out.at μ')/\∀b,f.out.blk=J b->∃e:Bl,bl[b]? = J e/\e.live (L.setIfInBounds i H)=H:=λj f d g ho c=>by
  obtain⟨h1,q⟩:=h.got j f d g ho c;refine⟨?_,λb k=>?_⟩
  .rw[h1]
   congr 1
   refine SV.at_congr λb r=>?_
   obtain⟨e,l,hl⟩:=q b r;rw[hμ b e l hl]
  obtain⟨e,l,hl⟩:=q b k;exact⟨e,l,qV p hl⟩
 cases k:it.dst with
 | none =>
  show Ac its bl a0 _ μ' a;refine⟨h.defers,h.size,λj f d g ho c=>?_,λt q=>h.rest t λj f g ho=>q j f g (by rw[fV p,ho,CR])⟩;rw[fV p]at ho;by_cases l:i=j
  .subst l;rw[n]at g;obtain rfl:it=f:=ZV.inj g;rw[k]at c;cases c
  exact m j f d g (by simpa[l]using ho) c
 | some d0 =>
  refine⟨h.defers,?_,λj f d g ho c=>?_,λt q=>?_⟩
  .show(a.tmps.setIfInBounds d0 v).size=_;rw[rh];exact h.size
  .show(a.tmps.setIfInBounds d0 v)[d]? = _/\_;rw[zk];rw[fV p]at ho;by_cases l:i=j
   .subst l;rw[n]at g;obtain rfl:it=f:=ZV.inj g;rw[k]at c;obtain rfl:d0=d:=ZV.inj c;rw[yGP Z,yGP (by rw[h.size];exact(o d0 k)),hv d0 k];exact⟨Z,hl d0 k⟩
   have o:d0≠d:=λr=>l (NY hd i j it f d0 n g k (r ▸ c))
   rw[yGQ o];exact m j f d g (by simpa[l]using ho) c
  show(a.tmps.setIfInBounds d0 v)[t]? = _;have o:d0≠t:=λl=>q i it n (by rw[fV p];simp) (by rw[k,l])
  rw[zk,yGQ o];exact h.rest t λj f g ho=>q j f g (by rw[fV p,ho,CR])
structure Inv(ops:R Z4)(its:G It)(bl:G Bl)(a0:Act)(w0:Zl)(k0:I)(X:G I)(μ0:I->I)(L:R Hc)(a:Act)(w:Zl):Prop where
 size:L.size=its.length
 cl:∀(i:I) (o:Z4),ops[i]? = J o->on L i=H->∀e∈o.after,ml .any e=H->on L e.on=H
 all:∃μ,(∀(b:I) (e:Bl),bl[b]? = J e->e.al=F->μ b=μ0 b)/\Ac its bl a0 L μ a/\Wd w0 k0 X bl L μ w/\∀(b:I) (e:Bl),bl[b]? = J e->e.put L=H->e.live L=H
def DF{o:Z4}(h:o.guard=F)(y:I->GJ Hc):rl o y=H:=by unfold rl;rw[h]
def lD{p:Bl × I->Hc}(h:bl.zipIdx.all p=H)(e:Bl)(k:bl[b]? = J e):p (e,b)=H:=
 Z7.1 h (e,b) (by rw[yDe];exact k)
def two{s t:GJ I}{c:I}(h:(s != J i && (t == J i) == (c == b))=H):s≠J i/\(t=J i↔c=b):=by
 rw[ZD]at h;refine⟨by simpa using h.1,?_⟩;have k:(t == J i)=(c == b):=by simpa using h.2
 constructor
 .intro d;rw[d]at k;simpa using k.symm
 intro d;rw[d]at k;simpa using k
def step{o:Z4}{it:It}(hd:Bn its=H)(ho:ops[i]? = J o)(hr:its[i]? = J it)(kd:okB its bl i o it=H)(hy:∀d,it.dst=J d->d<a0.tmps.size)
 (holds:∀(t:Tmp) (s:SV),(t,s)∈olds->a0.tmps[t]? = J (s.at μ0)/\∀b,s.blk=J b->∃e:Bl,bl[b]? = J e/\e.al=F)
 (l:∀(j:I) (oj:Z4) (T:It),ops[j]? = J oj->its[j]? = J T->oj.dst=T.dst) (O:ops.size=its.length) (C:Cert P Q w0 k0 X ops i its bl olds o it) (k1:on L i=D) (k2:∀e∈o.after,ml .any e=H->on L e.on=H) (h:Inv ops its bl a0 w0 k0 X μ0 L a w) :
 wpOp P ops Q i (Inv ops its bl a0 w0 k0 X μ0 (L.setIfInBounds i H)) a w:=by
 obtain⟨kc,k8,μ,hμ,hA,hW,hO⟩:=h;have N:i<L.size:=by rw[kc];exact(Zz.1 hr).1
 simp only[okB,ZD]at kd;obtain⟨⟨⟨⟨ka,hg⟩,kh⟩,k5⟩,g⟩:=kd;have K:o.dst=it.dst:=by simpa using ka
 have r:∀j,bV o j=H->on L j=H:=λj hj=>by
  obtain⟨e,he,m⟩:=yt.1 hj;simp only[ZD,beq_iff_eq]at m;rw[<-m.2];exact k2 e he m.1
 have k7:rl o (yielded ops a.tmps) = !it.kind.isPass:=by
  unfold rl;unfold NH at hg;cases k9:o.guard with
  | none=>rw[k9]at hg;dsimp only at hg⊢;rw[hg]
  | some jw =>
   obtain⟨j,q⟩:=jw;rw[k9]at hg;dsimp only at hg⊢;rw[ZD]at hg;cases hj:its[j]? with
   | none=>rw[hj]at hg;cases hg.2
   | some T =>
    rw[hj]at hg;obtain⟨h1,A⟩:=hg;dsimp only at A;rw[ZD]at A;obtain⟨d,W⟩:=Z8.1 A.1;have kb:j<its.length:=(Zz.1 hj).1;have M:ops[j]? = J (ops[j]'(by rw[O];exact kb)):=ZS _;have V:=(hA.got j T d hj (r j h1) W).1;have h4:yielded ops a.tmps j=match T.out.at μ with | .bool b=>J b|_=>F:=by
     unfold yielded;rw[M];show(match (ops[j]'(by rw[O];exact kb)).dst.bind (a.tmps[·]?) with|some (.bool b)=>J b|_=>F)=_;rw[l j _ T M hj,W];show(match a.tmps[d]? with|some (.bool b)=>J b|_=>F)=_;rw[V];cases T.out.at μ<;>rfl
    rw[h4];have l:=A.2;cases n:T.out with
    | p b x=>rw[n]at l;cases l
    | s b x y=>rw[n]at l;cases l
    | t b x y z=>rw[n]at l;cases l
    | v x =>
     rw[n]at l;cases x with
     | bool b =>
      show(J b == J q)=_;dsimp only at l;have:(b == q) = !it.kind.isPass:=by simpa using l
      rw[<-this];cases b<;>cases q<;>rfl
     | _=>cases l
 have hK:Known ops i its olds it.need μ a:=by
  refine⟨λt j T hm hj=>?_,λt s hm k4=>?_⟩
  .have h1:=Z7.1 k5 (t,j) hm;simp only[ZD,hj]at h1;have A:T.dst=J t:=by simpa using h1.2
   have V:=(hA.got j T t hj (r j h1.1) A).1;show a.tmps.getD t am=_;rw[ZB,V];rfl
  obtain⟨A,V⟩:=holds t s hm;have h4:=hA.rest t (λj T hj hn W=>by
   have l:=Z7.1 k4 (T,j) (by rw[yDe];exact hj);dsimp only at l;rw[W]at l;cases M:ops[j]? with
   | none=>rw[M]at l;simp at l
   | some oj =>
    rw[M]at l;have q:bV oj i=H:=by simpa using l
    obtain⟨e',k3,O⟩:=yt.1 q;simp only[ZD,beq_iff_eq]at O;have:=k8 j oj M hn e' k3 O.1;rw[O.2,k1]at this;cases this)
  show a.tmps.getD t am=_;rw[ZB,h4,A];show s.at μ0=s.at μ;refine SV.at_congr λb m=>?_
  obtain⟨e,he,q⟩:=V b m;rw[hμ b e he q]
 have hR:Reads ops i bl μ w:=λb e m q h0=>by
  have:=(hW.has b e m (by
   unfold Bl.live;rcases q with q|⟨W,j,l,q,hd⟩
   .rw[q];rfl
   rw[q];show on L j=H;rw[ho]at l;obtain rfl:=ZV.inj l;exact r j hd)).1
  unfold Bl.now Bl.put at this;unfold readB at h0;cases hs:e.st with
  | none=>rw[hs]at this;exact this
  | some s =>
   rw[hs]at this h0;dsimp only at h0;cases l:ops[s]? with
   | none=>rw[l]at h0;cases h0
   | some os =>
    rw[l]at h0;have W:on L s=D:=by
     cases hn:on L s with
     | false=>rfl
     | true =>
      obtain⟨e',k3,O⟩:=yt.1 h0;simp only[ZD,beq_iff_eq]at O;have:=k8 s os l hn e' k3 O.1;rw[O.2,k1]at this;cases this
    rw[show(GJ.map (on L) (J s)).getD D=on L s from Z,W]at this;exact this
 have hw:∀b,Nv its bl o it b=H->∃e:Bl,bl[b]? = J e/\e.live L=H:=λb m=>by
  unfold Nv at m;rw[xj]at m;rcases m with A|A
  .cases he:bl[b]? with
   | none=>rw[he]at A;cases A
   | some e =>
    rw[he]at A;dsimp only at A;refine⟨e,Z,?_⟩;unfold Bl.live;cases q:e.al with
    | none=>rfl
    | some j=>rw[q]at A;exact r j A
  obtain⟨x,hx,V⟩:=G.any_eq_true.1 A;rw[ZD]at V;cases hj:its[x.2]? with
  | none=>rw[hj]at V;cases V.2
  | some T =>
   rw[hj]at V;dsimp only at V;rw[ZD]at V;obtain⟨d,l⟩:=Z8.1 V.2.1;exact(hA.got x.2 T d hj (r x.2 V.1) l).2 b (by simpa using V.2.2)
 have V:∀(j:I) (oj:Z4),ops[j]? = J oj->on (L.setIfInBounds i H) j=H->∀e∈oj.after,ml .any e=H->on (L.setIfInBounds i H) e.on=H:=λj oj M hn e he m=>by
  rw[fV N]at hn⊢;by_cases l:i=j
  .subst l;rw[ho]at M;obtain rfl:o=oj:=ZV.inj M;rw[k2 e he m,CR]
  rw[k8 j oj M (by simpa[l]using hn) e he m,CR]
 have W:(L.setIfInBounds i H).size=its.length:=by rw[rh];exact kc
 have hC:=C μ a w (Inv ops its bl a0 w0 k0 X μ0 (L.setIfInBounds i H)) hK hR hW.bel;unfold wpOp;rw[ho];dsimp only;rw[k7];cases hk:it.kind with
 | pass =>
  rw[hk]at hC g;simp only[BX,ZD]at g;have T:∀(b:I) (e:Bl),bl[b]? = J e->e.al≠J i/\e.st≠J i:=λb e m=>by simpa using Z7.1 g.1 e (oE m)
  have l:∀(b:I) (e:Bl),bl[b]? = J e->e.live (L.setIfInBounds i H)=e.live L/\e.put (L.setIfInBounds i H)=e.put L:=λb e m =>
   ⟨by rw[jU N,show(e.al == J i)=D by simpa using(T b e m).1,xk],by rw[lN N,show(e.st == J i)=D by simpa using(T b e m).2,xk]⟩
  show Inv ops its bl a0 w0 k0 X μ0 (L.setIfInBounds i H) (a.put o.dst am) w;refine⟨W,V,μ,hμ,?_,hW.same l,λb e m=>by rw[(l b e m).1,(l b e m).2];exact hO b e m⟩;rw[K];have n:it.out=.v am:=hC;refine hA.put hd N hr (λ_ _ _ _=>rfl) hy (λ_ _ b hq=>?_) _ (λ_ _=>by rw[n];rfl);rw[n]at hq;cases hq
 | stay =>
  rw[hk]at hC g;simp only[BX,ZD]at g;show o.wp P a w _ Q\/_;left;refine hC ?_;have T:∀(b:I) (e:Bl),bl[b]? = J e->e.al≠J i/\e.st≠J i:=λb e m=>by simpa using Z7.1 g.1 e (oE m)
  have l:∀(b:I) (e:Bl),bl[b]? = J e->e.live (L.setIfInBounds i H)=e.live L/\e.put (L.setIfInBounds i H)=e.put L:=λb e m =>
   ⟨by rw[jU N,show(e.al == J i)=D by simpa using(T b e m).1,xk],by rw[lN N,show(e.st == J i)=D by simpa using(T b e m).2,xk]⟩
  refine⟨W,V,μ,hμ,?_,hW.same l,λb e m=>by rw[(l b e m).1,(l b e m).2];exact hO b e m⟩;rw[K];refine hA.put hd N hr (λ_ _ _ _=>rfl) hy (λ_ _ b hq=>?_) _ (λ_ _=>rfl);have A:=g.2;rw[hq]at A;obtain⟨e,he,hl⟩:=hw b A;exact⟨e,he,qV N hl⟩
 | call =>
  rw[hk]at hC g;simp only[BX,ZD]at g;show o.wp P a w _ Q\/_;left;refine hC λw' O=>?_
  have T:∀(b:I) (e:Bl),bl[b]? = J e->e.al≠J i/\e.st≠J i:=λb e m=>by simpa using Z7.1 g.1 e (oE m)
  have l:∀(b:I) (e:Bl),bl[b]? = J e->e.live (L.setIfInBounds i H)=e.live L/\e.put (L.setIfInBounds i H)=e.put L:=λb e m =>
   ⟨by rw[jU N,show(e.al == J i)=D by simpa using(T b e m).1,xk],by rw[lN N,show(e.st == J i)=D by simpa using(T b e m).2,xk]⟩
  refine⟨W,V,μ,hμ,?_,(hW.call O).same l,λb e m=>by rw[(l b e m).1,(l b e m).2];exact hO b e m⟩;rw[K];refine hA.put hd N hr (λ_ _ _ _=>rfl) hy (λ_ _ b hq=>?_) _ (λ_ _=>rfl);have A:=g.2;rw[hq]at A;obtain⟨e,he,hl⟩:=hw b A;exact⟨e,he,qV N hl⟩
 | make b =>
  rw[hk]at hC g;simp only[BX,ZD]at g;obtain⟨⟨n,hz⟩,h7⟩:=g;obtain⟨e,l⟩:=Z8.1 h7;have ha:e.al=J i:=(two (lD hz e l)).2.2 Z;have O:∀(c:I) (f:Bl),bl[c]? = J f->f.st≠J i:=λc f C=>(two (lD hz f C)).1
  have h9:∀(c:I) (f:Bl),bl[c]? = J f->c≠b->f.al≠J i:=λc f C ht h=>ht ((two (lD hz f C)).2.1 h)
  have h8:e.live L=D:=by unfold Bl.live;rw[ha];exact k1
  have hpt:e.put L=D:=by
   cases hp:e.put L with
   | false=>rfl
   | true=>have:=hO b e l hp;rw[h8]at this;cases this
  have k6:it.out.blk=J b:=by
   cases T:it.out.blk with
   | none=>rw[T]at n;cases n
   | some c =>
    rw[T]at n;rw[show c=b by simpa using n]
  show o.wp P a w _ Q\/_;left;refine hC e l λk w' hm=>?_
  have hμb:∀(c:I) (f:Bl),bl[c]? = J f->f.live L=H->upd μ b k c=μ c:=λc f C hl=>by
   unfold upd;rw[yGQ];rintro rfl;rw[l]at C;obtain rfl:e=f:=ZV.inj C;rw[h8]at hl;cases hl
  refine⟨W,V,upd μ b k,λc f C q=>?_,?_,hW.make N l ha h9 O hpt hm,λc f C=>?_⟩
  .rw[hμb c f C (by unfold Bl.live;rw[q];rfl)];exact hμ c f C q
  .rw[K];refine hA.put hd N hr hμb hy (λ_ _ c hu=>?_) _ (λ_ _=>rfl);rw[k6]at hu;have h1:b=c:=ZV.inj hu;subst h1;exact⟨e,l,by rw[jU N,ha];simp⟩
  rw[lN N,show(f.st == J i)=D by simpa using O c f C,xk];exact λhp=>qV N (hO c f C hp)
 | put b =>
  rw[hk]at hC g;simp only[BX,ZD]at g;obtain⟨⟨n,hz⟩,h7⟩:=g;cases l:bl[b]? with
  | none=>rw[l]at h7;cases h7
  | some e =>
   rw[l]at h7;dsimp only at h7;have hs:e.st=J i:=(two (lD hz e l)).2.2 Z;have h9:∀(c:I) (f:Bl),bl[c]? = J f->f.al≠J i:=λc f C=>(two (lD hz f C)).1
   have O:∀(c:I) (f:Bl),bl[c]? = J f->c≠b->f.st≠J i:=λc f C ht h=>ht ((two (lD hz f C)).2.1 h)
   have h8:e.live L=H:=by
    unfold Bl.live;cases q:e.al with
    | none=>rfl
    | some j =>
     have A:=h7;rw[q]at A;exact r j A
   show o.wp P a w _ Q\/_;left;have kg:e.put L=D:=by unfold Bl.put;rw[hs];exact k1
   have A:e.now L=e.before:=by unfold Bl.now;rw[kg];rfl
   refine hC e l (hW.has b e l h8).2.1 (A ▸ (hW.has b e l h8).1) λw' ke=>?_
   refine⟨W,V,μ,hμ,?_,hW.put N l hs h8 ke O h9,λc f C hp=>?_⟩
   .rw[K];refine hA.put hd N hr (λ_ _ _ _=>rfl) hy (λd kf c hu=>?_) _ (λd kf=>rfl);cases T:it.out with
    | v x=>rw[T]at hu;cases hu
    | p x y=>rw[T]at n;cases n
    | s x y z=>rw[T]at n;cases n
    | t x y z u=>rw[T]at n;cases n
   rw[jU N,show(f.al == J i)=D by simpa using h9 c f C,xk];rw[lN N]at hp;by_cases ht:c=b
   .subst ht;rw[l]at C;obtain rfl:e=f:=ZV.inj C;exact h8
   rw[show(f.st == J i)=D by simpa using O c f C ht,xk]at hp;exact hO c f C hp
end RG
namespace RG
variable {P:ai}{ops:Array Z4}{Q:fI->Act->Zl->Prop}{w0 w:Zl}{k0:Nat}{X:List Nat}{its:List It}{bl:List Bl}{olds:List (Tmp × SV)}{a0:Act}{L:Array Bool}{μ μ0:Nat->Nat}
def puts(μ:I->I):G It->Act->Act
 | [],a=>a
 | it :: r,a=>puts μ r (a.put it.dst (it.out.at μ))
def oW(μ:I->I):∀(k:G It) (a:Act),(puts μ k a).defers=a.defers
 | [],_=>rfl
 | it :: r,a=>by
  rw[puts,oW μ r];cases it.dst<;>rfl
def tY(a:Act)(d:GJ Tmp)(v:Zm):(a.put d v).tmps.size=a.tmps.size:=by
 cases d with
 | none=>rfl
 | some d=>exact rh ..
def BO(μ:I->I):∀(k:G It) (a:Act),(puts μ k a).tmps.size=a.tmps.size
 | [],_=>rfl
 | it :: r,a=>by rw[puts,BO μ r,tY]
def qS(a:Act){d:GJ Tmp}(v:Zm){t:Tmp}(h:d≠J t):(a.put d v).tmps[t]? = a.tmps[t]?:=by
 cases d with
 | none=>rfl
 | some d =>
  show(a.tmps.setIfInBounds d v)[t]? = _;rw[zk,yGQ (λe=>h (by rw[e]))]
def nD(μ:I->I):∀(k:G It) (a:Act) (t:Tmp),(∀it∈k,it.dst≠J t)->(puts μ k a).tmps[t]? = a.tmps[t]?
 | [],_,_,_=>rfl
 | it :: r,a,t,h=>by
  rw[puts,nD μ r _ t (λx hx=>h x (ps _ hx)),qS a _ (h it pw)]
def vT{μ:I->I}:∀(k:G It) (a:Act) (i:I) (it:It) (d:Tmp),Bn k=H->k[i]? = J it->it.dst=J d->d<a.tmps.size->(puts μ k a).tmps[d]? = J (it.out.at μ)
 | [],_,i,_,_,_,h,_,_=>by simp at h
 | x :: r,a,0,it,d,hB,h,hd,hs=>by
  obtain rfl:x=it:=by simpa using h
  simp only[Bn,ZD,hd]at hB;rw[puts,nD μ r _ d (λy b=>by simpa using Z7.1 hB.1 y b),hd];show(a.tmps.setIfInBounds d _)[d]? = _;rw[zk,yGP Z,yGP hs]
 | x :: r,a,i+1,it,d,hB,h,hd,hs=>by
  simp only[Bn,ZD]at hB;rw[puts];exact vT r _ i it d hB.2 (by simpa using h) hd (by rw[tY];exact hs)
def Act.ext'{b:Act}(h1:a.tmps=b.tmps)(k:a.defers=b.defers):a=b:=by
 cases a;cases b;subst h1;subst k;rfl
def Ac.done(h:Ac its bl a0 L μ a)(g:Bn its=H)(c:∀it∈its,∀d,it.dst=J d->d<a0.tmps.size)(b:∀i,i<its.length->on L i=H):a=puts μ its a0:=by
 refine Act.ext' ?_ (by rw[oW];exact h.defers);apply yDY;intro t;by_cases e:∃(i:I) (it:It),its[i]? = J it/\it.dst=J t
 .obtain⟨i,it,k,hd⟩:=e;rw[(h.got i it t k (b i (Zz.1 k).1) hd).1,vT (μ:=μ) its a0 i it t g k hd (c it (oE k) t hd)]
 rw[h.rest t (λi it k _ hd=>e ⟨i,it,k,hd⟩),nD μ its a0 t (λit f hd=>?_)];obtain⟨i,k⟩:=zb f;exact e ⟨i,it,k,hd⟩
def unl(L:R Hc):I:=L.toList.countP (λb=>!b)
def count_set:∀(l:G Hc) (i:I),l[i]? = J D->(l.set i H).countP (λb=>!b)+1=l.countP (λb=>!b)
 | [],i,h=>by simp at h
 | x :: r,0,h=>by
  obtain rfl:x=D:=by simpa using h
  simp
 | x :: r,i+1,h=>by
  have:=count_set r i (by simpa using h);rw[G.set_cons_succ,yFJ,yFJ];omega
def sW(h:L.getD i H=D):unl (L.setIfInBounds i H)+1=unl L:=by
 rw[unl,R.toList_setIfInBounds];refine count_set _ _ ?_;rw[qi];rw[ZB]at h;cases hh:L[i]? with
 | none=>rw[hh]at h;cases h
 | some b=>rw[hh]at h;rw[show b=D from h]
def sU(h:unl L=0)(k:i<L.size):on L i=H:=by
 rw[on,ZB,ZS k];simpa using((G.countP_eq_zero.1 h) L[i] (by simp))
structure Reg(P:ai)(ops:R Z4)(Q:fI->Act->Zl->Prop)(w0:Zl)(k0:I)(X:G I)(its:G It)(bl:G Bl)(olds:G (Tmp × SV))(a0:Act)(μ0:I->I):Prop where
 chk:allB ops its bl olds a0.tmps.size=H
 old:∀(t:Tmp) (s:SV),(t,s)∈olds->a0.tmps[t]? = J (s.at μ0)
 cert:∀(i:I) (o:Z4) (it:It),ops[i]? = J o->its[i]? = J it->Cert P Q w0 k0 X ops i its bl olds o it
def Reg.step{o:Z4}(R:Reg P ops Q w0 k0 X its bl olds a0 μ0)(ho:ops[i]? = J o)(v:on L i=false)(n:∀e∈o.after,ml .any e=H->on L e.on=H)(h:Inv ops its bl a0 w0 k0 X μ0 L a w):
 wpOp P ops Q i (Inv ops its bl a0 w0 k0 X μ0 (L.setIfInBounds i H)) a w:=by
 have x:=R.chk;simp only[allB,ZD,beq_iff_eq]at x;let⟨⟨⟨⟨l,hd⟩,g⟩,u⟩,m⟩:=x
 have y:i<its.length:=by rw[<-l];exact(ZO.1 ho).1
 let⟨it,k⟩:∃it,its[i]? = J it:=⟨its[i],ZH y⟩
 have h1:=Z7.1 m i (p9.2 y);rw[ho,k]at h1;refine RG.step (olds:=olds) hd ho k h1 (λd p=>?_) (λt s z=>?_) (λj M K q f=>?_) l (R.cert i o it ho k) v n h
 .have:=Z7.1 u it (oE k);rw[p]at this;simpa using this
 .have C:=Z7.1 g (t,s) z;refine⟨R.old t s z,λb r=>?_⟩;have c:=C;dsimp only at c;rw[r]at c;dsimp only at c;cases A:bl[b]? with
  | none=>rw[A]at c;cases c
  | some e=>rw[A]at c;exact⟨e,Z,by simpa using c⟩
 have c:=Z7.1 m j (p9.2 (Zz.1 f).1);rw[q,f]at c;simp only[okB,ZD]at c;simpa using c.1.1.1.1
def Reg.back{o:Z4}(R:Reg P ops Q w0 k0 X its bl olds a0 μ0)(ho:ops[i]? = J o):i<its.length/\∀e∈o.after,ml .any e=H->e.on<i:=by
 have d:=R.chk;simp only[allB,ZD,beq_iff_eq]at d;let⟨⟨⟨⟨c,hd⟩,f⟩,g⟩,k⟩:=d
 have b:i<its.length:=by rw[<-c];exact(ZO.1 ho).1
 have h1:=Z7.1 k i (p9.2 b);rw[ho,ZH b]at h1;simp only[okB,ZD]at h1;refine⟨b,λe j l=>?_⟩;have:=ul.1 h1.1.1.2 e j;simpa[l]using this
def Reg.size(R:Reg P ops Q w0 k0 X its bl olds a0 μ0):ops.size=its.length:=by
 have k:=R.chk;simp only[allB,ZD,beq_iff_eq]at k;exact k.1.1.1.1
def Reg.full(R:Reg P ops Q w0 k0 X its bl olds a0 μ0)(h:Inv ops its bl a0 w0 k0 X μ0 L a w)(f:ZX .any ops L=[]):∀i,i<its.length->on L i=H:=by
 intro i;induction i using yFX with
 | ind i ih =>
  intro c;have ho:ops[i]? = J (ops[i]'(by rw[R.size];exact c)):=ZS _;cases k:on L i with
  | true=>rfl
  | false =>
   have:i∈ZX .any ops L:=mem_ready.2 ⟨?_,_,ho,λe d g=>?_⟩
   .rw[f]at this;cases this
   .unfold on at k;rw[ZB,ZS (by rw[h.size];exact c)]at k⊢;exact k
   have b:=(R.back ho).2 e d g;exact ih e.on b (yEm b c)
def ad(ks:G I)(b:I):I:=ks.getD b 0
structure St(w0:Zl)(k0:I)(X:G I)(cs:G (G Zm))(ks:G I)(w:Zl):Prop where
 bel:BelX k0 X w0 w
 le:k0<=w.heap.size
 len:ks.length=cs.length
 has:∀(b:I) (c:G Zm),cs[b]? = J c->w.rangeAt (ad ks b) 0 c/\w.there (ad ks b) 0 c.length/\ad ks b<w.heap.size/\(k0<=ad ks b\/ad ks b∈X)
 inj:∀(b c:I),b<cs.length->c<cs.length->b≠c->ad ks b≠ad ks c
def St.drew{cs:G (G Zm)}(h:St w0 k0 X cs ks w):St w0 k0 X cs ks w.drew:=⟨h.bel.drew,h.le,h.len,h.has,h.inj⟩
def Bl.fin(e:Bl):G Zm:=if e.st.isSome=H then e.after else e.before
def oI(bl:G Bl)(n:I):Hc:=bl.zipIdx.all (λx=>x.1.al.isNone == decide (x.2<n)) && decide (n<=bl.length)
def BF{s:R Z4}{cs:G (G Zm)}(p:St w0 k0 X cs ks w)(v:oI bl cs.length=H)(t:(bl.map (·.before)).take cs.length=cs):
 Inv s its bl a0 w0 k0 X (ad ks) (ZA its.length D) a0 w:=by
 simp only[oI,ZD]at v;have g:∀i,on (ZA its.length D) i=D:=λi=>by
  rw[on,ZB,yDu];by_cases h:i<its.length
  .rw[yGP h];rfl
  rw[yGQ h];rfl
 have k:∀(b:I) (e:Bl),bl[b]? = J e->e.live (ZA its.length D)=H->b<cs.length:=λb e l hl=>by
  unfold Bl.live at hl;cases m:e.al with
  | none=>simpa[m]using(lD v.1 e l)
  | some j=>rw[m]at hl;have:on (ZA its.length D) j=H:=hl;rw[g]at this;cases this
 have m:∀e:Bl,e.put (ZA its.length D)=D:=λe=>by
  unfold Bl.put;cases e.st with
  | none=>rfl
  | some j=>exact g j
 have n:∀(b:I) (e:Bl),bl[b]? = J e->b<cs.length->cs[b]? = J e.before:=λb e l q=>by
  rw[<-t,xp,yGP q,rm,l];rfl
 refine⟨ZL,(λi o _ h=>by rw[g]at h;cases h),ad ks,λ_ _ _ _=>rfl,⟨Z,Z,λi it d z ho=>?_,λ_ _=>rfl⟩,⟨p.bel,p.le,λb e l hl=>?_,λb c e f l y x hf r=>p.inj b c (k b e l x) (k c f y hf) r⟩,λb e l u=>?_⟩
 .rw[g]at ho;cases ho
 .rw[Bl.now,m e];exact p.has b e.before (n b e l (k b e l hl))
 rw[m e]at u;cases u
def Inv.done{cs:G (G Zm)}(R:Reg P ops Q w0 k0 X its bl olds a0 (ad ks))(h:Inv ops its bl a0 w0 k0 X (ad ks) L a w)(o:ks.length=cs.length)(T:oI bl cs.length=H)(k:∀i,i<its.length->on L i=H)
 (p:∀e∈bl,∀j,e.al=J j\/e.st=J j->j<its.length) (s:∀e∈bl,e.fin.length=e.before.length)
 (W:∀(new:G I) (w':Zl),new.length=bl.length-cs.length->St w0 k0 X (bl.map Bl.fin) (ks++new) w'->Q .normal (puts (ad (ks++new)) its a0) w'):Q .normal a w:=by
 obtain⟨M,-,μ,hμ,K,z,hO⟩:=h;have V:=R.chk;simp only[allB,ZD,beq_iff_eq]at V;obtain⟨⟨⟨⟨y,hd⟩,u⟩,v⟩,O⟩:=V;have h0:=T;simp only[oI,ZD,decide_eq_true_eq]at T;have f:∀(b:I) (e:Bl),bl[b]? = J e->e.live L=H:=λb e l=>by
  unfold Bl.live;cases g:e.al with
  | none=>rfl
  | some j=>exact k j (p e (oE l) j (Z5 g))
 have t:∀(b:I) (e:Bl),bl[b]? = J e->e.now L=e.fin:=λb e l=>by
  unfold Bl.now Bl.put Bl.fin;cases g:e.st with
  | none=>rfl
  | some j =>
   have:=k j (p e (oE l) j (ZW g));simp[this]
 have g:∀b,b<bl.length->ad (ks++(fo (bl.length-cs.length)).map (λj=>μ (cs.length+j))) b=μ b:=λb l=>by
  rw[ad,yBI];by_cases n:b<cs.length
  .rw[uo (by rw[o];exact n)];obtain⟨e,m⟩:∃e,bl[b]? = J e:=⟨bl[b],ZH l⟩
   have h1:=lD T.1 e m;rw[hμ b e m (by simpa[n]using h1)];rw[ad,yBI]
  rw[xS (by rw[o];omega),rm,o,G.getElem?_range oM];show μ (cs.length+(b-cs.length))=μ b
  congr 1
  omega
 have q:=K.done hd (λit N d n=>by
  have:=Z7.1 v it N;rw[n]at this;simpa using this) k
 have C:puts μ its a0=puts (ad (ks++(fo (bl.length-cs.length)).map (λj=>μ (cs.length+j)))) its a0:=by
  have key:∀it∈its,∀d,it.dst=J d->it.out.at μ=it.out.at (ad (ks++(fo (bl.length-cs.length)).map (λj=>μ (cs.length+j)))):=λit N d n=>by
   obtain⟨i,A⟩:=zb N;refine SV.at_congr λb l=>?_
   obtain⟨e,m,-⟩:=((K.got i it d A (k i (Zz.1 A).1) n).2) b l;rw[g b (Zz.1 m).1]
  clear K q u O v hd y M R k p W;generalize a0=A;induction its generalizing A with
  | nil=>rfl
  | cons it r ih =>
   rw[puts,puts];have h1:A.put it.dst (it.out.at μ)=A.put it.dst (it.out.at (ad (ks++(fo (bl.length-cs.length)).map (λj=>μ (cs.length+j))))):=by
    cases n:it.dst with
    | none=>rfl
    | some d=>rw[key it pw d n]
   rw[h1];exact ih (λx hx=>key x (ps _ hx)) _
 rw[q,C];refine W _ w (by simp) ⟨z.bel,z.le,?_,λb c p=>?_,λb c l p A=>?_⟩
 .simp only[Zv,ZI,G.length_range];omega
 .rw[rm]at p;cases m:bl[b]? with
  | none=>rw[m]at p;cases p
  | some e =>
   rw[m]at p;obtain rfl:e.fin=c:=ZV.inj p;have h1:=z.has b e m (f b e m);rw[t b e m]at h1;rw[g b (Zz.1 m).1,s e (oE m)];exact h1
 rw[ZI]at l p;rw[g b l,g c p];exact z.inj b c _ _ (ZH l) (ZH p) (f b _ (ZH l)) (f c _ (ZH p)) A
def region_draws'{id:I}{cs:G (G Zm)}(x:P.follows .mixedOrders=H)(q:St w0 k0 X cs ks w)(R:Reg P ops Q w0 k0 X its bl olds a0 (ad ks))(r:oI bl cs.length=H)(n:(bl.map (·.before)).take cs.length=cs)(hE:(∀e∈bl,∀j,e.al=J j\/e.st=J j->j<its.length)/\∀e∈bl,e.fin.length=e.before.length)
 (s:∀(new:G I) (w':Zl),new.length=bl.length-cs.length->St w0 k0 X (bl.map Bl.fin) (ks++new) w'->Q .normal (puts (ad (ks++new)) its a0) w'):(gH id ops H).wp P Q a0 w:=by
 let⟨l,c⟩:=hE
 have key:∀(k:I) (L:Array Hc) (a:Act) (w:Zl),unl L=k->Inv ops its bl a0 w0 k0 X (ad ks) L a w->wpAny P .any ops Q k L a w:=by
  intro k;induction k with
  | zero =>
   intro L a w t f;have d:∀i,i<its.length->on L i=H:=λi m=>sU t (by rw[f.size];exact m)
   refine⟨?_,f.done R q.len r d l c s⟩;apply yEj.2;intro i m;obtain⟨h1,o,ho,-⟩:=mem_ready.1 m;have g:=d i (R.back ho).1;unfold on at g;rw[ZB]at h1 g;cases hh:L[i]? with
   | none=>rw[hh]at h1;cases h1
   | some b=>rw[hh]at h1 g;rw[show b=D from h1]at g;cases g
  | succ k ih =>
   intro L a w t f;refine⟨λv=>f.done R q.len r (R.full f v) l c s,λi m=>?_⟩;let⟨h1,o,ho,d⟩:=mem_ready.1 m
   have g:on L i=D:=by
    unfold on;rw[ZB]at h1⊢;cases hh:L[i]? with
    | none=>rfl
    | some b=>rw[hh]at h1;exact h1
   exact xm (λu w' p=>ih _ u w' (oN (sW h1)) p) (R.step ho g d f)
 refine wp_region_any x (key _ _ a0 _ ?_ ?_)
 .rw[unl,yE1,yFb];simp
 rw[R.size];exact BF q.drew r n
def region_text'{id:I}{cs:G (G Zm)}(o:St w0 k0 X cs ks w)(R:Reg P ops Q w0 k0 X its bl olds a0 (ad ks))(p:oI bl cs.length=H)(l:(bl.map (·.before)).take cs.length=cs)(hE:(∀e∈bl,∀j,e.al=J j\/e.st=J j->j<its.length)/\∀e∈bl,e.fin.length=e.before.length)
 (f:∀(new:G I) (w':Zl),new.length=bl.length-cs.length->St w0 k0 X (bl.map Bl.fin) (ks++new) w'->Q .normal (puts (ad (ks++new)) its a0) w'):(gH id ops D).wp P Q a0 w:=by
 let⟨g,k⟩:=hE
 have key:∀(m i:I) (L:Array Hc) (a:Act) (w:Zl),i+m=its.length->(∀j,j<its.length->on L j=decide (j<i))->Inv ops its bl a0 w0 k0 X (ad ks) L a w->wpOps P ops Q (G.range' i m) a w:=by
  intro m;induction m with
  | zero =>
   intro i L a w s b d;exact d.done R o.len p (λj c=>by rw[b j c];simp;omega) g k f
  | succ m ih =>
   intro i L a w s b d;rw[G.range'_succ,wpOps_cons];have ho:ops[i]? = J (ops[i]'(by rw[R.size];omega)):=ZS _;refine xm (λr w' n=>ih (i+1) _ r w' oM (λj c=>?_) n) (R.step ho (by rw[b i oM];simp) (λe t q=>?_) d)
   .rw[fV (by rw[d.size];omega),b j c];by_cases h1:j<i
    .simp[h1];omega
    by_cases f:i=j
    .subst f;simp
    have:¬j<i+1:=oM;simp[h1,f,this]
   have f:=(R.back ho).2 e t q;rw[b e.on oM];simpa using f
 refine wp_region ?_;rw[G.range_eq_range',R.size];refine key its.length 0 (ZA its.length D) a0 w oM (λj c=>?_) (BF o p l);rw[on,ZB,yDu,yGP c];simp
end RG
namespace RG
variable {P:ai}{Q:fI->Act->Zl->Prop}{its:List It}{bl:List Bl}{olds:List (Tmp × SV)}{ops:Array Z4}{i:Nat}{o:Z4}{it:It}{w0:Zl}{k0:Nat}{X:List Nat}
def cE(c:it.kind=.stay)(k:∀(μ:I->I) (a:Act) (w:Zl),Known ops i its olds it.need μ a->BelX k0 X w0 w->(Z0 a.eval o).run P w=.ok (.value (it.out.at μ)) w):Cert P Q w0 k0 X ops i its bl olds o it:=by
 intro μ a w K d _ b;rw[c];intro h;rw[ao,k μ a w d b];exact h
def rA{off:I}{t:Tmp}{cs:G Zm}(r:it.kind=.stay)(e:Bl)(q:bl[b]? = J e)(n:e.al=F)(l:readB ops i e=H)(ho:o.op=.load T (.tmp t))(c:it.out=.v (.agg cs.toArray))(hx:∀(μ:I->I) (a:Act),Known ops i its olds it.need μ a->a.eval (.tmp t)=(SV.p b off).at μ)(k:(e.before.drop off).take cs.length=cs)(m:(P.underlying T).map (·.isRow)=J H)(u:(P.info? T).map (·.size)=J cs.length):Cert P Q w0 k0 X ops i its bl olds o it:=by
 intro μ a w K s hR _;rw[r];intro h;rw[c]at h;obtain⟨d,m,hd⟩:=Zp.1 m;refine wp_load_mid T (.tmp t) ho (μ b) off (hx μ a s) cs d (λj v f=>?_) m hd u h;have h1:=hR b e q (Z5 n) l (off+j) v ?_
 .rw[Zs]at h1;exact h1
 rw[<-k]at f;have g:j<cs.length:=by
  have p:=(Zz.1 f).1;rw[k]at p;exact p
 rw[xp,yGP g,yD1]at f;exact f
def Cc{args:R Zm}{v:Zm}(g:it.kind=.call)(f:ph)(c:it.out=.v v)(b:∀(μ:I->I) (a:Act) (w:Zl),Known ops i its olds it.need μ a->BelX k0 X w0 w->(Z0 a.eval o).run P w=.ok (.enter f args) w)(l:∀w,BelX k0 X w0 w->ae P f args w (rZ w λe w'=>e=v)):Cert P Q w0 k0 X ops i its bl olds o it:=by
 intro μ a w K j _ k;rw[g];intro h;rw[c]at h;rw[ao,b μ a w j k,un];refine(l w k).mono ?_;rintro e w' ⟨m,rfl,d,rfl⟩;exact h w' d
def wN(f:it.kind=.make b)(e:Bl)(j:bl[b]? = J e)(t:ZR)(k:∀(μ:I->I) (a:Act) (w:Zl),Known ops i its olds it.need μ a->BelX k0 X w0 w->(Z0 a.eval o).run P w=.ok (.value (it.out.at (upd μ b w.heap.size))) (w.alloc (.cells e.before.toArray t))):Cert P Q w0 k0 X ops i its bl olds o it:=by
 intro μ a w K g _ c;rw[f];intro e' d h;rw[j]at d;obtain rfl:e=e':=ZV.inj d;rw[ao,k μ a w g c];exact h _ _ (Made.alloc w e.before t)
def Oj{e:Bl}{x y:oF}(l:it.kind=.put b)(j:bl[b]? = J e)(T:ZR)(ho:o.op=.store T x y)(d:o.dst=F)(k:e.after.length=e.before.length)(hx:∀(μ:I->I) (a:Act),Known ops i its olds it.need μ a->a.eval x=(SV.p b 0).at μ)(m:∀(μ:I->I) (a:Act),Known ops i its olds it.need μ a->a.eval y=.agg e.after.toArray)(p:(P.info? T).map (·.size)=J e.after.length)(h1:e.after.all (·.oneCell')=H):Cert P Q w0 k0 X ops i its bl olds o it:=by
 intro μ a w K g _ _;rw[l];intro e' c f n h;rw[j]at c;obtain rfl:e=e':=ZV.inj c;refine wp_store_mid T x y ho (μ b) 0 e.after.toArray (hx μ a g) (m μ a g) ?_ ?_ ?_ ?_
 .rw[kI,k];exact f
 .rw[kI];exact p
 .exact all_oneCell_toArray (λv hv=>Z7.1 h1 v hv)
 have:=h _ (PutTo.whole f n k);rw[d]at this⊢;exact this
def Known.op{k:G (Tmp × I)}(h:Known ops i its olds k μ a)(t:Tmp)(j:I)(c:(t,j)∈k){b:It}(d:its[j]? = J b):a.eval (.tmp t)=b.out.at μ:=h.1 t j b c d
def Known.old{k:G (Tmp × I)}(h:Known ops i its olds k μ a)(t:Tmp)(s:SV)(b:(t,s)∈olds)(hf:Ja ops its i t=H):a.eval (.tmp t)=s.at μ:=h.2 t s b hf
end RG
namespace RG
variable {P:ai}{ops:Array Z4}{Q:fI->Act->Zl->Prop}{w0 w:Zl}{k0:Nat}{X:List Nat}{its:List It}{bl:List Bl}{olds:List (Tmp × SV)}{a0:Act}{L:Array Bool}{μ μ0:Nat->Nat}{i:Nat}{o:Z4}{it:It}
def Certs(P:ai)(Q:fI->Act->Zl->Prop)(d:Zl)(c:I)(X:G I)(k:R Z4)(b:G It)(bl:G Bl)(olds:G (Tmp × SV)):I->G Z4->G It->Prop
 | _,[],_=>True
 | _,_ :: _,[]=>False
 | i,o :: os,it :: is=>Cert P Q d c X k i b bl olds o it/\Certs P Q d c X k b bl olds (i+1) os is
def Certs.get:∀ {k:G Z4}{b:G It}{n:I},Certs P Q w0 k0 X ops its bl olds n k b->∀(i:I) (o:Z4) (it:It),k[i]? = J o->b[i]? = J it->Cert P Q w0 k0 X ops (n+i) its bl olds o it
 | [],_,_,_,i,_,_,h,_=>by simp at h
 | _ :: _,[],_,h,_,_,_,_,_=>h.elim
 | o :: k,it :: b,_,h,0,o',it',ho,hi=>by
  obtain rfl:o=o':=by simpa using ho
  obtain rfl:it=it':=by simpa using hi
  exact h.1
 | o :: k,it :: b,n,h,i+1,o',it',ho,hi=>by
  have:=Certs.get h.2 i o' it' (by simpa using ho) (by simpa using hi);rw[show n+(i+1)=n+1+i by omega];exact this
def Olds(a0:Act)(k:I->I):G (Tmp × SV)->Prop
 | []=>True
 | x :: r=>a0.tmps[x.1]? = J (x.2.at k)/\Olds a0 k r
def Olds.get:∀ {l:G (Tmp × SV)},Olds a0 μ0 l->∀(t:Tmp) (s:SV),(t,s)∈l->a0.tmps[t]? = J (s.at μ0)
 | [],_,_,_,h=>by cases h
 | x :: r,h,t,s,hm=>by
  rcases fT.1 hm with e|e
  .subst e;exact h.1
  exact Olds.get h.2 t s e
def Reg.mk'(chk:allB ops its bl olds a0.tmps.size=H)(old:Olds a0 μ0 olds)(k:Certs P Q w0 k0 X ops its bl olds 0 ops.toList its):Reg P ops Q w0 k0 X its bl olds a0 μ0:=
 ⟨chk,λt s b=>old.get t s b,λi o it ho c=>by have:=k.get i o it (by rw[qi];exact ho) c;rwa[Zs]at this⟩
def A2{t1:Tmp}{v:Zm}(c:it.kind=.call)(k:it.out=.v v)(b:∀(a:Act) (w:Zl),(Z0 a.eval o).run P w=.ok (.enter f #[a.eval (.tmp t1)]) w)(h1:∀(μ:I->I) (a:Act),Known ops i its olds it.need μ a->a.eval (.tmp t1)=v1)(g:∀w,ae P f #[v1] w (rZ w λe w'=>e=v)):Cert P Q w0 k0 X ops i its bl olds o it:=
 Cc c f (args:=#[v1]) k (λμ a w d _=>by rw[b,h1 μ a d]) (λw _=>g w)
def Rh(c:it.out=.p b 0):it.out.at (upd μ b k)=jZ k:=by
 rw[c];show jZ (upd μ b k b)=_;rw[upd,yGP Z]
def sK{e:Bl}(b:I)(c:it.kind=.make b)(k:it.out=.p b 0)(d:bl[b]? = J e)(ho:o.op=.alloc T)(f:∀w:Zl,(yFe T H (.tuple #[])).run P w=.ok (jZ w.heap.size) (w.alloc (.cells e.before.toArray T))):Cert P Q w0 k0 X ops i its bl olds o it:=by
 refine wN c e d T λμ a w g _=>?_
 rw[Z0,ho];rw[Rh k];show((yFe T H (.tuple #[])) >>= λv=>pure (pi v)).run P w=_;rw[ZK,f];rfl
def gK{t:Tmp}{c:G Zm}{e:Func}{cs:G (G Zm)}(g:St w0 k0 X cs ks w)(i:e.results=#[.cell t T])(l:cs[b]? = J c)(j:a.tmps[t]? = J (jZ (ad ks b)))(k:(P.underlying T).map (·.isRow)=J H)(m:(P.info? T).map (·.size)=J c.length):(results e a.tmps).run P w=.ok (.agg c.toArray) w:=by
 let⟨d,k,hd⟩:=Zp.1 k
 have h1:=um (P:=P) w (ad ks b) 0 T c d (g.has b c l).1 k hd m;have f:a.tmps.getD t am=jZ (ad ks b):=by rw[ZB,j];rfl
 rw[results,i];simp only[yB6,yDl,yDw,f,asAddr];simp[ZK,h1]
def St.begin(w:Zl):St w w.heap.size [] [] [] w:=⟨BelX.refl _ _ _,Zo _,Z,λb c h=>by simp at h,λb c h=>by simp at h⟩
end RG
namespace RG
variable {P:ai}{ops:Array Z4}{Q:fI->Act->Zl->Prop}{w0 w:Zl}{k0:Nat}{X:List Nat}{its:List It}{bl:List Bl}{olds:List (Tmp × SV)}{a0:Act}{i:Nat}{o:Z4}{it:It}
def aO(k:it.kind=.pass)(h:it.out=.v am):Cert P Q w0 k0 X ops i its bl olds o it:=by
 intro μ a w K _ _ _;rw[k];exact h
def EX{t1:Tmp}{v:Zm}(b:it.kind=.stay)(ho:o.op=.build T #[(n,.tmp t1)])(k:it.out=.v v)(h1:∀(μ:I->I) (a:Act),Known ops i its olds it.need μ a->a.eval (.tmp t1)=v1)(d:∀w:Zl,(Instr.build T #[(n,v1)]).run P w=.ok v w):Cert P Q w0 k0 X ops i its bl olds o it:=by
 refine cE b λμ a w c _=>?_
 rw[Z0,ho,k];dsimp only;simp only[yEh,uz,yEi,h1 μ a c];rw[ZK,d];rfl
def aT{t1 t2:Tmp}{v:Zm}(f:it.kind=.stay)(op:BinOp)(g:ZR)(ho:o.op=.binOp op T (.tmp t1) (.tmp t2) g)(k:it.out=.v v)(h1:∀(μ:I->I) (a:Act),Known ops i its olds it.need μ a->a.eval (.tmp t1)=v1)(c:∀(μ:I->I) (a:Act),Known ops i its olds it.need μ a->a.eval (.tmp t2)=v2)(e:∀w,(eqGuard op T (.tmp t1) (.tmp t2) v1 v2).run P w=.ok () w)(d:∀w,(binOp op T v1 v2).run P w=.ok v w):Cert P Q w0 k0 X ops i its bl olds o it:=by
 refine cE f λμ a w b _=>?_
 rw[Z0,ho,k];dsimp only;rw[h1 μ a b,c μ a b,ZK,ZK,e];dsimp only[yEq];rw[d];rfl
def mD{t:Tmp}{v:Zm}{k:Func}(c:k.results=#[.tmp t])(d:a.tmps[t]? = J v):(results k a.tmps).run P w=.ok v w:=by
 have b:a.tmps.getD t am=v:=by rw[ZB,d];rfl
 rw[results,c];simp only[yB6,yDl,yDw,b];simp[ZK]
def jF{c:G Zm}{v:Zm}{f:Func}{cs:G (G Zm)}(n:St w0 k0 X cs ks w)(t u:Tmp)(j:f.results=#[.cell t T,.tmp u])(b:I)(o:cs[b]? = J c)(i:a.tmps[t]? = J (jZ (ad ks b)))(k:a.tmps[u]? = J v)(e:(P.underlying T).map (·.isRow)=J H)(m:(P.info? T).map (·.size)=J c.length):(results f a.tmps).run P w=.ok (.tuple #[.agg c.toArray,v]) w:=by
 let⟨d,e,hd⟩:=Zp.1 e
 have h1:=um (P:=P) w (ad ks b) 0 T c d (n.has b c o).1 e hd m;have g:a.tmps.getD t am=jZ (ad ks b):=by rw[ZB,i];rfl
 have l:a.tmps.getD u am=v:=by rw[ZB,k];rfl
 rw[results,j];simp only[yB6,yDl,yDw,g,l,asAddr];simp[ZK,h1]
end RG
namespace RG
variable {P:ai}{ops:Array Z4}{Q:fI->Act->Zl->Prop}{w0 w:Zl}{k0:Nat}{X:List Nat}{its:List It}{bl:List Bl}{olds:List (Tmp × SV)}{a0 a:Act}{i:Nat}{o:Z4}{it:It}{μ:Nat->Nat}
structure Sl(a:Act)(n:I):Prop where
 size:a.tmps.size=n
 defers:a.defers=[]
def Sl.puts(h:Sl a n):Sl (puts μ its a) n:=⟨by rw[BO];exact h.size,by rw[oW];exact h.defers⟩
def C7{t:Tmp}{v:Zm}(h:a.tmps[t]? = J v):a.eval (.tmp t)=v:=by
 show a.tmps.getD t am=v;rw[ZB,h];rfl
def results_none{k:Func}(b:k.results=#[]):(results k tmps).run P w=.ok (.tuple #[]) w:=by
 rw[results,b];simp
def XY{c:Code}(b:a.tmps[0]? = J v0)(h1:a.tmps[1]? = J v1)(k:a.tmps[2]? = J v2)(hs:a.tmps.size=n)(hd:a.defers=[])(h:∀a,Sl a n->a.tmps[0]? = J v0->a.tmps[1]? = J v1->a.tmps[2]? = J v2->c.wp P Q a w):c.wp P Q a w:=h a ⟨hs,hd⟩ b h1 k
def Hb{e:Bl}{E:ZR}{t1 t2:Tmp}(b:I)(g:it.kind=.make b)(f:bl[b]? = J e)(k:it.out=.s b n n)(ho:o.op=.makeSlice T (.tmp t1) (.tmp t2))(h1:∀(μ:I->I) (a:Act),Known ops i its olds it.need μ a->a.eval (.tmp t1)=iZ n)(d:∀(μ:I->I) (a:Act),Known ops i its olds it.need μ a->a.eval (.tmp t2)=iZ n)(j:∀w:Zl,(Instr.makeSlice T (iZ n) (iZ n)).run P w=.ok (sZ w.heap.size n n) (w.alloc (.cells e.before.toArray E))):Cert P Q w0 k0 X ops i its bl olds o it:=by
 refine wN g e f E λμ a w c _=>?_
 have l:it.out.at (upd μ b w.heap.size)=sZ w.heap.size n n:=by
  rw[k];show sZ (upd μ b w.heap.size b) n n=_;rw[upd,yGP Z]
 rw[Z0,ho];dsimp only;rw[h1 μ a c,d μ a c,l,ZK,j];rfl
def qG{t:Tmp}(b:it.kind=.stay)(s:SV)(v:Zm)(k:it.out=.v v)(hx:∀(μ:I->I) (a:Act),Known ops i its olds it.need μ a->a.eval (.tmp t)=s.at μ)(hE:∀(a:Act) (w:Zl),(Z0 a.eval o).run P w=(Z0 (λ_=>a.eval (.tmp t)) o).run P w)(d:∀(μ:I->I) (w:Zl),(Z0 (λ_=>s.at μ) o).run P w=.ok (.value v) w):Cert P Q w0 k0 X ops i its bl olds o it:=by
 refine cE b λμ a w c _=>?_
 rw[hE,hx μ a c,d,k];rfl
def Hd{v:Zm}(q:it.kind=.call)(e:Bl)(p:bl[b]? = J e)(l:e.al=F)(j:readB ops i e=H)(t:e.before≠[])(args:(I->I)->R Zm)(d:it.out=.v v)(c:∀(μ:I->I) (a:Act) (w:Zl),Known ops i its olds it.need μ a->(Z0 a.eval o).run P w=.ok (.enter f (args μ)) w)(u:∀(μ:I->I) (w:Zl),μ b<w.heap.size->w.rangeAt (μ b) 0 e.before->ae P f (args μ) w (rZ w λr w'=>r=v)):Cert P Q w0 k0 X ops i its bl olds o it:=by
 intro μ a w K s hR _;rw[q];intro h;rw[d]at h;have m:=hR b e p (Z5 l) j;have g:μ b<w.heap.size:=by
  cases k:e.before with
  | nil=>exact absurd k t
  | cons x r =>
   have h1:=m 0 x (by rw[k];rfl);exact xD λy=>by
    have n:w.heap[μ b]? = F:=AF oM;simp[yy,n]at h1
 rw[ao,c μ a w s,un];refine(u μ w g m).mono ?_;rintro r w' ⟨n,rfl,k,rfl⟩;exact h w' k
def JW{o:I}{cs:G Zm}(h:w.rangeAt k 0 C)(hs:∀j,j<cs.length->C[o+j]? = cs[j]?):w.rangeAt k o cs:=λj v hv=>by
 have:=h (o+j) v (by rw[hs j ((Zz.1 hv).1)];exact hv);rwa[Zs]at this
def cJ{t u:Tmp}{iv:Zm}(b:it.kind=.stay)(T:ZR)(ho:o.op=.indexAddr T (.tmp t) (.tmp u))(s:SV)(hx:∀(μ:I->I) (a:Act),Known ops i its olds it.need μ a->a.eval (.tmp t)=s.at μ)(c:∀(μ:I->I) (a:Act),Known ops i its olds it.need μ a->a.eval (.tmp u)=iv)(hf:∀(μ:I->I) (w:Zl),(iB T (s.at μ) iv).run P w=.ok (it.out.at μ) w):Cert P Q w0 k0 X ops i its bl olds o it:=by
 refine cE b λμ a w k _=>?_
 rw[Z0,ho];dsimp only;rw[hx μ a k,c μ a k,ZK,hf];rfl
def fA{t:Tmp}(k:it.kind=.stay)(T:ZR)(iv:Zm)(ho:o.op=.indexAddr T (.tmp t) (.const iv))(s:SV)(hx:∀(μ:I->I) (a:Act),Known ops i its olds it.need μ a->a.eval (.tmp t)=s.at μ)(hf:∀(μ:I->I) (w:Zl),(iB T (s.at μ) iv).run P w=.ok (it.out.at μ) w):Cert P Q w0 k0 X ops i its bl olds o it:=by
 refine cE k λμ a w b _=>?_
 rw[Z0,ho];dsimp only;rw[hx μ a b];show((iB T (s.at μ) iv) >>= λv=>pure (pi v)).run P w=_;rw[ZK,hf];rfl
def aJ{t1:Tmp}{v:Zm}(b:it.kind=.stay)(op:BinOp)(c:ZR)(ho:o.op=.binOp op T (.tmp t1) (.const v2) c)(k:it.out=.v v)(h1:∀(μ:I->I) (a:Act),Known ops i its olds it.need μ a->a.eval (.tmp t1)=v1)(f:∀w,(eqGuard op T (.tmp t1) (.const v2) v1 v2).run P w=.ok () w)(e:∀w,(binOp op T v1 v2).run P w=.ok v w):Cert P Q w0 k0 X ops i its bl olds o it:=by
 refine cE b λμ a w d _=>?_
 rw[Z0,ho,k];dsimp only;rw[h1 μ a d];show(((eqGuard op T (.tmp t1) (.const v2) v1 v2) >>= λ_=>binOp op T v1 v2) >>= λv=>pure (pi v)).run P w=_;rw[ZK,ZK,f];dsimp only[yEq];rw[e];rfl
def Cb{S:ZR}{t:Tmp}{v b:Zm}(c:it.kind=.stay)(ho:o.op=.convert S T (.tmp t))(k:it.out=.v b)(hx:∀(μ:I->I) (a:Act),Known ops i its olds it.need μ a->a.eval (.tmp t)=v)(e:∀w,(convert S T v).run P w=.ok b w):Cert P Q w0 k0 X ops i its bl olds o it:=by
 refine cE c λμ a w d _=>?_
 rw[Z0,ho,k];dsimp only;rw[hx μ a d,ZK,e];rfl
def QS{t:Tmp}{v b:Zm}(c:it.kind=.stay)(op:UnOp)(T:ZR)(ho:o.op=.unOp op T (.tmp t))(k:it.out=.v b)(hx:∀(μ:I->I) (a:Act),Known ops i its olds it.need μ a->a.eval (.tmp t)=v)(e:∀w,(Op.unary op v).run P w=.ok b w):Cert P Q w0 k0 X ops i its bl olds o it:=by
 refine cE c λμ a w d _=>?_
 rw[Z0,ho,k];dsimp only;rw[hx μ a d,ZK,e];rfl
def eU{off:I}{t:Tmp}{cs:G Zm}(l:it.kind=.stay)(c:k<k0)(g:k ∉ X)(ho:o.op=.load T (.tmp t))(b:it.out=.v (.agg cs.toArray))(hx:∀(μ:I->I) (a:Act),Known ops i its olds it.need μ a->a.eval (.tmp t)=oZ k off)(n:w0.rangeAt k off cs)(e:(P.underlying T).map (·.isRow)=J H)(p:(P.info? T).map (·.size)=J cs.length):Cert P Q w0 k0 X ops i its bl olds o it:=by
 intro μ a w K m _ f;rw[l];intro h;rw[b]at h;obtain⟨d,e,hd⟩:=Zp.1 e;refine wp_load_mid T (.tmp t) ho k off (hx μ a m) cs d (λj v q=>?_) e hd p h;rw[ZP (w:=w0) (a:=⟨k,off+j,F⟩) (f.block k c g)];exact n j v q
theorem jD{off:I}{v:Zm}(e:w.cell? ⟨k,off,F⟩=J v)(c:(P.underlying T).map (·.isRow)=J D):(yE0 T (oZ k off)).run P w=.ok v w:=by
 let⟨d,c,hd⟩:=Zp.1 c
 have b:(isAgg T).run P w=.ok D w:=by
  rw[isAgg,ZK,yw c w];cases d<;>simp_all
 simp[yE0,AJ,loadVar,ZK,b,e]
def AZ{off:I}{e:Bl}{t:Tmp}{v:Zm}(j:it.kind=.stay)(g:bl[b]? = J e)(f:e.al=F)(d:readB ops i e=H)(ho:o.op=.load T (.tmp t))(k:it.out=.v v)(hx:∀(μ:I->I) (a:Act),Known ops i its olds it.need μ a->a.eval (.tmp t)=(SV.p b off).at μ)(c:e.before[off]? = J v)(m:(P.underlying T).map (·.isRow)=J D):Cert P Q w0 k0 X ops i its bl olds o it:=by
 intro μ a w K l hR _;rw[j];intro h;rw[k]at h;have h1:=hR b e g (Z5 f) d off v c;rw[Zs]at h1;unfold ao Z0;rw[ho];dsimp only;rw[hx μ a l];show o.upon P a K Q (((yE0 T (oZ (μ b) off)) >>= λv=>pure (pi v)).run P w);rw[ZK,jD h1 m];exact h
def FT{off:I}{v u:Zm}(e:w.cell? ⟨k,off,F⟩=J u)(hf:w.frozen? ⟨k,off,F⟩=D)(h1:v.oneCell'=H)(hv:v.cells=#[v])(d:(P.info? T).map (·.size)=J 1):(CT T (oZ k off) v).run P w=.ok () (w.setCells k off [v]):=by
 have:=yFU (P:=P) k off [v] 0 w (λj c=>by
  obtain rfl:j=0:=by simpa using c
  simp[e]) (λj c=>by
  obtain rfl:j=0:=by simpa using c
  simpa using hf) (λx hx=>by
  obtain rfl:x=v:=by simpa using hx
  exact h1)
 cases b:P.info? T with
 | none=>simp[b]at d
 | some inf =>
  have hs:inf.size=1:=by simp[b]at d;omega
  simp only[I.add_zero]at this;simp[CT,AJ,storeVar,sizeOf,typeInfo,b,hv,hs,this]
def KY{off:I}{e:Bl}{x y:oF}{v:Zm}(q:it.kind=.put b)(p:bl[b]? = J e)(ho:o.op=.store T x y)(d:o.dst=F)(hx:∀(μ:I->I) (a:Act),Known ops i its olds it.need μ a->a.eval x=(SV.p b off).at μ)(r:∀(μ:I->I) (a:Act),Known ops i its olds it.need μ a->a.eval y=v)(k:off<e.before.length)(c:e.after=e.before.set off v)(t:(P.info? T).map (·.size)=J 1)(h1:v.oneCell'=H)(hv:v.cells=#[v]):Cert P Q w0 k0 X ops i its bl olds o it:=by
 intro μ a w K m _ _;rw[q];intro e' f l s h;rw[p]at f;obtain rfl:e=e':=ZV.inj f;have g:PutTo (μ b) e.before.length e.after w (w.setCells (μ b) off [v]):=PutTo.store l s (by simp only[Z9,uh];omega) (λj=>by
  rw[c,G.getElem?_set];by_cases n:off=j
  .subst n;rw[yGP Z,yGP k,yGP (by simp)];simp
  rw[yGQ n,yGQ (by simp only[Z9,uh];omega)])
 have c:=l off k;rw[Zs]at c;let⟨u,n⟩:=Z8.1 c.1
 unfold ao Z0;rw[ho];dsimp only;rw[hx μ a m,r μ a m];show o.upon P a K Q (((CT T (oZ (μ b) off) v) >>= λ_=>pure Next.skip).run P w);rw[ZK,FT n c.2 h1 hv t];have:=h _ g;rw[d]at this;show K (a.put o.dst am) _;rw[d];exact this
def nO{off:I}{x y:oF}(n:it.kind=.put b)(e:Bl)(m:bl[b]? = J e)(ho:o.op=.store T x y)(f:o.dst=F)(hx:∀(μ:I->I) (a:Act),Known ops i its olds it.need μ a->a.eval x=(SV.p b off).at μ)(p:∀(μ:I->I) (a:Act),Known ops i its olds it.need μ a->a.eval y=.agg vs.toArray)(d:off+vs.length<=e.before.length)(k:∀j,e.after[j]? = if off<=j/\j<off+vs.length then vs[j-off]? else e.before[j]?)(r:(P.info? T).map (·.size)=J vs.length)(h1:vs.all (·.oneCell')=H):Cert P Q w0 k0 X ops i its bl olds o it:=by
 intro μ a w K l _ _;rw[n];intro e' c g q h;rw[m]at c;obtain rfl:e=e':=ZV.inj c;refine wp_store_mid T x y ho (μ b) off vs.toArray (hx μ a l) (p μ a l) ?_ ?_ ?_ ?_
 .intro j s;have:=g (off+j) (by rw[kI]at s;omega);rwa[Zs]at this
 .rw[kI];exact r
 .exact all_oneCell_toArray (λv hv=>Z7.1 h1 v hv)
 have:=h _ (PutTo.store g q d k);rw[f]at this⊢;exact this
def Dk{v:Zm}(m:it.kind=.put b)(e:Bl)(l:bl[b]? = J e)(f:ph)(args:(I->I)->R Zm)(d:it.out=.v v)(c:∀(μ:I->I) (a:Act) (w:Zl),Known ops i its olds it.need μ a->BelX k0 X w0 w->(Z0 a.eval o).run P w=.ok (.enter f (args μ)) w)(s:∀(μ:I->I) (w:Zl),BelX k0 X w0 w->w.there (μ b) 0 e.before.length->w.rangeAt (μ b) 0 e.before->ae P f (args μ) w (Ret λr w'=>PutTo (μ b) e.before.length e.after w w'/\r=v)):Cert P Q w0 k0 X ops i its bl olds o it:=by
 intro μ a w K n _ k;rw[m];intro e' g j q h;rw[l]at g;obtain rfl:e=e':=ZV.inj g;rw[d]at h;rw[ao,c μ a w n k,un];refine(s μ w k j q).mono ?_;rintro r w' ⟨t,rfl,p,rfl⟩;exact h w' p
def St.lent(d:k<w.heap.size)(f:w.rangeAt k 0 C)(g:w.there k 0 C.length):St w w.heap.size [k] [C] [k] w:=by
 refine⟨BelX.refl _ _ _,Zo _,Z,λb c h=>?_,λb c i j e=>?_⟩
 .cases b with
  | zero =>
   obtain rfl:C=c:=by simpa using h
   exact⟨f,g,d,ZW pw⟩
  | succ b=>simp at h
 simp only[Z9,uh]at i j;omega
def St.putTo{cs:G (G Zm)}(h:St w0 w0.heap.size [k] (C :: cs) (k :: ks) w)(e:C.length=n):PutTo k n C w0 w:=by
 obtain⟨h1,d,-,-⟩:=h.has 0 C Z;refine⟨h.bel.os,h.bel.tape,h.bel.output,h.bel.size,λj c b=>h.bel.block j c (by simpa using b),h1,?_⟩;rw[<-e];exact d
def rep(C:G Zm)(o:I)(vs:G Zm):G Zm:=C.take o++(vs++C.drop (o+vs.length))
def fU{o:I}(h:o+vs.length<=C.length):(rep C o vs).length=C.length:=by
 rw[rep,Zv,Zv,zc,yDF];omega
def rep_at{o:I}(h:o+vs.length<=C.length)(j:I):(rep C o vs)[j]? = if o<=j/\j<o+vs.length then vs[j-o]? else C[j]?:=by
 unfold rep;have hl:(C.take o).length=o:=by rw[zc];omega
 by_cases h1:j<o
 .rw[uo (by rw[hl];exact h1),xp,yGP h1,yGQ oM]
 rw[xS (by rw[hl];omega),hl];by_cases k:j<o+vs.length
 .rw[uo oM,yGP ⟨oM,k⟩]
 rw[xS oM,yGQ oM,yD1]
 congr 1
 omega
def Tf{cs:G Zm}{o:I}(h:∀j,j<cs.length->C[o+j]? = cs[j]?)(hl:o+cs.length<=C.length):(C.drop o).take cs.length=cs:=by
 apply G.ext_getElem?;intro j;by_cases k:j<cs.length
 .rw[xp,yGP k,yD1,h j k]
 rw[zl (by rw[zc,yDF];omega),zl oM]
def Bp{e:Bl}{t1 t2 j:Tmp}{d:Zm}(b:I)(p:it.kind=.put b)(n:bl[b]? = J e)(f:ph)(s1:SV)(v:Zm)(c:it.out=.v v)(k:∀(a:Act) (w:Zl),(Z0 a.eval o).run P w=.ok (.enter f #[a.eval (.tmp t1),a.eval (.tmp t2),a.eval (.tmp j)]) w)(h1:∀(μ:I->I) (a:Act),Known ops i its olds it.need μ a->a.eval (.tmp t1)=s1.at μ)(l:∀(μ:I->I) (a:Act),Known ops i its olds it.need μ a->a.eval (.tmp t2)=v2)(s:∀(μ:I->I) (a:Act),Known ops i its olds it.need μ a->a.eval (.tmp j)=d)(t:∀(μ:I->I) (w:Zl),w.there (μ b) 0 e.before.length->w.rangeAt (μ b) 0 e.before->ae P f #[s1.at μ,v2,d] w (Ret λr w'=>PutTo (μ b) e.before.length e.after w w'/\r=v)):Cert P Q w0 k0 X ops i its bl olds o it:=
 Dk p e n f (λμ=>#[s1.at μ,v2,d]) c (λμ a w g _=>by rw[k,h1 μ a g,l μ a g,s μ a g]) (λμ w _ m q=>t μ w m q)
def EW{e:Bl}{t1 t2:Tmp}(n:it.kind=.call)(b:I)(m:bl[b]? = J e)(g:e.al=F)(d:readB ops i e=H)(p:e.before≠[])(f:ph)(s1:SV)(v:Zm)(c:it.out=.v v)(k:∀(a:Act) (w:Zl),(Z0 a.eval o).run P w=.ok (.enter f #[a.eval (.tmp t1),a.eval (.tmp t2)]) w)(h1:∀(μ:I->I) (a:Act),Known ops i its olds it.need μ a->a.eval (.tmp t1)=s1.at μ)(l:∀(μ:I->I) (a:Act),Known ops i its olds it.need μ a->a.eval (.tmp t2)=v2)(q:∀(μ:I->I) (w:Zl),μ b<w.heap.size->w.rangeAt (μ b) 0 e.before->ae P f #[s1.at μ,v2] w (rZ w λr w'=>r=v)):Cert P Q w0 k0 X ops i its bl olds o it:=
 Hd n e m g d p (λμ=>#[s1.at μ,v2]) c (λμ a w j=>by rw[k,h1 μ a j,l μ a j]) q
end RG
namespace RG
variable {P:ai}{ops:Array Z4}{Q:fI->Act->Zl->Prop}{w0 w:Zl}{k0:Nat}{X:List Nat}{its:List It}{bl:List Bl}{olds:List (Tmp × SV)}{a:Act}{i:Nat}{o:Z4}{it:It}
def lS{t:Tmp}{b v c:Zm}(d:it.kind=.stay)(ho:o.op=.slice T (.tmp t) (J (.const b)) F F)(k:it.out=.v c)(hx:∀(μ:I->I) (a:Act),Known ops i its olds it.need μ a->a.eval (.tmp t)=v)(hf:∀w:Zl,(ux T v (J b) F F).run P w=.ok c w):Cert P Q w0 k0 X ops i its bl olds o it:=by
 refine cE d λμ a w e _=>?_
 rw[Z0,ho,k];dsimp only;rw[hx μ a e];show((ux T v (J b) F F) >>= λv=>pure (pi v)).run P w=_;rw[ZK,hf];rfl
def EV{t:Tmp}{v b:Zm}(c:it.kind=.stay)(ho:o.op=.sliceToArrayPointer T (.tmp t))(k:it.out=.v b)(hx:∀(μ:I->I) (a:Act),Known ops i its olds it.need μ a->a.eval (.tmp t)=v)(hf:∀w:Zl,(Instr.arrayAt T v).run P w=.ok b w):Cert P Q w0 k0 X ops i its bl olds o it:=by
 refine cE c λμ a w d _=>?_
 rw[Z0,ho,k];dsimp only;rw[hx μ a d,ZK,hf];rfl
def eW{off:I}{t:Tmp}{v:Zm}(f:it.kind=.stay)(c:k<k0)(e:k ∉ X)(ho:o.op=.load T (.tmp t))(b:it.out=.v v)(hx:∀(μ:I->I) (a:Act),Known ops i its olds it.need μ a->a.eval (.tmp t)=oZ k off)(j:w0.cell? ⟨k,off,F⟩=J v)(l:(P.underlying T).map (·.isRow)=J D):Cert P Q w0 k0 X ops i its bl olds o it:=by
 refine cE f λμ a w g d=>?_
 have h1:w.cell? ⟨k,off,F⟩=J v:=by
  rw[ZP (w:=w0) (a:=⟨k,off,F⟩) (d.block k c e)];exact j
 rw[Z0,ho,b];dsimp only;rw[hx μ a g,ZK,jD h1 l];rfl
def xK{t1 t2:Tmp}{v:Zm}(g:it.kind=.call)(b:it.out=.v v)(k:∀(a:Act) (w:Zl),(Z0 a.eval o).run P w=.ok (.enter f #[a.eval (.tmp t1),a.eval (.tmp t2)]) w)(h1:∀(μ:I->I) (a:Act),Known ops i its olds it.need μ a->a.eval (.tmp t1)=v1)(d:∀(μ:I->I) (a:Act),Known ops i its olds it.need μ a->a.eval (.tmp t2)=v2)(j:∀w,BelX k0 X w0 w->ae P f #[v1,v2] w (rZ w λe w'=>e=v)):Cert P Q w0 k0 X ops i its bl olds o it:=
 Cc g f b (λμ a w c _=>by rw[k,h1 μ a c,d μ a c]) j
def jE{v k:Zm}{b:Func}(t u:Tmp)(d:b.results=#[.tmp t,.tmp u])(e:a.tmps[t]? = J v)(f:a.tmps[u]? = J k):(results b a.tmps).run P w=.ok (.tuple #[v,k]) w:=by
 have c:a.tmps.getD t am=v:=by rw[ZB,e];rfl
 have g:a.tmps.getD u am=k:=by rw[ZB,f];rfl
 rw[results,d];simp only[yB6,yDl,yDw,c,g];simp[ZK]
def A0{t:Tmp}{b v c:Zm}(d:it.kind=.stay)(ho:o.op=.index T (.tmp t) (.const b))(k:it.out=.v c)(hx:∀(μ:I->I) (a:Act),Known ops i its olds it.need μ a->a.eval (.tmp t)=v)(hf:∀w:Zl,(yDK T v b).run P w=.ok c w):Cert P Q w0 k0 X ops i its bl olds o it:=by
 refine cE d λμ a w e _=>?_
 unfold Z0;rw[ho,k];dsimp only;rw[hx μ a e];show((yDK T v b) >>= λv=>pure (pi v)).run P w=_;rw[ZK,hf];rfl
def Ol{e:Bl}{E:ZR}{t:Tmp}{v:Zm}(b:I)(d:it.kind=.make b)(c:bl[b]? = J e)(k:it.out=.s b 1 1)(ho:o.op=.buildSlice T 1 #[(0,.tmp t)])(hx:∀(μ:I->I) (a:Act),Known ops i its olds it.need μ a->a.eval (.tmp t)=v)(g:∀w:Zl,(Instr.buildSlice T 1 #[(0,v)]).run P w=.ok (sZ w.heap.size 1 1) (w.alloc (.cells e.before.toArray E))):Cert P Q w0 k0 X ops i its bl olds o it:=by
 refine wN d e c E λμ a w f _=>?_
 have j:it.out.at (upd μ b w.heap.size)=sZ w.heap.size 1 1:=by
  rw[k];show sZ (upd μ b w.heap.size b) 1 1=_;rw[upd,yGP Z]
 rw[Z0,ho,j];dsimp only;rw[show R.map (λx:I × oF=>match x with|(i,x)=>(i,a.eval x)) #[(0,Operand.tmp t)]=#[(0,v)] by rw[yEh];simp only[uz,yEi];rw[hx μ a f],ZK,g];rfl
def Oi{e:Bl}{t:Tmp}(q:it.kind=.stay)(j:I)(p:bl[b]? = J e)(m:ops[i]? = J g)(l:e.al=J j)(d:bV g j=H)(f:readB ops i e=H)(S T:ZR)(v:Zm)(ho:o.op=.convert S T (.tmp t))(c:it.out=.v v)(hx:∀(μ:I->I) (a:Act),Known ops i its olds it.need μ a->a.eval (.tmp t)=(SV.s b n n).at μ)(hf:∀(w:Zl) (k:I),w.rangeAt k 0 e.before->(convert S T (sZ k n n)).run P w=.ok v w):Cert P Q w0 k0 X ops i its bl olds o it:=by
 intro μ a w K r hR _;rw[q];intro h;rw[c]at h;unfold ao Z0;rw[ho];dsimp only;rw[hx μ a r];show Oper.upon P o a K Q (((convert S T (sZ (μ b) n n)) >>= λv=>pure (pi v)).run P w);rw[ZK,hf w (μ b) (hR b e p (ZW ⟨g,j,m,l,d⟩) f)];exact h
def Wt{c:Code}(t0 t1 t2:Tmp)(b:a.tmps[t0]? = J v0)(h1:a.tmps[t1]? = J v1)(k:a.tmps[t2]? = J v2)(hs:a.tmps.size=n)(hd:a.defers=[])
 (h:∀a,Sl a n->a.tmps[t0]? = J v0->a.tmps[t1]? = J v1->a.tmps[t2]? = J v2->c.wp P Q a w):c.wp P Q a w:=h a ⟨hs,hd⟩ b h1 k
def St.new(w:Zl)(C:G Zm)(T:ZR):St w w.heap.size [] [C] [w.heap.size] (w.alloc (.cells C.toArray T)):=by
 refine⟨⟨Z,Z,Z,by rw[Zy];omega,λj k _=>(aD _).block j k⟩,by rw[Zy];omega,Z,λb c h=>?_,λb c e f d=>?_⟩
 .cases b with
  | zero =>
   obtain rfl:C=c:=by simpa using h
   refine⟨λj v hv=>?_,λj k=>?_,?_,Z5 (Zo _)⟩
   .show(w.alloc _).cell? ⟨w.heap.size,0+j,F⟩=J v;rw[Zs,oX];simpa using hv
   .refine⟨?_,xn _ _ _ _⟩;show((w.alloc _).cell? ⟨w.heap.size,0+j,F⟩).isSome=H;rw[Zs,oX];simp[k]
   show w.heap.size<_;rw[Zy];omega
  | succ b=>simp at h
 simp only[Z9,uh]at e f;omega
def St.more{cs:G (G Zm)}(h:St w0 k0 X cs ks w)(k:kZ w w'):St w0 k0 X cs ks w':=by
 refine⟨⟨k.os.trans h.bel.os,k.tape.trans h.bel.tape,k.output.trans h.bel.output,Zw h.bel.size k.size,λj e i=>?_⟩,Zw h.le k.size,h.len,λb c l=>?_,h.inj⟩
 .rw[k.block j (Zn e h.le)];exact h.bel.block j e i
 let⟨h1,f,d,g⟩:=h.has b c l
 exact⟨aF h1 k d,eM f k d,Zn d k.size,g⟩
def St.store1{D:G Zm}(h:St w0 k0 X [C] [k] w)(T:ZR)(hl:D.length=C.length)(p:(P.info? T).map (·.size)=J D.length)(h1:D.all (·.oneCell')=H):
 ∃d,(storeCells (aZ k) D).run P w=.ok () d/\(storeVar T (aZ k) (.agg D.toArray)).run P w=.ok () d/\(CT T (jZ k) (.agg D.toArray)).run P w=.ok () d/\St w0 k0 X [D] [k] d:=by
 have hh:=h.has 0 C Z;rw[show ad [k] 0=k from Z]at hh;let⟨o,g,l,hor⟩:=hh
 have d:=PutTo.whole g o hl;have hv:=run_storeVar_mid (P:=P) w k 0 T D.toArray (by rw[kI,hl];exact g) (by rw[kI];exact p) (all_oneCell_toArray (λv hv=>Z7.1 h1 v hv));have i:=yFU (P:=P) k 0 D 0 w (λj f=>by simpa using(g j (by rw[<-hl];exact f)).1) (λj f=>by simpa using(g j (by rw[<-hl];exact f)).2) (λv hv=>Z7.1 h1 v hv);refine⟨_,i,hv,?_,⟨⟨d.os.trans h.bel.os,d.tape.trans h.bel.tape,d.output.trans h.bel.output,Zw h.bel.size d.size,λj f m=>?_⟩,Zw h.le d.size,Z,λb c i=>?_,h.inj⟩⟩
 .simp only[CT,AJ,ZK,qj,lp,hv]
 .rw[<-h.bel.block j f m];refine d.block j (Zn f h.le) (λe=>?_);rcases hor with n|n
  .omega
  exact m (by rw[e];exact n)
 cases b with
 | zero =>
  obtain rfl:D=c:=by simpa using i
  refine⟨d.range,?_,Zn l d.size,hor⟩;have:=d.there;rw[<-hl]at this;exact this
 | succ b=>simp at i
end RG
namespace RG
variable {P:ai}{ops:Array Z4}{Q:fI->Act->Zl->Prop}{w0 w:Zl}{k0 n:Nat}{X:List Nat}{its:List It}{bl:List Bl}{os:List (Tmp × SV)}{a:Act}{i:Nat}{o:Z4}{it:It}{μ:Nat->Nat}{need:List (Tmp × Nat)}
def src(c:R Z4)(k:G It)(d:G (Tmp × SV))(b:G (Tmp × I))(i:I)(t:Tmp):GJ SV:=
 match b.find? (λx=>x.1 == t) with
 | some x=>(k[x.2]?).map (·.out)
 | none=>match d.find? (λx=>x.1 == t) with
  | some x=>bif Ja c k i t then J x.2 else F
  | none=>F
def oJ{t:Tmp}{s:SV}(h:src ops its os need i t=J s)(K:Known ops i its os need μ a):a.eval (.tmp t)=s.at μ:=by
 unfold src at h;cases k:need.find? (λx=>x.1 == t) with
 | some x =>
  rw[k]at h;dsimp only at h;have h1:=Dr k;have b:x.1=t:=by simpa using yCl k
  obtain⟨d,c,rfl⟩:=Zp.1 h;exact K.op t x.2 (by rw[<-b];exact h1) c
 | none =>
  rw[k]at h;dsimp only at h;cases ho:os.find? (λx=>x.1 == t) with
  | none=>rw[ho]at h;cases h
  | some x =>
   rw[ho]at h;dsimp only at h;have h1:=Dr ho;have b:x.1=t:=by simpa using yCl ho
   cases hf:Ja ops its i t with
   | false=>rw[hf]at h;cases h
   | true =>
    rw[hf]at h;obtain rfl:x.2=s:=ZV.inj h;exact K.old t x.2 (by rw[<-b];exact h1) hf
def sx{t:Tmp}{f:(I->I)->Zm}(h:∀μ:I->I,(src ops its os need i t).map (λs=>s.at μ)=J (f μ):=by intro _;kernel_rfl):∀(μ:I->I) (a:Act),Known ops i its os need μ a->a.eval (.tmp t)=f μ:=λμ _ K=>by
 let⟨s,hs,k⟩:=Zp.1 (h μ)
 rw[oJ hs K];exact k
def ro(b:R Z4)(c:G It)(d:G (Tmp × SV))(k:G (Tmp × I))(i:I)(μ:I->I):oF->Zm
 | .tmp t=>match src b c d k i t with|some s=>s.at μ|none=>am
 | .const v=>v
 | .global g=>jZ g
 | .func f=>.func (.func f) #[] #[]
def seen(b:R Z4)(c:G It)(d:G (Tmp × SV))(k:G (Tmp × I))(i:I)(o:Z4):Hc:=
 (match o.op with | .select _ _=>D|_=>H) && o.op.operands.all (λx=>match x with | .tmp t=>(src b c d k i t).isSome|_=>H)
def qW(h:seen ops its os need i o=H)(K:Known ops i its os need μ a):Z0 a.eval o=Z0 (ro ops its os need i μ) o:=by
 simp only[seen,ZD]at h;refine execOp_congr o (λcs b k=>?_) (λx hx=>?_)
 .rw[k]at h;exact absurd h.1 (by simp)
 have h1:=ul.1 h.2 x hx;cases x with
 | tmp t =>
  dsimp only at h1;let⟨s,hs⟩:=Z8.1 h1
  rw[oJ hs K];show _=(match src ops its os need i t with|some s=>s.at μ|none=>am);rw[hs]
 | const v=>rfl
 | global g=>rfl
 | func f=>rfl
def st(h:∀(μ:I->I) (w:Zl),((seen ops its os it.need i o,it.kind),(Z0 (ro ops its os it.need i μ) o).run P w)=((H,Kind.stay),.ok (.value (it.out.at μ)) w):=by intro _ _;kernel_rfl):Cert P Q w0 k0 X ops i its bl os o it:=by
 intro μ a w K d _ c;have k:=h μ w;simp only[an.injEq]at k;rw[k.1.2];intro b;rw[ao,qW k.1.1 d,k.2];exact b
def se{v d:Zm}(e:d=v)(h:∀(μ:I->I) (w:Zl),((seen ops its os it.need i o,it.kind,it.out),(Z0 (ro ops its os it.need i μ) o).run P w)=((H,Kind.stay,SV.v v),.ok (.value d) w):=by intro _ _;kernel_rfl):Cert P Q w0 k0 X ops i its bl os o it:=by
 intro μ a w K f _ c;have b:=h μ w;simp only[an.injEq]at b;rw[b.1.2.1];intro k;rw[b.1.2.2]at k;rw[ao,qW b.1.1 f,b.2,e];exact k
def mk(b:I)(T:ZR)(h:∀(μ:I->I) (w:Zl),((seen ops its os it.need i o,it.kind),(Z0 (ro ops its os it.need i μ) o).run P w)=((H,Kind.make b),.ok (.value (it.out.at (upd μ b w.heap.size))) (w.alloc (.cells (((bl[b]?).map (·.before)).getD []).toArray T))):=by intro _ _;kernel_rfl):Cert P Q w0 k0 X ops i its bl os o it:=by
 intro μ a w K f _ c;have k:=h μ w;simp only[an.injEq]at k;rw[k.1.2];intro e g d;rw[ao,qW k.1.1 f,k.2,g];exact d _ _ (Made.alloc w e.before T)
def clB{args:R Zm}{v:Zm}(h:∀(μ:I->I) (w:Zl),((seen ops its os it.need i o,it.kind,it.out),(Z0 (ro ops its os it.need i μ) o).run P w)=((H,Kind.call,SV.v v),.ok (.enter f args) w))
 (j:∀w,BelX k0 X w0 w->ae P f args w (rZ w λe w'=>e=v)):Cert P Q w0 k0 X ops i its bl os o it:=by
 intro μ a w K g _ b;have k:=h μ w;simp only[an.injEq]at k;rw[k.1.2.1];intro c;rw[k.1.2.2]at c;rw[ao,qW k.1.1 g,k.2,un];refine(j w b).mono ?_;rintro e w' ⟨l,rfl,d,rfl⟩;exact c w' d
def cl{args:R Zm}{v:Zm}(k:∀w,ae P f args w (rZ w λe w'=>e=v))(h:∀(μ:I->I) (w:Zl),((seen ops its os it.need i o,it.kind,it.out),(Z0 (ro ops its os it.need i μ) o).run P w)=((H,Kind.call,SV.v v),.ok (.enter f args) w):=by intro _ _;kernel_rfl):Cert P Q w0 k0 X ops i its bl os o it:=
 clB h (λw _=>k w)
def cm(b:I){args:R Zm}{c:G Zm}(x:∀w,BelX k0 X w0 w->ae P f args w (Ret λe w'=>∃k,Made w k c w'/\e=it.out.at (λ_=>k)))
 (h:∀(μ:I->I) (w:Zl),((seen ops its os it.need i o,it.kind,(bl[b]?).map (·.before),it.out.blk),(Z0 (ro ops its os it.need i μ) o).run P w)=((H,Kind.make b,J c,J b),.ok (.enter f args) w)):Cert P Q w0 k0 X ops i its bl os o it:=by
 intro μ a w K s _ g;have j:=h μ w;simp only[an.injEq]at j;obtain⟨⟨h1,m,l,q⟩,t⟩:=j;rw[m];intro e n p;rw[n]at l;obtain rfl:e.before=c:=ZV.inj l;rw[ao,qW h1 s,t,un];refine(x w g).mono ?_;rintro r w' ⟨y,rfl,k,u,rfl⟩;have v:it.out.at (upd μ b k)=it.out.at (λ_=>k):=SV.at_congr λz d=>by
  rw[q]at d;obtain rfl:=ZV.inj d;rw[upd,yGP Z]
 have:=p k w' u;rw[v]at this;exact this
def Dm(k:R Z4)(i:I)(o:Z4)(bl:G Bl)(b:I):Hc:=match bl[b]? with
 | some e=>(match e.al with|none=>H|some j=>bV o j) && readB k i e
 | none=>D
def Seen(bl:G Bl)(bs:G I)(μ:I->I)(w:Zl):Prop:=∀b∈bs,∀e:Bl,bl[b]? = J e->e.before≠[]->w.rangeAt (μ b) 0 e.before/\μ b<w.heap.size
def Py{bs:G I}(ho:ops[i]? = J o)(h:bs.all (Dm ops i o bl)=H)(hR:Reads ops i bl μ w):Seen bl bs μ w:=λb m e d c=>by
 have h1:=Z7.1 h b m;unfold Dm at h1;rw[d]at h1;dsimp only at h1;rw[ZD]at h1;have f:=hR b e d (by
  cases k:e.al with
  | none=>exact Z5 Z
  | some j=>rw[k]at h1;exact ZW ⟨o,j,ho,Z,h1.1⟩) h1.2
 refine⟨f,?_⟩;cases k:e.before with
 | nil=>exact absurd k c
 | cons x r =>
  have g:=f 0 x (by rw[k];rfl);exact xD λn=>by
   have l:w.heap[μ b]? = F:=AF oM;simp[yy,l]at g
def cr(bs:G I){args:(I->I)->R Zm}{v:Zm}(q:∀(μ:I->I) (w:Zl),BelX k0 X w0 w->Seen bl bs μ w->ae P f (args μ) w (rZ w λe w'=>e=v))
 (h:∀(μ:I->I) (w:Zl),((seen ops its os it.need i o,it.kind,it.out,bs.all (Dm ops i o bl),ops[i]?),(Z0 (ro ops its os it.need i μ) o).run P w)=((H,Kind.call,SV.v v,H,J o),.ok (.enter f (args μ)) w)):Cert P Q w0 k0 X ops i its bl os o it:=by
 intro μ a w K l hR k;have b:=h μ w;simp only[an.injEq]at b;obtain⟨⟨h1,d,n,j,p⟩,m⟩:=b;rw[d];intro c;rw[n]at c;rw[ao,qW h1 l,m,un];refine(q μ w k (Py p j hR)).mono ?_;rintro e w' ⟨r,rfl,g,rfl⟩;exact c w' g
def ldv(k:R Z4)(c:G It)(bl:G Bl)(d:G (Tmp × SV))(i:I)(o:Z4)(it:It)(T:ZR)(n:I):GJ SV:=
 match it.kind,o.op with
 | .stay,.load T' (.tmp t)=>match src k c d it.need i t with
  | some (.p b off)=>match bl[b]? with
   | some e=>bif T' == T && e.al.isNone && readB k i e && (off+n).ble e.before.length then J (.v (.agg ((e.before.drop off).take n).toArray)) else F
   | none=>F
  | _=>F
 | _,_=>F
def ld(j:(P.underlying T).map (·.isRow)=J H)(l:(P.info? T).map (·.size)=J n)(h:ldv ops its bl os i o it T n=J it.out:=by kernel_rfl):Cert P Q w0 k0 X ops i its bl os o it:=by
 unfold ldv at h;split at h
 .rename_i T' t hk ho
  split at h
  .rename_i b off hs
   split at h
   .rename_i e hb
    cases c:(T' == T && e.al.isNone && readB ops i e && (off+n).ble e.before.length) with
    | false=>rw[c]at h;cases h
    | true =>
     rw[c]at h;simp only[ZD,beq_iff_eq,GJ.isNone_iff_eq_none,yGE]at c;obtain⟨⟨⟨rfl,d⟩,f⟩,g⟩:=c;have k:((e.before.drop off).take n).length=n:=by rw[zc,yDF];omega
     refine rA hk (off:=off) e hb d f ho (ZV.inj h).symm (λ_ _ K=>oJ hs K) ?_ j (by rw[k];exact l);rw[k]
   cases h
  cases h
 cases h
def ptv(k:R Z4)(c:G It)(bl:G Bl)(d:G (Tmp × SV))(i:I)(o:Z4)(it:It)(T:ZR)(n:I):GJ (G Zm):=
 match it.kind,o.op,o.dst with
 | .put b,.store T' (.tmp x) (.tmp y),F=>match src k c d it.need i x,src k c d it.need i y with
  | some (.p b' off),J (.v (.agg vs))=>match bl[b]? with
   | some e=>bif T' == T && b' == b && vs.size == n && (off+n).ble e.before.length && vs.toList.all (·.oneCell') then J (rep e.before off vs.toList) else F
   | none=>F
  | _,_=>F
 | _,_,_=>F
def pt(m:(P.info? T).map (·.size)=J n)(h:((ptv ops its bl os i o it T n).isSome,ptv ops its bl os i o it T n)=(H,match it.kind with | .put b=>(bl[b]?).map (·.after)|_=>F):=by kernel_rfl):Cert P Q w0 k0 X ops i its bl os o it:=by
 simp only[an.injEq]at h;let⟨k,h⟩:=h
 rw[h]at k;unfold ptv at h;split at h
 .rename_i b T' x y hk ho hdn
  rw[hk]at h k;dsimp only at h k;cases g:bl[b]? with
  | none=>rw[g]at k;cases k
  | some e =>
   rw[g]at h;split at h
   .rename_i b' off vs hx hy
    dsimp only at h;cases f:(T' == T && b' == b && vs.size == n && (off+n).ble e.before.length && vs.toList.all (·.oneCell')) with
    | false=>rw[f]at h;cases h
    | true =>
     rw[f]at h;have l:J (rep e.before off vs.toList)=J e.after:=h;simp only[ZD,beq_iff_eq,yGE]at f;obtain⟨⟨⟨⟨rfl,rfl⟩,p⟩,d⟩,h1⟩:=f;have c:vs.toList.length=n:=by rw[R.length_toList];exact p
     refine nO (off:=off) hk e g ho hdn (λ_ _ K=>oJ hx K) (λ_ _ K=>?_) (by rw[c];exact d) (λj=>?_) (by rw[c];exact m) h1
     .rw[R.toArray_toList];exact oJ hy K
     rw[<-ZV.inj l,rep_at (by rw[c];exact d)]
   cases h
 rw[<-h]at k;cases k
def aft(pu:G (I × I × G Zm))(b:I)(c:G Zm):G Zm:=match pu.find? (λx=>x.1 == b) with|some x=>x.2.2|none=>c
def sto(pu:G (I × I × G Zm))(b:I):GJ I:=(pu.find? (λx=>x.1 == b)).map (·.2.1)
def olB(pu:G (I × I × G Zm)):I->G (G Zm)->G Bl
 | _,[]=>[]
 | b,c :: r=>⟨c,aft pu b c,F,sto pu b⟩ :: olB pu (b+1) r
def mkB(pu:G (I × I × G Zm)):I->G (I × G Zm)->G Bl
 | _,[]=>[]
 | b,c :: r=>⟨c.2,aft pu b c.2,J c.1,sto pu b⟩ :: mkB pu (b+1) r
def bls(cs:G (G Zm))(mk:G (I × G Zm))(pu:G (I × I × G Zm)):G Bl:=olB pu 0 cs++mkB pu cs.length mk
def uB(pu:G (I × I × G Zm)):∀(cs:G (G Zm)) (b:I),(olB pu b cs).length=cs.length
 | [],_=>rfl
 | c :: r,b=>by rw[olB,Z9,uB pu r,Z9]
def IW(pu:G (I × I × G Zm)):∀(cs:G (I × G Zm)) (b:I),(mkB pu b cs).length=cs.length
 | [],_=>rfl
 | c :: r,b=>by rw[mkB,Z9,IW pu r,Z9]
def zY(pu:G (I × I × G Zm)):∀(cs:G (G Zm)) (b:I),(olB pu b cs).map (·.before)=cs
 | [],_=>rfl
 | c :: r,b=>by rw[olB,uz,zY pu r]
def Al(pu:G (I × I × G Zm)):∀(cs:G (I × G Zm)) (b:I),(mkB pu b cs).map (·.before)=cs.map (·.2)
 | [],_=>rfl
 | c :: r,b=>by rw[mkB,uz,Al pu r,uz]
def IM{pu:G (I × I × G Zm)}:∀(cs:G (G Zm)) (b j:I) (e:Bl),(olB pu b cs)[j]? = J e->e.al=F/\e.after=aft pu (b+j) e.before/\e.st=sto pu (b+j)
 | [],_,_,_,h=>by simp[olB]at h
 | c :: r,b,0,e,h=>by
  rw[olB,ZT]at h;obtain rfl:=ZV.inj h;exact⟨Z,Z,Z⟩
 | c :: r,b,j+1,e,h=>by
  rw[olB,ZQ]at h;have:=IM r (b+1) j e h;rwa[show b+1+j=b+(j+1) by omega]at this
def IX(pu:G (I × I × G Zm)):∀(cs:G (I × G Zm)) (b j:I) (e:Bl),(mkB pu b cs)[j]? = J e->(∃x∈cs,e.al=J x.1)/\e.after=aft pu (b+j) e.before/\e.st=sto pu (b+j)
 | [],_,_,_,h=>by simp[mkB]at h
 | c :: r,b,0,e,h=>by
  rw[mkB,ZT]at h;obtain rfl:=ZV.inj h;exact⟨⟨c,pw,Z⟩,Z,Z⟩
 | c :: r,b,j+1,e,h=>by
  rw[mkB,ZQ]at h;let⟨⟨x,hx,h1⟩,k⟩:=IX pu r (b+1) j e h
  refine⟨⟨x,ps _ hx,h1⟩,?_⟩;rwa[show b+1+j=b+(j+1) by omega]at k
variable {cs cs':List (List Zm)}{mk:List (Nat × List Zm)}{pu:List (Nat × Nat × List Zm)}{ks:List Nat}
def Dp:(bls cs mk pu).length=cs.length+mk.length:=by rw[bls,Zv,uB,IW]
def A5:(bls cs mk pu).map (·.before)=cs++mk.map (·.2):=by rw[bls,ty,zY,Al]
def yM{e:Bl}(h:(bls cs mk pu)[b]? = J e):e.after=aft pu b e.before/\e.st=sto pu b/\((b<cs.length/\e.al=F)\/(cs.length<=b/\∃x∈mk,e.al=J x.1)):=by
 unfold bls at h;by_cases k:b<cs.length
 .rw[uo (by rw[uB];exact k)]at h;have:=IM cs 0 b e h;rw[Zs]at this;exact⟨this.2.1,this.2.2,Z5 ⟨k,this.1⟩⟩
 rw[xS (by rw[uB];omega),uB]at h;have:=IX pu mk cs.length (b-cs.length) e h;rw[show cs.length+(b-cs.length)=b by omega]at this;exact⟨this.2.1,this.2.2,ZW ⟨oM,this.1⟩⟩
def Cf:oI (bls cs mk pu) cs.length=H:=by
 simp only[oI,ZD,decide_eq_true_eq];refine⟨Z7.2 λx hx=>?_,by rw[Dp];omega⟩;rw[yDe]at hx;rcases(yM hx).2.2 with⟨h1,k⟩|⟨h1,y,-,k⟩
 .rw[k];simp[h1]
 rw[k];simp;omega
def inB(m:I)(mk:G (I × G Zm))(pu:G (I × I × G Zm)):Hc:=mk.all (λx=>x.1.blt m) && pu.all (λx=>x.2.1.blt m)
def Jv(h:inB its.length mk pu=H)(hl:pu.map (λx=>x.2.2.length)=pu.map (λx=>(((cs++mk.map (·.2))[x.1]?).getD []).length)):
 (∀e∈bls cs mk pu,∀j,e.al=J j\/e.st=J j->j<its.length)/\∀e∈bls cs mk pu,e.fin.length=e.before.length:=by
 simp only[inB,ZD]at h;refine⟨λe d j k=>?_,λe d=>?_⟩
 .let⟨b,c⟩:=zb d
  let⟨h1,f,i⟩:=yM c
  rcases k with k|k
  .rcases i with⟨-,g⟩|⟨-,x,hx,g⟩
   .rw[g]at k;cases k
   rw[g]at k;obtain rfl:=ZV.inj k;have:=Z7.1 h.1 x hx;exact yh (qt this)
  rw[f]at k;unfold sto at k;obtain⟨x,hx,rfl⟩:=Zp.1 k;have:=Z7.1 h.2 x (Dr hx);exact yh (qt this)
 let⟨b,c⟩:=zb d
 obtain⟨h1,f,-⟩:=yM c;rw[Bl.fin,f,h1];unfold sto aft;cases g:pu.find? (λx=>x.1 == b) with
 | none=>rfl
 | some x =>
  show x.2.2.length=_;have hx:x.1=b:=by simpa using yCl g
  have i:=yEa.1 hl x (Dr g);rw[i,<-A5 (pu:=pu),hx,rm,c];rfl
def lk(k:G It)(b:G (Tmp × SV))(t:Tmp):GJ SV:=
 match k.find? (λit=>it.dst == J t) with
 | some it=>J it.out
 | none=>(b.find? (λx=>x.1 == t)).map (·.2)
structure M(w0:Zl)(k0:I)(X:G I)(n:I)(cs:G (G Zm))(ks:G I)(os:G (Tmp × SV))(a:Act)(w:Zl):Prop where
 st:St w0 k0 X cs ks w
 sl:Sl a n
 os:Olds a (ad ks) os
def All:I->(G I->Prop)->Prop
 | 0,f=>f []
 | n+1,f=>∀k:I,All n λl=>f (k :: l)
def All.get:∀ {n:I}{f:G I->Prop},All n f->∀l:G I,l.length=n->f l
 | 0,f,h,l,hl=>by rw[yES.1 hl];exact h
 | n+1,f,h,[],hl=>by simp at hl
 | n+1,f,h,k :: l,hl=>All.get (h k) l (by simpa using hl)
def Rf{s:SV}{new:G I}(h:∀b,s.blk=J b->b<ks.length):s.at (ad (ks++new))=s.at (ad ks):=SV.at_congr λb k=>by
 unfold ad;rw[yBI,yBI,uo (h b k)]
def Olds.mk':∀ {l:G (Tmp × SV)},(∀x∈l,a.tmps[x.1]? = J (x.2.at μ))->Olds a μ l
 | [],_=>trivial
 | x :: r,h=>⟨h x pw,Olds.mk' λy k=>h y (ps _ k)⟩
def M.next{os':G (Tmp × SV)}{new:G I}(h:M w0 k0 X n cs ks os a w)(c:allB ops its (bls cs mk pu) os n=H)(p:(os'.map λx=>lk its os x.1)=os'.map λx=>J x.2)
 (K:St w0 k0 X cs' (ks++new) w'):M w0 k0 X n cs' (ks++new) os' (puts (ad (ks++new)) its a) w':=by
 refine⟨K,h.sl.puts,Olds.mk' λx hx=>?_⟩;have h1:=yEa.1 p x hx;simp only[allB,ZD,beq_iff_eq]at c;obtain⟨⟨⟨⟨A,hd⟩,f⟩,m⟩,C⟩:=c;unfold lk at h1;cases hf:its.find? (λit=>it.dst == J x.1) with
 | some it =>
  rw[hf]at h1;have g:=Dr hf;have d:it.dst=J x.1:=by simpa using yCl hf
  obtain⟨j,i⟩:=zb g;have k:=Z7.1 m it g;rw[d]at k;have:=vT (μ:=(ad (ks++new))) its a j it x.1 hd i d (by rw[h.sl.size];simpa using k);rw[this,<-ZV.inj h1]
 | none =>
  rw[hf]at h1;obtain⟨y,r,l⟩:=Zp.1 h1;have g:=Dr r;have o:y.1=x.1:=by simpa using yCl r
  have s:=h.os.get y.1 y.2 g;rw[nD _ its a x.1 (λit i d=>by
   have:=yFo.1 hf it i;rw[d]at this;simp at this),<-o,s,<-l]
  congr 1
  refine(Rf λb t=>?_).symm;have k:=Z7.1 f y g;rw[t]at k;dsimp only at k;cases q:(bls cs mk pu)[b]? with
  | none=>rw[q]at k;cases k
  | some e =>
   rw[q]at k;rcases(yM q).2.2 with⟨u,-⟩|⟨-,z,-,v⟩
   .rw[h.st.len];exact u
   dsimp only at k;rw[v]at k;simp at k
def M.reg(h:M w0 k0 X n cs ks os a w)(k:allB ops its (bls cs mk pu) os n=H)(b:Certs P Q w0 k0 X ops its (bls cs mk pu) os 0 ops.toList its):Reg P ops Q w0 k0 X its (bls cs mk pu) os a (ad ks):=
 Reg.mk' (by rw[h.sl.size];exact k) h.os b
def EZ:((bls cs mk pu).map (·.before)).take cs.length=cs:=by rw[A5,G.take_left'];rfl
def M.tx{id:I}(h:M w0 k0 X n cs ks os a w)(k:G It)(mk:G (I × G Zm))(pu:G (I × I × G Zm))(b:G (G Zm))(os':G (Tmp × SV))
 (c:(allB ops k (bls cs mk pu) os n && inB k.length mk pu,(bls cs mk pu).map Bl.fin,os'.map λx=>lk k os x.1)=(H,b,os'.map λx=>J x.2))
 (hl:pu.map (λx=>x.2.2.length)=pu.map (λx=>(((cs++mk.map (·.2))[x.1]?).getD []).length))
 (l:Certs P Q w0 k0 X ops k (bls cs mk pu) os 0 ops.toList k)
 (g:All mk.length λnew=>∀d w',M w0 k0 X n b (ks++new) os' d w'->Q .normal d w'):(gH id ops false).wp P Q a w:=by
 simp only[an.injEq,ZD]at c;let⟨⟨h1,e⟩,i,f⟩:=c
 refine region_text' h.st (h.reg h1 l) Cf EZ (Jv e hl) λnew w' d j=>?_
 rw[Dp,xV]at d;exact g.get new d _ _ (h.next h1 f (i ▸ j))
def M.dr{id:I}(h:M w0 k0 X n cs ks os a w)(j:P.follows .mixedOrders=H)(k:G It)(mk:G (I × G Zm))(pu:G (I × I × G Zm))(b:G (G Zm))(os':G (Tmp × SV))
 (c:(allB ops k (bls cs mk pu) os n && inB k.length mk pu,(bls cs mk pu).map Bl.fin,os'.map λx=>lk k os x.1)=(H,b,os'.map λx=>J x.2))
 (hl:pu.map (λx=>x.2.2.length)=pu.map (λx=>(((cs++mk.map (·.2))[x.1]?).getD []).length))
 (m:Certs P Q w0 k0 X ops k (bls cs mk pu) os 0 ops.toList k)
 (g:All mk.length λnew=>∀d w',M w0 k0 X n b (ks++new) os' d w'->Q .normal d w'):(gH id ops H).wp P Q a w:=by
 simp only[an.injEq,ZD]at c;let⟨⟨h1,e⟩,i,f⟩:=c
 refine region_draws' j h.st (h.reg h1 m) Cf EZ (Jv e hl) λnew w' d l=>?_
 rw[Dp,xV]at d;exact g.get new d _ _ (h.next h1 f (i ▸ l))
def Ju:(bls cs [] []).map Bl.fin=cs:=by
 have h:∀(cs:G (G Zm)) (b:I),(olB [] b cs).map Bl.fin=cs:=λcs=>by
  induction cs with
  | nil=>intro _;rfl
  | cons c r ih=>intro b;rw[olB,uz,ih];rfl
 rw[bls,ty,h];exact ug _
def M.tx0{id:I}(h:M w0 k0 X n cs ks os a w)(k:G It)(os':G (Tmp × SV))(c:(allB ops k (bls cs [] []) os n,os'.map λx=>lk k os x.1)=(H,os'.map λx=>J x.2))
 (f:Certs P Q w0 k0 X ops k (bls cs [] []) os 0 ops.toList k) (d:∀b w',M w0 k0 X n cs ks os' b w'->Q .normal b w'):(gH id ops false).wp P Q a w:=by
 simp only[an.injEq]at c;refine h.tx k [] [] cs os' (by simp only[c.1,c.2,Ju];rfl) Z f (λb w' e=>d b w' ?_);rwa[ug]at e
def M.dr0{id:I}(h:M w0 k0 X n cs ks os a w)(e:P.follows .mixedOrders=H)(k:G It)(os':G (Tmp × SV))(c:(allB ops k (bls cs [] []) os n,os'.map λx=>lk k os x.1)=(H,os'.map λx=>J x.2))
 (g:Certs P Q w0 k0 X ops k (bls cs [] []) os 0 ops.toList k) (d:∀b w',M w0 k0 X n cs ks os' b w'->Q .normal b w'):(gH id ops H).wp P Q a w:=by
 simp only[an.injEq]at c;refine h.dr e k [] [] cs os' (by simp only[c.1,c.2,Ju];rfl) Z g (λb w' f=>d b w' ?_);rwa[ug]at f
def M.t{id:I}(h:M w0 k0 X n cs ks os a w)(k:G It)(mk:G (I × G Zm))(pu:G (I × I × G Zm))(b:G (G Zm))(os':G (Tmp × SV))(f:Certs P Q w0 k0 X ops k (bls cs mk pu) os 0 ops.toList k)(d:All mk.length λnew=>∀c w',M w0 k0 X n b (ks++new) os' c w'->Q .normal c w')(e:(allB ops k (bls cs mk pu) os n && inB k.length mk pu,(bls cs mk pu).map Bl.fin,os'.map λx=>lk k os x.1)=(H,b,os'.map λx=>J x.2):=by kernel_rfl)(hl:pu.map (λx=>x.2.2.length)=pu.map (λx=>(((cs++mk.map (·.2))[x.1]?).getD []).length):=by kernel_rfl):(gH id ops false).wp P Q a w:=h.tx k mk pu b os' e hl f d
def M.d{id:I}(h:M w0 k0 X n cs ks os a w)(k:G It)(mk:G (I × G Zm))(pu:G (I × I × G Zm))(b:G (G Zm))(os':G (Tmp × SV))(g:Certs P Q w0 k0 X ops k (bls cs mk pu) os 0 ops.toList k)(d:All mk.length λnew=>∀c w',M w0 k0 X n b (ks++new) os' c w'->Q .normal c w')(e:(allB ops k (bls cs mk pu) os n && inB k.length mk pu,(bls cs mk pu).map Bl.fin,os'.map λx=>lk k os x.1)=(H,b,os'.map λx=>J x.2):=by kernel_rfl)(hl:pu.map (λx=>x.2.2.length)=pu.map (λx=>(((cs++mk.map (·.2))[x.1]?).getD []).length):=by kernel_rfl)(f:P.follows .mixedOrders=H:=by kernel_rfl):(gH id ops H).wp P Q a w:=h.dr f k mk pu b os' e hl g d
def M.u{id:I}(h:M w0 k0 X n cs ks os a w)(k:G It)(os':G (Tmp × SV))(e:Certs P Q w0 k0 X ops k (bls cs [] []) os 0 ops.toList k)(c:∀b w',M w0 k0 X n cs ks os' b w'->Q .normal b w')(d:(allB ops k (bls cs [] []) os n,os'.map λx=>lk k os x.1)=(H,os'.map λx=>J x.2):=by kernel_rfl):(gH id ops false).wp P Q a w:=h.tx0 k os' d e c
def M.e{id:I}(h:M w0 k0 X n cs ks os a w)(k:G It)(os':G (Tmp × SV))(f:Certs P Q w0 k0 X ops k (bls cs [] []) os 0 ops.toList k)(c:∀b w',M w0 k0 X n cs ks os' b w'->Q .normal b w')(d:(allB ops k (bls cs [] []) os n,os'.map λx=>lk k os x.1)=(H,os'.map λx=>J x.2):=by kernel_rfl)(e:P.follows .mixedOrders=H:=by kernel_rfl):(gH id ops H).wp P Q a w:=h.dr0 e k os' d f c
def M.at(h:M w0 k0 X n cs ks os a w){t:Tmp}{s:SV}(hs:(os.find? (λx=>x.1 == t)).map (·.2)=J s:=by kernel_rfl):a.tmps[t]? = J (s.at (ad ks)):=by
 obtain⟨y,b,rfl⟩:=Zp.1 hs;have k:y.1=t:=by simpa using yCl b
 rw[<-k];exact h.os.get y.1 y.2 (Dr b)
def St.made{cs:G (G Zm)}(h:St w w.heap.size [] cs ks w'){c:G Zm}(f:cs[b]? = J c):Made w (ad ks b) c w':=by
 let⟨h1,k,e,d⟩:=h.has b c f
 exact⟨h.bel.below,d.elim id (λh=>absurd h ZJ),e,h1,k⟩
def M.av(h:M w0 k0 X n cs ks os a w){t:Tmp}{v:Zm}(hs:(os.find? (λx=>x.1 == t)).map (·.2)=J (.v v):=by kernel_rfl):a.tmps[t]? = J v:=h.at hs
def M.ev(h:M w0 k0 X n cs ks os a w){t:Tmp}{v:Zm}(hs:(os.find? (λx=>x.1 == t)).map (·.2)=J (.v v):=by kernel_rfl):a.eval (.tmp t)=v:=C7 (h.at hs)
def M.enter{c:Code}(k:G (Tmp × SV))(n:I)(h:(k.map λx=>a.tmps[x.1]?,a.tmps.size,a.defers)=(k.map λx=>J (x.2.at (ad [])),n,[]))(b:∀a,M w w.heap.size [] n [] [] k a w->c.wp P Q a w):c.wp P Q a w:=by
 simp only[an.injEq]at h;exact b a ⟨St.begin w,⟨h.2.1,h.2.2⟩,Olds.mk' λx hx=>yEa.1 h.1 x hx⟩
def M.drop{j:Zl}{cs:G (G Zm)}{g:G (Tmp × SV)}(h:M j i X n (cs++cs2) (ks++ks2) g a w)(hl:ks.length=cs.length)
 (ho:g.all (λx=>match x.2.blk with|none=>H|some b=>b.blt cs.length)=H):M j i X n cs ks g a w:=by
 have k:∀b,b<cs.length->ad (ks++ks2) b=ad ks b:=λb d=>by
  unfold ad;rw[yBI,yBI,uo oM]
 refine⟨⟨h.st.bel,h.st.le,hl,λb c d=>?_,λb c d l f=>?_⟩,h.sl,Olds.mk' λx hx=>?_⟩
 .have e:=(Zz.1 d).1;have:=h.st.has b c (by rw[uo e];exact d);rwa[k b e]at this
 .have:=h.st.inj b c (by rw[Zv];omega) (by rw[Zv];omega) f;rwa[k b d,k c l]at this
 rw[h.os.get x.1 x.2 hx]
 congr 1
 refine SV.at_congr λb d=>?_
 have h1:=Z7.1 ho x hx;rw[d]at h1;exact k b (yh (qt h1))
abbrev z(n:I):G Zm:=G.replicate n (uZ 0)
def It.s(d:Tmp)(k:G (Tmp × I))(b:SV):It:=⟨J d,k,b,.stay⟩
def It.x(d:Tmp)(k:G (Tmp × I))(v:Zm):It:=⟨J d,k,.v v,.stay⟩
def It.c(d:Tmp)(k:G (Tmp × I))(v:Zm):It:=⟨J d,k,.v v,.call⟩
def It.m(d:Tmp)(k:G (Tmp × I))(b:I):It:=⟨J d,k,.p b 0,.make b⟩
def It.u(k:G (Tmp × I))(b:I):It:=⟨F,k,.v am,.put b⟩
end RG
namespace RG
variable {P:ai}{ops:Array Z4}{Q:fI->Act->Zl->Prop}{w:Zl}{a0:Act}{L:Array Bool}
structure Flow where
 R:I->Zm->Zl->Prop
 B:I->Zl->Prop
 E:I->Zl->Zl->Prop
 kill:I->G I
 killB:I->G I
def aP(k:R Z4)(i:I):GJ Tmp:=(k[i]?).bind (·.dst)
def depOn(b:R Z4)(x k:I):Hc:=match b[x]? with|some o=>bV o k|none=>H
def okK(b:R Z4)(k:I)(l:G I):Hc:=l.all (λx=>x == k || depOn b x k)
def nU(b:R Z4)(k:I)(t:Tmp):Hc:=(fo b.size).all (λi=>aP b i != J t || i == k || depOn b i k)
structure InvF(F:Flow)(ops:R Z4)(a0:Act)(L:R Hc)(a:Act)(w:Zl):Prop where
 size:L.size=ops.size
 cl:∀(i:I) (o:Z4),ops[i]? = J o->on L i=H->∀e∈o.after,ml .any e=H->on L e.on=H
 def':a.defers=a0.defers
 sz:a.tmps.size=a0.tmps.size
 rest:∀t:Tmp,(∀i,on L i=H->aP ops i≠J t)->a.tmps[t]? = a0.tmps[t]?
 all:∃V:I->Zm,(∀i d,on L i=H->aP ops i=J d->a.tmps[d]? = J (V i))/\(∀i,on L i=H->(∀x∈F.kill i,on L x=D)->F.R i (V i) w)
 base:∀b,(∀x∈F.killB b,on L x=D)->F.B b w
def bG(P:ai)(Q:fI->Act->Zl->Prop)(F:Flow)(c:R Z4)(a0:Act)(k:I)(o:Z4):Prop:=
 ∀(a:Act) (w:Zl) (K:Act->Zl->Prop),
  (∀j d,bV o j=H->okK c k (F.kill j)=H->aP c j=J d->F.R j (a.eval (.tmp d)) w) ->
  (∀t,nU c k t=H->a.eval (.tmp t)=a0.eval (.tmp t)) ->
  (∀b,okK c k (F.killB b)=H->F.B b w) ->
  (∀v w',F.E k w w'->F.R k v w'->K (a.put o.dst v) w')->o.wp P a w K Q
def Cq(P:ai)(Q:fI->Act->Zl->Prop)(F:Flow)(b:R Z4)(a0:Act)(k:I)(o:Z4):Prop:=
 match o.guard with
 | none=>bG P Q F b a0 k o
 | some (j,want)=>bV o j=H/\(aP b j).isSome=H/\okK b k (F.kill j)=H /\
  (((∀v w,F.R j v w->v=.bool want)/\bG P Q F b a0 k o)\/((∀v w,F.R j v w->v=.bool (!want))/\∀w,F.E k w w/\F.R k am w))
def Df(k:R Z4)(n:I):Hc:=
 (fo k.size).all (λi=>match k[i]? with
  | some o=>o.after.all (λe=>!ml .any e || e.on<i) && (match o.dst with|none=>H|some d=>decide (d<n) && (fo k.size).all (λj=>j == i || aP k j != J d))
  | none=>D)
structure RegF(P:ai)(Q:fI->Act->Zl->Prop)(F:Flow)(ops:R Z4)(a0:Act)(m:I):Prop where
 chk:Df ops a0.tmps.size=H
 cert:∀k o,k<m->ops[k]? = J o->Cq P Q F ops a0 k o
 stab:∀i j,i<m->j<m->i≠j->(F.kill j).contains i=D->depOn ops j i=D->∀v w w',F.E i w w'->F.R j v w->F.R j v w'
 stabB:∀i b,i<m->(F.killB b).contains i=D->∀w w',F.E i w w'->F.B b w->F.B b w'
variable {F:Flow}{m:Nat}
def RegF.of{o:Z4}(h:RegF P Q F ops a0 m)(ho:ops[k]? = J o):(∀e∈o.after,ml .any e=H->e.on<k)/\∀d,o.dst=J d->d<a0.tmps.size/\∀j,aP ops j=J d->j=k:=by
 have h1:=Z7.1 h.chk k (p9.2 ((ZO.1 ho).1));rw[ho]at h1;simp only[ZD]at h1;let⟨i,c⟩:=h1
 refine⟨λe g l=>?_,λd hd=>?_⟩
 .have:=ul.1 i e g;simpa[l]using this
 rw[hd]at c;simp only[ZD,decide_eq_true_eq]at c;refine⟨c.1,λj b=>?_⟩;have f:j<ops.size:=by
  unfold aP at b;cases hx:ops[j]? with
  | none=>rw[hx]at b;cases b
  | some x=>exact(ZO.1 hx).1
 have:=Z7.1 c.2 j (p9.2 f);simpa[b]using this
def fW{o:Z4}(ho:ops[i]? = J o):aP ops i=o.dst:=by unfold aP;rw[ho];rfl
def G6{x:I}{o:Z4}(h:InvF F ops a0 L a w){ho:ops[x]? = J o}(hd:bV o k=H)(hx:on L x=H):on L k=H:=by
 let⟨e,c,b⟩:=yt.1 hd
 simp only[ZD,beq_iff_eq]at b;rw[<-b.2];exact h.cl x o ho hx e c b.1
def IL{x:I}(h:on L x=H):x<L.size:=by
 rcases I.lt_or_ge x L.size with h1|h1
 .exact h1
 unfold on at h;rw[ZB,AF h1]at h;cases h
def InvF.nt(d:on L k=false)(h:InvF F ops a0 L a w)(x:I)(hx:(x == k || depOn ops x k)=H):on L x=false:=by
 cases b:on L x with
 | false=>rfl
 | true =>
  rcases xj _ _ ▸ hx with h1|h1
  .rw[show x=k by simpa using h1,d]at b;cases b
  unfold depOn at h1;have e:x<ops.size:=by rw[<-h.size];exact IL b
  have c:=ZS e;rw[c]at h1;have:=G6 (ho:=c) h h1 b;rw[d]at this;cases this
def InvF.nx{o:Z4}{v:Zm}(R:RegF P Q F ops a0 m)(q:k<m)(C:∀i,on L i=H->i<m)(ho:ops[k]? = J o)(T:on L k=false)(z:∀e∈o.after,ml .any e=H->on L e.on=H)(h:InvF F ops a0 L a w)(hE:F.E k w w')(hR:F.R k v w'):InvF F ops a0 (L.setIfInBounds k H) (a.put o.dst v) w':=by
 let⟨O,n⟩:=R.of ho
 have N:k<L.size:=by rw[h.size];exact(ZO.1 ho).1
 have s:=fW ho;have y:=λx hx=>h.nt T x hx
 let⟨V,M,W⟩:=h.all
 have f:∀x,on (L.setIfInBounds k H) x=(on L x || k == x):=λx=>fV N
 refine⟨by rw[rh];exact h.size,λi oi p j e he u=>?_,?_,?_,λt X=>?_,⟨λx=>if x=k then v else V x,λi d j hd=>?_,λi j r=>?_⟩,λb u=>?_⟩
 .rw[f]at j⊢;by_cases c:k=i
  .subst c;rw[ho]at p;obtain rfl:=ZV.inj p;rw[z e he u,CR]
  rw[h.cl i oi p (by simpa[c]using j) e he u,CR]
 .rw[<-h.def'];cases o.dst<;>rfl
 .rw[tY];exact h.sz
 .have h1:o.dst≠J t:=λhd=>X k (by rw[f];simp) (by rw[s];exact hd)
  rw[qS a v h1];exact h.rest t λi j=>X i (by rw[f,j,CR])
 .rw[f]at j;by_cases c:i=k
  .subst c;rw[s]at hd;rw[hd];show(a.tmps.setIfInBounds d v)[d]? = J (if i=i then v else V i);rw[yGP (rfl:i=i)];rw[zk,yGP Z,yGP (by rw[h.sz];exact(n d hd).1)]
  have A:o.dst≠J d:=λl=>c ((n d l).2 i hd)
  rw[qS a v A];show _=J (if i=k then v else V i);rw[yGQ c];have g:¬k=i:=λe=>c e.symm
  exact M i d (by simpa[g]using j) hd
 .rw[f]at j;by_cases c:i=k
  .subst c;show F.R i (if i=i then v else V i) w';rw[yGP Z];exact hR
  show F.R i (if i=k then v else V i) w';rw[yGQ c];have g:¬k=i:=λe=>c e.symm
  have l:on L i=H:=by simpa[g]using j
  have h1:∀x∈F.kill i,on L x=false:=λx hx=>by
   have:=r x hx;rw[f,yDT]at this;exact this.1
  have K:(F.kill i).contains k=false:=by
   cases A:(F.kill i).contains k with
   | false=>rfl
   | true =>
    have:=r k (by simpa using A);rw[f]at this;simp at this
  have h3:depOn ops i k=false:=by
   cases A:depOn ops i k with
   | false=>rfl
   | true=>rw[y i (by rw[A,Hc.or_true])]at l;cases l
  exact R.stab k i q (C i l) (Ne.symm c) K h3 _ _ _ hE (W i l h1)
 have h1:∀x∈F.killB b,on L x=false:=λx hx=>by
  have:=u x hx;rw[f,yDT]at this;exact this.1
 have K:(F.killB b).contains k=false:=by
  cases A:(F.killB b).contains k with
  | false=>rfl
  | true =>
   have:=u k (by simpa using A);rw[f]at this;simp at this
 exact R.stabB k b q K _ _ hE (h.base b h1)
def LQ{o:Z4}(R:RegF P Q F ops a0 m)(C:k<m)(W:∀i,on L i=H->i<m)(ho:ops[k]? = J o)(M:on L k=D)(r:∀e∈o.after,ml .any e=H->on L e.on=H)(h:InvF F ops a0 L a w):
 wpOp P ops Q k (InvF F ops a0 (L.setIfInBounds k H)) a w:=by
 let⟨h5,h7⟩:=R.of ho
 have h9:k<L.size:=by rw[h.size];exact(ZO.1 ho).1
 have h8:=fW ho;have l:=λx hx=>h.nt M x hx
 let⟨V,X,h6⟩:=h.all
 have u:∀j d,bV o j=H->okK ops k (F.kill j)=H->aP ops j=J d->a.tmps[d]? = J (V j)/\F.R j (V j) w:=λj d O q hd=>by
  let⟨e,f,y⟩:=yt.1 O
  simp only[ZD,beq_iff_eq]at y;have c:on L j=H:=by rw[<-y.2];exact r e f y.1
  exact⟨X j d c hd,h6 j c λx hx=>l x (Z7.1 q x hx)⟩
 have p:∀j d,bV o j=H->okK ops k (F.kill j)=H->aP ops j=J d->F.R j (a.eval (.tmp d)) w:=λj d O q hd=>by
  rw[C7 (u j d O q hd).1];exact(u j d O q hd).2
 have n:∀t,nU ops k t=H->a.eval (.tmp t)=a0.eval (.tmp t):=λt hf=>by
  have h1:=h.rest t λi c hd=>by
   have f:i<ops.size:=by rw[<-h.size];exact IL c
   have g:=Z7.1 hf i (p9.2 f);rw[hd]at g;rw[l i (by simpa using g)]at c;cases c
  show a.tmps.getD t am=a0.tmps.getD t am;rw[ZB,ZB,h1]
 have g:∀b,okK ops k (F.killB b)=H->F.B b w:=λb y=>h.base b λx hx=>l x (Z7.1 y x hx)
 have f:=λv w' hE hR=>h.nx (v:=v) (w':=w') R C W ho M r hE hR
 have A:=R.cert k o C ho;unfold Cq at A;rw[wpOp,ho];dsimp only;cases N:o.guard with
 | none =>
  rw[N]at A;rw[DF N,yGP Z];left;exact A a w _ p n g f
 | some jw =>
  let⟨j,c⟩:=jw
  rw[N]at A;let⟨h3,T,h0,s⟩:=A
  let⟨d,hd⟩:=Z8.1 T
  let⟨hs,K⟩:=u j d h3 h0 hd
  have hy:∀b,V j=.bool b->rl o (yielded ops a.tmps)=(b == c):=λb y=>by
   have h4:yielded ops a.tmps j=J b:=by
    unfold aP at hd;unfold yielded;cases z:ops[j]? with
    | none=>rw[z]at hd;cases hd
    | some oj =>
     rw[z]at hd;show(match oj.dst.bind (a.tmps[·]?) with|some (.bool b)=>J b|_=>none)=_;rw[show oj.dst=J d from hd];show(match a.tmps[d]? with|some (.bool b)=>J b|_=>none)=_;rw[hs,y]
   rw[rl,N];show(yielded ops a.tmps j == J c)=_;rw[h4];cases b<;>cases c<;>rfl
  rcases s with⟨hw,hc⟩|⟨hw,z⟩
  .rw[hy _ (hw _ _ K),show(c == c)=H by cases c<;>rfl,yGP Z];left;exact hc a w _ p n g f
  rw[hy _ (hw _ _ K),show((!c) == c)=D by cases c<;>rfl];exact f am w (z w).1 (z w).2
def cD(V:I->Zm):G Z4->I->Act->Act
 | [],_,a=>a
 | o :: r,i,a=>cD V r (i+1) (a.put o.dst (V i))
def oY(V:I->Zm):∀(l:G Z4) (i:I) (a:Act),(cD V l i a).defers=a.defers
 | [],_,_=>rfl
 | o :: r,i,a=>by
  rw[cD,oY V r];cases o.dst<;>rfl
def nE(V:I->Zm):∀(l:G Z4) (i:I) (a:Act) (t:Tmp),(∀o∈l,o.dst≠J t)->(cD V l i a).tmps[t]? = a.tmps[t]?
 | [],_,_,_,_=>rfl
 | o :: r,i,a,t,h=>by
  rw[cD,nE V r _ _ t (λx hx=>h x (ps _ hx)),qS a _ (h o pw)]
def vU(V:I->Zm):∀(l:G Z4) (i:I) (a:Act) (j:I) (o:Z4) (d:Tmp),l[j]? = J o->o.dst=J d->(∀k b,l[k]? = J b->b.dst=J d->k=j)->d<a.tmps.size->(cD V l i a).tmps[d]? = J (V (i+j))
 | [],_,_,_,_,_,h,_,_,_=>by simp at h
 | x :: r,i,a,0,o,d,h,hd,hu,hs=>by
  obtain rfl:x=o:=by simpa using h
  rw[cD,nE V r _ _ d (λy f e=>by
   let⟨k,c⟩:=zb f
   have:=hu (k+1) y (by simpa using c) e;omega),hd]
  show(a.tmps.setIfInBounds d _)[d]? = _;rw[zk,yGP Z,yGP hs];rfl
 | x :: r,i,a,j+1,o,d,h,hd,hu,hs=>by
  rw[cD,vU V r (i+1) _ j o d (by simpa using h) hd (λk b e c=>by
   have:=hu (k+1) b (by simpa using e) c;omega) (by rw[tY];exact hs)]
  congr 2
  omega
def InvF.done(R:RegF P Q F ops a0 m)(h:InvF F ops a0 L a w)(k:∀i,i<ops.size->on L i=H)
 (n:∀(V:I->Zm),(∀i,i<ops.size->F.kill i=[]->F.R i (V i) w)->(∀b,F.killB b=[]->F.B b w)->Q .normal (cD V ops.toList 0 a0) w):Q .normal a w:=by
 let⟨V,d,j⟩:=h.all
 have e:a=cD V ops.toList 0 a0:=by
  refine Act.ext' ?_ (by rw[oY];exact h.def');apply yDY;intro t;by_cases f:∃(i:I) (o:Z4),ops[i]? = J o/\o.dst=J t
  .let⟨i,o,ho,hd⟩:=f
   rw[d i t (k i (ZO.1 ho).1) (by rw[fW ho];exact hd)];rw[vU V ops.toList 0 a0 i o t (by rw[qi];exact ho) hd (λl p c g=>((R.of ho).2 t hd).2 l (by rw[qi]at c;rw[fW c];exact g)) ((R.of ho).2 t hd).1,Zs]
  rw[h.rest t (λi c hd=>?_),nE V ops.toList 0 a0 t (λo g hd=>?_)]
  .let⟨i,c⟩:=zb g
   rw[qi]at c;exact f ⟨i,o,c,hd⟩
  unfold aP at hd;cases hx:ops[i]? with
  | none=>rw[hx]at hd;cases hd
  | some x=>rw[hx]at hd;exact f ⟨i,x,hx,hd⟩
 rw[e];exact n V (λi c g=>j i (k i c) (by rw[g];simp)) (λb f=>h.base b (by rw[f];simp))
def InvF.full(R:RegF P Q F ops a0 m)(h:InvF F ops a0 L a w)(f:ZX .any ops L=[]):∀i,i<ops.size->on L i=H:=by
 intro i;induction i using yFX with
 | ind i ih =>
  intro c;have ho:ops[i]? = J ops[i]:=ZS _;cases k:on L i with
  | true=>rfl
  | false =>
   have:i∈ZX .any ops L:=mem_ready.2 ⟨?_,_,ho,λe d g=>?_⟩
   .rw[f]at this;cases this
   .unfold on at k;rw[ZB,ZS (by rw[h.size];exact c)]at k⊢;exact k
   have b:=(R.of ho).1 e d g;exact ih e.on b (yEm b c)
def AD{id:I}(F:Flow)(q:P.follows .mixedOrders=H)(R:RegF P Q F ops a0 ops.size)(r:∀b,F.B b w.drew)
 (l:∀(V:I->Zm) (w':Zl),(∀i,i<ops.size->F.kill i=[]->F.R i (V i) w')->(∀b,F.killB b=[]->F.B b w')->Q .normal (cD V ops.toList 0 a0) w'):(gH id ops H).wp P Q a0 w:=by
 have key:∀(k:I) (L:Array Hc) (a:Act) (w:Zl),unl L=k->InvF F ops a0 L a w->wpAny P .any ops Q k L a w:=by
  intro k;induction k with
  | zero =>
   intro L a w m e;have c:∀i,i<ops.size->on L i=H:=λi f=>sU m (by rw[e.size];exact f)
   refine⟨?_,e.done R c (λV=>l V w)⟩;apply yEj.2;intro i f;obtain⟨h1,o,ho,-⟩:=mem_ready.1 f;have g:=c i (ZO.1 ho).1;unfold on at g;rw[ZB]at h1 g;cases hh:L[i]? with
   | none=>rw[hh]at h1;cases h1
   | some b=>rw[hh]at h1 g;rw[show b=D from h1]at g;cases g
  | succ k ih =>
   intro L a w m e;refine⟨λp=>e.done R (e.full R p) (λV=>l V w),λi f=>?_⟩;let⟨h1,o,ho,g⟩:=mem_ready.1 f
   have c:on L i=D:=by
    unfold on;rw[ZB]at h1⊢;cases hh:L[i]? with
    | none=>rfl
    | some b=>rw[hh]at h1;exact h1
   exact xm (λn w' j=>ih _ n w' (oN (sW h1)) j) (LQ R (ZO.1 ho).1 (λi f=>by rw[<-e.size];exact IL f) ho c g e)
 have c:∀i,on (ZA ops.size D) i=D:=λi=>by
  rw[on,ZB,yDu];by_cases h:i<ops.size
  .rw[yGP h];rfl
  rw[yGQ h];rfl
 refine wp_region_any q (key _ _ a0 _ ?_ ⟨ZL,(λi o _ h=>by rw[c]at h;cases h),Z,Z,λ_ _=>rfl,⟨λ_=>am,λi d h=>(by rw[c]at h;cases h),λi h=>(by rw[c]at h;cases h)⟩,λb _=>r b⟩);rw[unl,yE1,yFb];simp
structure PreF(F:Flow)(ops:R Z4)(a0:Act)(k:I)(o:Z4)(a:Act)(w:Zl):Prop where
 n:∀j d,bV o j=H->okK ops k (F.kill j)=H->aP ops j=J d->F.R j (a.eval (.tmp d)) w
 o:∀t,nU ops k t=H->a.eval (.tmp t)=a0.eval (.tmp t)
 b:∀b,okK ops k (F.killB b)=H->F.B b w
def kC(P:ai)(Q:fI->Act->Zl->Prop)(F:Flow)(b:R Z4)(a0:Act):I->G Z4->Prop
 | _,[]=>True
 | k,o :: r=>Cq P Q F b a0 k o/\kC P Q F b a0 (k+1) r
def AY:∀(l:G Z4) (i:I),kC P Q F ops a0 i l->∀k o,l[k]? = J o->Cq P Q F ops a0 (i+k) o
 | [],_,_,k,o,h=>by simp at h
 | x :: r,i,hc,0,o,h=>by
  obtain rfl:x=o:=by simpa using h
  exact hc.1
 | x :: r,i,hc,k+1,o,h=>by
  have:=AY r (i+1) hc.2 k o (by simpa using h);rwa[show i+1+k=i+(k+1) by omega]at this
def Oh(h:kC P Q F ops a0 0 ops.toList):∀k o,k<ops.size->ops[k]? = J o->Cq P Q F ops a0 k o:=λk o _ ho=>by
 have:=AY ops.toList 0 h k o (by rw[qi];exact ho);rwa[Zs]at this
def evo(ev:Tmp->Zm):oF->Zm
 | .tmp t=>ev t
 | .const v=>v
 | .global g=>jZ g
 | .func f=>.func (.func f) #[] #[]
def bZ(T:G Tmp)(o:Z4):Hc:=
 (match o.op with | .select _ _=>D|_=>H) && o.op.operands.all (λx=>match x with | .tmp t=>T.contains t|_=>H)
def nM{o:Z4}(ev:Tmp->Zm)(T:G Tmp)(h:bZ T o=H)(k:∀t∈T,a.eval (.tmp t)=ev t):Z0 a.eval o=Z0 (evo ev) o:=by
 simp only[bZ,ZD]at h;refine execOp_congr o (λcs b k=>?_) (λx hx=>?_)
 .rw[k]at h;exact absurd h.1 (by simp)
 have h1:=ul.1 h.2 x hx;cases x with
 | tmp t=>exact k t (by simpa using h1)
 | const v=>rfl
 | global g=>rfl
 | func f=>rfl
def Di{o:Z4}(h:∀(a:Act) (w:Zl),PreF F ops a0 k o a w->∃v w',(Z0 a.eval o).run P w=.ok (.value v) w'/\F.E k w w'/\F.R k v w'):bG P Q F ops a0 k o:=by
 intro a w K h1 b e d;let⟨v,w',c,hE,hR⟩:=h a w ⟨h1,b,e⟩
 rw[ao,c];exact d v w' hE hR
def qF{o:Z4}(t:Tmp)(h:∀(a:Act) (w:Zl),PreF F ops a0 k o a w->∃v w',(bZ [t] o=H)/\(Z0 (evo λ_=>a.eval (.tmp t)) o).run P w=.ok (.value v) w'/\F.E k w w'/\F.R k v w'):bG P Q F ops a0 k o:=by
 refine Di λa w b=>?_
 let⟨v,w',hs,c,hE⟩:=h a w b
 refine⟨v,w',?_,hE⟩;rw[nM (λ_=>a.eval (.tmp t)) [t] hs (λx hx=>by rw[show x=t by simpa using hx])];exact c
def Jp{o:Z4}(t:Tmp)(h:∀(a:Act) (w:Zl),PreF F ops a0 k o a w->∃f args,(bZ [t] o=H)/\(Z0 (evo λ_=>a.eval (.tmp t)) o).run P w=.ok (.enter f args) w/\ae P f args w (Ret λe w'=>F.E k w w'/\F.R k e w')):bG P Q F ops a0 k o:=by
 intro a w K h1 b g c;let⟨f,args,hs,d,i⟩:=h a w ⟨h1,b,g⟩
 rw[ao,nM (λ_=>a.eval (.tmp t)) [t] hs (λx hx=>by rw[show x=t by simpa using hx]),d,un];refine i.mono ?_;rintro e w' ⟨v,rfl,hE,hR⟩;exact c _ _ hE hR
def Dj{o:Z4}(t:Tmp)(ho:o.op=.load T (.tmp t))(b:(P.underlying T).map (·.isRow)=J H)(h:∀(a:Act) (w:Zl),PreF F ops a0 k o a w->∃g off cs,a.eval (.tmp t)=oZ g off/\w.rangeAt g off cs/\(P.info? T).map (·.size)=J cs.length/\F.E k w w/\F.R k (.agg cs.toArray) w):bG P Q F ops a0 k o:=by
 intro a w K h1 c i e;let⟨g,off,cs,l,f,j,hE,hR⟩:=h a w ⟨h1,c,i⟩
 let⟨d,b,hd⟩:=Zp.1 b
 exact wp_load_mid T (.tmp t) ho g off l cs d f b hd j (e _ _ hE hR)
def Og{o:Z4}(s u:Tmp)(t:ZR)(ho:o.op=.call { callee:=.builtin .append,args:=#[.tmp s,.tmp u],argTypes:=#[t,t] })
 (h:∀(a:Act) (w:Zl),PreF F ops a0 k o a w->∃v w',(oT #[t,t] o.type #[a.eval (.tmp s),a.eval (.tmp u)]).run P w=.ok v w'/\F.E k w w'/\F.R k v w'):bG P Q F ops a0 k o:=by
 intro a w K h1 b e c;let⟨v,w',d,hE,hR⟩:=h a w ⟨h1,b,e⟩
 unfold ao Z0;simp only[ho,resolve,invoke,builtin,ZK,qj,lp,yEh,uz,yEi,d];exact c _ _ hE hR
def Ca(h:kC P Q F ops a0 0 (ops.toList.take m)):∀k o,k<m->ops[k]? = J o->Cq P Q F ops a0 k o:=λk o b ho=>by
 have:=AY (ops.toList.take m) 0 h k o (by rw[xp,yGP b,qi];exact ho);rwa[Zs]at this
def InvF.act(R:RegF P Q F ops a0 m)(h:InvF F ops a0 L a w)(n:m<=ops.size)(c:∀i,on L i=H↔i<m)(f:∀i d,on L i=H->aP ops i=J d->a.tmps[d]? = J (V i)):a=cD V (ops.toList.take m) 0 a0:=by
 refine Act.ext' ?_ (by rw[oY];exact h.def');apply yDY;intro t;by_cases g:∃(i:I) (o:Z4),i<m/\ops[i]? = J o/\o.dst=J t
 .let⟨i,o,b,ho,hd⟩:=g
  rw[f i t ((c i).2 b) (by rw[fW ho];exact hd)];rw[vU V (ops.toList.take m) 0 a0 i o t (by rw[xp,yGP b,qi];exact ho) hd (λj l k e=>((R.of ho).2 t hd).2 j (by
   rw[xp]at k;split at k
   .rw[qi]at k;rw[fW k];exact e
   cases k)) ((R.of ho).2 t hd).1,Zs]
 rw[h.rest t (λi k hd=>?_),nE V (ops.toList.take m) 0 a0 t (λo e hd=>?_)]
 .let⟨i,k⟩:=zb e
  rw[xp]at k;split at k
  .rename_i b
   rw[qi]at k;exact g ⟨i,o,b,k,hd⟩
  cases k
 unfold aP at hd;cases hx:ops[i]? with
 | none=>rw[hx]at hd;cases hd
 | some x=>rw[hx]at hd;exact g ⟨i,x,(c i).1 k,hx,hd⟩
end RG
namespace RG
variable {P:ai}{ops:Array Z4}{Q:fI->Act->Zl->Prop}{w:Zl}{a0:Act}
def AllE(a:Act):G (Tmp × Zm)->Prop
 | []=>True
 | x :: r=>a.eval (.tmp x.1)=x.2/\AllE a r
def evl(k:G (Tmp × Zm))(t:Tmp):Zm:=match k.find? (λx=>x.1 == t) with|some x=>x.2|none=>am
def AllE.mem:∀ {k:G (Tmp × Zm)},AllE a k->∀x∈k,a.eval (.tmp x.1)=x.2
 | [],_,x,hx=>by cases hx
 | y :: r,h,x,hx=>by
  rcases fT.1 hx with rfl|hx
  .exact h.1
  exact AllE.mem h.2 x hx
def AllE.ev{k:G (Tmp × Zm)}(h:AllE a k):∀t∈k.map (·.1),a.eval (.tmp t)=evl k t:=λt c=>by
 obtain⟨x,hx,rfl⟩:=G.mem_map.1 c;unfold evl;cases hf:k.find? (λy=>y.1 == x.1) with
 | none =>
  have:=yFo.1 hf x hx;simp at this
 | some y =>
  have b:y.1=x.1:=by simpa using yCl hf
  have:=h.mem y (Dr hf);rw[b]at this;exact this
structure Gw where
 R:I->Zm->Zl->Prop
 B:Zl->Prop
 sR:∀i v w w',kZ w w'->R i v w->R i v w'
 sB:∀w w',kZ w w'->B w->B w'
def Gw.flow(G:Gw):Flow:=⟨G.R,λ_=>G.B,λ_ w w'=>kZ w w',λ_=>[],λ_=>[]⟩
structure PreG(G:Gw)(ops:R Z4)(a0:Act)(k:I)(o:Z4)(a:Act)(w:Zl):Prop where
 n:∀j d,bV o j=H->aP ops j=J d->G.R j (a.eval (.tmp d)) w
 o:∀t,nU ops k t=H->a.eval (.tmp t)=a0.eval (.tmp t)
 b:G.B w
variable {G:Gw}
def zO{o:Z4}(h:PreF G.flow ops a0 k o a w):PreG G ops a0 k o a w:=⟨λj d b hd=>h.n j d b Z hd,h.o,h.b 0 Z⟩
def bK{o:Z4}(h:∀(a:Act) (w:Zl),PreG G ops a0 k o a w->∃(b:List (Tmp × Zm)) (v:Zm) (w':Zl),AllE a b/\(bZ (b.map (·.1)) o,(Z0 (evo (evl b)) o).run P w)=(H,.ok (.value v) w')/\kZ w w'/\G.R k v w'):bG P Q G.flow ops a0 k o:=
 Di λa w c=>by
  let⟨b,v,w',d,hs,hE⟩:=h a w (zO c)
  simp only[an.injEq]at hs;refine⟨v,w',?_,hE⟩;rw[nM (evl b) (b.map (·.1)) hs.1 d.ev];exact hs.2
def fM{o:Z4}(h:∀(a:Act) (w:Zl),PreG G ops a0 k o a w->∃(b:List (Tmp × Zm)) (f:ph) (args:R Zm),AllE a b/\(bZ (b.map (·.1)) o,(Z0 (evo (evl b)) o).run P w)=(H,.ok (.enter f args) w)/\ae P f args w (rZ w λe w'=>G.R k e w')):bG P Q G.flow ops a0 k o:=by
 intro a w K h1 c g d;let⟨b,f,args,i,hs,j⟩:=h a w (zO ⟨h1,c,g⟩)
 simp only[an.injEq]at hs;rw[ao,nM (evl b) (b.map (·.1)) hs.1 i.ev,hs.2,un];refine j.mono ?_;rintro e w' ⟨v,rfl,hE,hR⟩;exact d _ _ hE hR
def jO{o:Z4}(t:Tmp)(ho:o.op=.load T (.tmp t))(e:(P.underlying T).map (·.isRow)=J H)(h:∀(a:Act) (w:Zl),PreG G ops a0 k o a w->∃g off cs,a.eval (.tmp t)=oZ g off/\w.rangeAt g off cs/\(P.info? T).map (·.size)=J cs.length/\G.R k (.agg cs.toArray) w):bG P Q G.flow ops a0 k o:=
 Dj t ho e λa w b=>by
  let⟨g,off,cs,h1,c,f,d⟩:=h a w (zO b)
  exact⟨g,off,cs,h1,c,f,ZF _ _,d⟩
def Gw.reg{m:I}(c:Df ops a0.tmps.size=H)(h:kC P Q G.flow ops a0 0 (ops.toList.take m)):RegF P Q G.flow ops a0 m:=
 ⟨c,Ca h,λi j _ _ _ _ _ v w w' hE hR=>G.sR j v w w' hE hR,λi b _ _ w w' hE k=>G.sB w w' hE k⟩
def Gw.draws{id:I}(G:Gw)(b:P.follows .mixedOrders=H)(e:Df ops a0.tmps.size=H)(h:kC P Q G.flow ops a0 0 (ops.toList.take ops.size))(d:G.B w.drew)
 (k:∀(V:I->Zm) (w':Zl),(∀i,i<ops.size->G.R i (V i) w')->G.B w'->Q .normal (cD V ops.toList 0 a0) w'):(gH id ops H).wp P Q a0 w:=
 AD G.flow b (Gw.reg e h) (λ_=>d) λV w' h1 c=>k V w' (λi f=>h1 i f Z) (c 0 Z)
end RG
def zU{m size c:I}{e:ZR}{i:TypeInfo}{z:Zm}{v s:Zm}{f:G Zm}{a:Addr}(hT:prog.underlying T=J (.slice e))(K:prog.info? e=J i)(O:i.zero=J z)(A:i.size=size)(C:i.bytes<=1000)
 (k:W.ownsRow base e size v n xs) (hs:Src prog size T (.slice (J a) m c) m f W) (b:n+m<=1000000000)
 (r:(oT #[T,T] T #[v,.slice (J a) m c]).run prog W=.ok s W'):s.ownBlock=v.ownBlock\/(s.ownBlock=J W.heap.size/\Below W.heap.size W W'):=by
 subst A;have o:∀(q:GJ Addr) (cap:I) (olds:G Zm),v=.slice q n cap->cap<n+m->(Builtin.firstCells i.size n (.slice q n cap)).run prog W.drew=.ok olds.toArray W.drew->s.ownBlock=v.ownBlock\/(s.ownBlock=J W.heap.size/\Below W.heap.size W W'):=λq cap olds hv N t=>by
  have h1:=Ev (n:=(n+m)) (c:=cap) N;have w:yC0 (n+m) cap*i.bytes<=(2*(n+m)+768)*1000:=qm h1 C;have p:=run_append_grow_src (P:=prog) W T T T e i z hT K O q n cap olds t (.slice (J a) m c) m f hs N oM (Zw w (by clear h1 w;omega));rw[hv,p]at r;injection r with hr1 b
  right;refine⟨by rw[<-hr1];rfl,?_⟩;rw[<-b];exact(⟨Z,Z,Z,Zo _,λ_ _=>rfl⟩:Below W.heap.size W W.drew).trans (dY (w:=W.drew))
 rcases id k with⟨-,⟨rfl,rfl⟩|⟨g,cap,cur,rfl,g1,M,g3,g4,V,X⟩⟩
 .by_cases Q:m=0
  .subst Q;have L:=r;obtain⟨d,b⟩:∃d,(oT #[T,T] T #[.slice F 0 0,.slice (J a) 0 c]).run prog W=.ok (.slice F 0 0) d:=by
    rcases hs.kind with⟨e',y⟩|y<;>exact⟨_,by simp[oT,yw hT,yw y,sizeOf,typeInfo,K,hs.len,hs.cells];rfl⟩
   rw[b]at r;injection r with hr1 b
   left;rw[<-hr1]
  .exact o F 0 [] Z oM (run_firstCells_none W.drew i.size 0 0 0)
 .by_cases d:n+m<=cap
  .have p:=yF7 (P:=prog) W T T T e i hT K g 0 n cap (.slice (J a) m c) m f hs d
    (λj y=>by
     have L:n*i.size+j<cur.size:=by
      rw[V];have h1:j<m*i.size:=by rw[<-hs.newsLen];exact y
      have w:(n+m)*i.size<=cap*i.size:=I.mul_le_mul_right _ d;rw[I.add_mul]at w;omega
     simp[yy,M,Zs,ZS L])
    (λj y=>by simp[World.frozen?,M])
   rw[p]at r;injection r with hr1 b
   left;rw[<-hr1];rfl
  .refine o (J ⟨g,0,F⟩) cap xs Z oM ?_;exact run_firstCells_some W.drew i.size n ⟨g,0,F⟩ n cap xs k.1 (λj u y=>by rw[World.cell?_drew];exact k.cells (g:=g) Z j u y)
structure Ap1(W W':Zl)(v v':Zm):Prop where
 os:W'.os=W.os
 tape:W'.tape=W.tape
 output:W'.output=W.output
 size:W.heap.size<=W'.heap.size
 keep:∀g,g<W.heap.size->v.ownBlock≠J g->W'.heap[g]? = W.heap[g]?
 mv:v'.ownBlock=v.ownBlock\/((∃g,v'.ownBlock=J g/\W.heap.size<=g)/\∀g,g<W.heap.size->W'.heap[g]? = W.heap[g]?)
def jS{e:ZR}{v:Zm}(h:W.ownsRow base e k v n xs)(d:∀g,v.ownBlock=J g->W'.heap[g]? = W.heap[g]?):W'.ownsRow base e k v n xs:=by
 rcases h with⟨b,h1|⟨g,cap,cur,rfl,c,i,f⟩⟩
 .exact⟨b,Z5 h1⟩
 exact⟨b,ZW ⟨g,cap,cur,Z,c,by rw[d g Z];exact i,f⟩⟩
def nG{g:I}{e:ZR}{v:Zm}(h:W.ownsRow base e k v n xs)(b:v.ownBlock=J g):base<=g/\g<W.heap.size/\∃cur,W.heap[g]? = J (.cells cur e (0,0)):=by
 rcases h with⟨j,⟨rfl,-⟩|⟨d,cap,cur,rfl,f,c,i⟩⟩
 .cases b
 obtain rfl:d=g:=ZV.inj b;refine⟨f,?_,cur,c⟩;by_cases b:d<W.heap.size
 .exact b
 rw[AF oM]at c;cases c
def FZ{P:ai}{c:Func}{v:Zm}(t u:Tmp)(g:c.results=#[.cell t T,.tmp u])(h:W.rangeAt k 0 vs)(f:tmps[t]? = J (jZ k))(hv:tmps[u]? = J v)(b:(P.underlying T).map (·.isRow)=J H)(j:(P.info? T).map (·.size)=J vs.length):(results c tmps).run P W=.ok (.tuple #[.agg vs.toArray,v]) W:=by
 let⟨d,b,hd⟩:=Zp.1 b
 have h1:=um (P:=P) W k 0 T vs d h b hd j;have e:tmps.getD t am=jZ k:=by rw[ZB,f];rfl
 have i:tmps.getD u am=v:=by rw[ZB,hv];rfl
 rw[results,g];simp only[yB6,yDl,yDw,e,i,asAddr];simp[ZK,h1]
end Go.Proofs.YtndpeoebngkhmaaGreat
