import Derived.Deep.MidRow
import Derived.OrdersHeld
import Derived.Deep.RegionHeld
import Derived.Deep.CutRange
import Derived.Deep.Draws
import Derived.Deep.RegionHeld3
import Derived.Deep.LoopGhost
import Derived.Laws.BitsLemmas
import Derived.LoopN
import Derived.Deep.RegionWith
import Derived.Deep.OwnRows
import Derived.Lib.LazyBuf
import Derived.Lib.ConvBytes
import Derived.Test.YtndpeoebngkhmaaGreatsv1
set_option linter.unusedVariables false
set_option linter.defProp false
set_option linter.constructorNameAsVariable false
set_option linter.unusedSimpArgs false
set_option maxRecDepth 1000000
set_option maxHeartbeats 4000000
namespace Go.Proofs.YtndpeoebngkhmaaGreat
open _root_ renaming Array->R,Bool->Hc,Fin->B,Int->Y,List->G,Nat->I,Option->GJ,UInt8->Fk,rfl->Z
open Go.Proofs.YtndpeoebngkhmaaGreat renaming Four->GS,oM->S,uZ->U,yGP->GD,yGQ->Id
open Go.RowKit renaming Hid->E
open Go.Sort renaming Holds->FE
open _root_.Bool renaming false->D,true->H
open _root_.Option renaming none->F,some->J
open RG
open _root_.Array renaming any_eq_true'->yt,getD_eq_getD_getElem?->ZB,getElem?_eq_none->AF,getElem_replicate->xh,replicate->ZA,setIfInBounds->yCC,setIfInBounds_comm->yDz,size_append->pq,size_replicate->ZL
open _root_.Bool renaming and_eq_true->ZD,false_eq_true->yFs,noConfusion->zd,or_eq_false_iff->yDT
open _root_.Classical renaming byContradiction->xD
open _root_.Fin renaming ext->tj,val_mul->xt
open _root_.Go renaming Calls->ae,Exit->fI,FuncId->ph,Oper->Z4,Operand->oF,Program->ai,TypeId->ZR,Value->Zm,World->Zl,bodyPost_ret->Zx,execOp->Z0,getD_set_ne->zm,rounds_succ->ZY,run_storeVar_mid->yGs,undef->am,wpList_plain->sj,wpOp_mono->xm,wp_block->ay,wp_cond_false->Z2,wp_cond_true->Z6,wp_loop_rounds->yi,wp_seq->Zq
open _root_.Go.Act renaming put->ah
open _root_.Go.Addr renaming mk->yFW
open _root_.Go.Code renaming region->gH
open _root_.Go.Instr renaming box->aj,index->yDK,storeAt->CT,sureAddr->AJ
open _root_.Go.IntKind renaming i64->ZN,wrap_i64->pk
open _root_.Go.Next renaming value->pi
open _root_.Go.Oper renaming upon_enter->un,wp->ao
open _root_.Go.Operand renaming tmp->yEI
open _root_.Go.Region renaming binds->ml,free->DA,free_spec->yFp,noSelect->zh,noSelect_spec->yE6,ready->ZX,wanted->rl
open _root_.Go.Result renaming andThen_ok->lp
open _root_.Go.RowKit.Below renaming heap_setCell->yDn,refl->ZF
open _root_.Go.Sem renaming run_bind->ZK,run_pure->qj
open _root_.Go.Value renaming agg->ZM,int->gM
open _root_.Go.World renaming alloc->pn,block_lt_of_cell?->vj,cell?_alloc_new->oX,cell?_of_block->ZP,cell?_setCell_other->yz,cell?_setCell_same->yDy,frozen?_alloc_new->xn,frozen?_of_block->sI,frozen?_setCell->AT,rangeAt_setCells_apart->su,rangeAt_setCells_same->yj,size_alloc->Zy,there_setCells->ym
open _root_.Int renaming add_zero->yEp,eq_ofNat_of_zero_le->yE5,natCast_ediv->yDH,natCast_emod->yFT,natCast_mul->sg,natCast_pow->xL,natCast_zero->px
open _root_.List renaming append_nil->ug,cons->sw,cons_append->qo,foldl_cons->yEB,foldl_nil->yF5,getElem?_cons_succ->ZQ,getElem?_cons_zero->ZT,getElem?_eq_some_iff->Zz,getElem?_toArray->ZU,getElem_map->uq,map_append->ty,map_cons->uz,map_nil->yEi,mem_append->py,mem_cons->fT,mem_map->Z1,mem_of_getElem?->oE,mem_singleton->ur,nil_append->sy,nodup_append->yD9,not_mem_nil->ZJ,range->fo,setIfInBounds_toArray->Zr,set_cons_succ->Zt,set_cons_zero->Zu
open _root_.Nat renaming Coprime->yEn,add_assoc->tz,add_mod->yn,add_mod_right->yFH,add_mul->xc,add_mul_mod_self_left->yDt,add_zero->qg,div_add_mod->yF2,div_div_eq_div_mul->yCo,div_eq_of_lt->qv,div_le_self->yEu,dvd_of_mod_eq_zero->yCY,dvd_trans->yDZ,eq_zero_of_dvd_of_lt->yDA,gcd->yFG,gcd_dvd_left->yEl,gcd_dvd_right->yEd,le_of_dvd->yC7,le_of_lt->qx,le_refl->Zo,le_succ->yo,le_total->yGo,le_trans->Zw,lt_of_le_of_lt->yDv,lt_of_lt_of_le->Zn,lt_or_ge->tE,mod_eq_of_lt->ZC,mod_eq_zero_of_dvd->yCX,mod_lt->gD,mod_mod->yEF,mod_mod_of_dvd->yD4,mod_mul_mod->yF0,mod_one->yFF,mul_add->te,mul_assoc->uj,mul_comm->ax,mul_le_mul->qm,mul_mod->tn,mul_one->ri,mul_zero->xe,ne_of_lt->qh,one_mul->tF,pow_add->rn,pow_dvd_pow->yFY,pow_le_pow_right->qp,pow_mod->yGv,pow_mul->yDM,pow_one->yDL,pow_pos->rj,pow_succ->oB,pow_zero->rx,sub_zero->wt,two_pow_add_eq_or_of_lt->yDq,zero_add->Zs,zero_mod->yp,zero_mul->DB,zero_pow->yGm
open _root_.Nat.Coprime renaming mul_dvd_of_dvd_of_dvd->yCA
open _root_.Ne renaming symm->xg
open _root_.Option renaming map_eq_some_iff->Zp
open _root_.Or renaming inl->Z5,inr->ZW
open _root_.Prod renaming mk->an
open _root_.UInt8 renaming ofNat->ZG
open Go.Proofs.Tryz
open Go.RowKit Go.Sort Go.Deep
variable {P:Nat}[NeZero P]{N:Nat}
variable {A:Zm}{Q:Nat->Prop}{W W' w w':Zl}{X ks:List Nat}{a:Act}{b e g h i j k n o p r:Nat}{d:Option Tmp}{f:ph}{l:List Z4}{os':List (Tmp × SV)}{rs:List (Nat × List Zm)}{t:Tmp}{tmps:Array Zm}{us us' vs z:List Zm}{y:oF}
section
def Row(W:Zl)(k:I)(vs:G Zm):Prop:=k<W.heap.size/\W.rangeAt k 0 vs/\W.there k 0 vs.length
def Row.below(h:Row W k vs)(c:kZ W W'):Row W' k vs:=by
 have e:=c.block k h.1;refine⟨Zn h.1 c.size,λj v b=>?_,λj b=>?_⟩
 .exact(ZP e).trans (h.2.1 j v b)
 have h1:=h.2.2 j b;exact⟨by rw[ZP e];exact h1.1,(sI e).trans h1.2⟩
def aG{T:ZR}{P:ai}{c:Func}(t:Tmp)(f:c.results=#[.cell t T])(h:Row W k vs)(g:tmps[t]? = J (jZ k))(b:(P.underlying T).map (·.isRow)=J H)(i:(P.info? T).map (·.size)=J vs.length):(results c tmps).run P W=.ok (.agg vs.toArray) W:=by
 let⟨d,b,hd⟩:=Zp.1 b
 have h1:=run_loadVar_mid (P:=P) W k 0 T vs d h.2.1 b hd i;have e:tmps.getD t am=jZ k:=by rw[ZB,g];rfl
 rw[results,f];simp only[R.mapM_eq_mapM_toList,G.mapM_cons,G.mapM_nil,e,asAddr];simp[ZK,h1]
def Row.put(h:Row W k vs)(hl:us.length=vs.length):Row (W.setCells k 0 us) k us:=
 ⟨by rw[setCells_size];exact h.1,yj W k 0 us (by rw[hl];exact h.2.2),by rw[hl];exact ym h.2.2 _ _ _⟩
def Row.other(h:Row W k vs)(b:k≠j):Row (W.setCells j 0 us) k vs:=
 ⟨by rw[setCells_size];exact h.1,su h.2.1 j 0 us (Z5 b),ym h.2.2 _ _ _⟩
def aE{c:G Zm}{T:ZR}:Row (w.alloc (.cells c.toArray T)) w.heap.size c:=
 have h:=Made.alloc w c T
 ⟨h.lt,h.range,h.there⟩
def eR(h:Row W k vs)(hs:W.heap.size<=W'.heap.size)(e:W'.heap[k]? = W.heap[k]?):Row W' k vs:=
 ⟨Zn h.1 hs,λj v b=>by rw[ZP (a:=⟨k,0+j,F⟩) e];exact h.2.1 j v b,λj b=>by rw[ZP (a:=⟨k,0+j,F⟩) e,sI (a:=⟨k,0+j,F⟩) e];exact h.2.2 j b⟩
def aN{k:Zl}{T:ZR}(b:E (w.heap.size=g))(h1:E (w.alloc (.cells z.toArray T)=k)):E (kZ w k/\Row k g z):=by
 rw[<-h1.out,<-b.out];exact⟨aD _,aE⟩
section
variable {Q Q':Nat->Prop}{W W':Zl}
structure Kq(Q:I->Prop)(W W':Zl):Prop where
 size:W.heap.size<=W'.heap.size
 block:∀g,Q g->g<W.heap.size->W'.heap[g]? = W.heap[g]?
def Kq.of_below(k:kZ W W'):Kq Q W W':=⟨k.size,λg _ h=>k.block g h⟩
end
structure Pq where
 p:(I->Prop)->Zl->Prop
 kp:∀Q W W',Kq Q W W'->p Q W->p Q W'
 mo:∀Q Q' W,(∀g,g<W.heap.size->Q g->Q' g)->p Q W->p Q' W
def Nk(rs:G (I × G Zm))(g:I):Prop:=g ∉ rs.map (·.1)
structure Mp(w W:Zl)(rs:G (I × G Zm))(S:G Pq):Prop where
 bl:kZ w W
 rw:∀x∈rs,w.heap.size<=x.1/\Row W x.1 x.2
 nd:(rs.map (·.1)).Nodup
 ob:∀s∈S,s.p (Nk rs) W
namespace Mp
variable {w W W':Zl}{rs rs':List (Nat × List Zm)}{S S':List Pq}{k r i:Nat}{c c':List Zm}
def start(w:Zl):Mp w w [] []:=⟨ZF _ _,λ_ h=>(ZJ h).elim,G.nodup_nil,λ_ h=>(ZJ h).elim⟩
def grow(h:Mp w W rs S)(k:kZ W W'):Mp w W' rs S:=⟨h.bl.trans (k.mono h.bl.size),λx hx=>⟨(h.rw x hx).1,(h.rw x hx).2.below k⟩,h.nd,λs hs=>s.kp _ _ _ (Kq.of_below k) (h.ob s hs)⟩
def drew(h:Mp w W rs S):Mp w W.drew rs S:=h.grow ⟨Z,Z,Z,Zo _,λ_ _=>rfl⟩
def lt(h:Mp w W rs S)(k:g∈rs.map (·.1)):w.heap.size<=g/\g<W.heap.size:=by
 obtain⟨x,hx,rfl⟩:=Z1.1 k;exact⟨(h.rw x hx).1,(h.rw x hx).2.1⟩
def nk(h:Mp w W rs S)(g:I)(k:W.heap.size<=g):Nk rs g:=λe=>oN ((h.lt e).2)
def at_(h:Mp w W rs S)(i:I)(b:rs[i]? = J (k,c):=by rfl):Row W k c:=(h.rw _ (oE b)).2
def key(b:rs[i]? = J (k,c)):k∈rs.map (·.1):=Z1.2 ⟨_,oE b,Z⟩
def get(h:Mp w W rs S)(j:I){s:Pq}(k:S[j]? = J s:=by rfl):s.p (Nk rs) W:=h.ob _ (oE k)
def has(h:Mp w W rs S)(s:Pq)(hs:s.p (Nk rs) W)(e:S++[s]=S':=by(simp only[qo,sy])<;>rfl):Mp w W rs S':=e ▸ ⟨h.bl,h.rw,h.nd,λx hx=>by
 rcases py.1 hx with hx|hx
 .exact h.ob x hx
 rw[ur.1 hx];exact hs⟩
def gets(h:Mp w W rs S)(b:kZ W W')(s:Pq)(hs:s.p (W.heap.size<=·) W')(e:S++[s]=S':=by(simp only[qo,sy])<;>rfl):Mp w W' rs S':=(h.grow b).has s (s.mo _ _ _ (λg _ k=>h.nk g k) hs) e
def q(_:Mp w W rs S):∃Q,E (Nk rs=Q):=⟨_,Z⟩
def xQ(h:Mp w W rs S)(b:E (Nk rs=Q))(j:I){s:Pq}(k:S[j]? = J s:=by rfl):s.p Q W:=b.out▸h.get j k
def nkq(h:Mp w W rs S)(b:E (Nk rs=Q))(g:I)(k:W.heap.size<=g):Q g:=b.out▸h.nk g k
def QE(h:Mp w W rs S)(k:E (Nk rs=Q))(s:Pq)(hs:s.p Q W)(e:S++[s]=S':=by(simp only[qo,sy])<;>rfl):Mp w W rs S':=h.has s (k.out▸hs) e
def ne(_:Mp w W rs S)(d:E (Nk rs=Q))(i:I)(f:rs[i]? = J (k,c):=by rfl)(g:I)(b:Q g):g≠k:=λe=>by
 rw[<-d.out]at b;exact b (by rw[e];exact Z1.2 ⟨_,oE f,Z⟩)
def add(h:Mp w W rs S)(i:kZ W W')(m:Row W' k c)(j:W.heap.size<=k)(e:rs++[(k,c)]=rs':=by(simp only[qo,sy])<;>rfl):Mp w W' rs' S:=by
 subst e;have f:=h.grow i;refine⟨f.bl,λx hx=>?_,?_,λs hs=>?_⟩
 .rcases py.1 hx with hx|hx
  .exact f.rw x hx
  rw[ur.1 hx];exact⟨Zw h.bl.size j,m⟩
 .rw[ty,yD9];refine⟨h.nd,by simp,λa l b d e=>?_⟩;have h1:=(h.lt l).2;simp at d;omega
 refine s.kp _ _ _ (Kq.of_below i) (s.mo _ _ _ (λg l d e=>?_) (h.ob s hs));rw[ty,py]at e;rcases e with e|e
 .exact d e
 simp at e;omega
def adds(h:Mp w W rs S)(f:kZ W W')(ns:G (I × G Zm))(c:(ns.map (·.1)).Nodup)(k:∀x∈ns,W.heap.size<=x.1/\Row W' x.1 x.2)(e:rs++ns=rs':=by(simp only[qo,sy])<;>rfl):Mp w W' rs' S:=by
 subst e;have l:=h.grow f;have j:∀g,g∈ns.map (·.1)->W.heap.size<=g:=λg i=>by
  obtain⟨x,hx,rfl⟩:=Z1.1 i;exact(k x hx).1
 refine⟨l.bl,λx hx=>?_,?_,λs hs=>?_⟩
 .rcases py.1 hx with hx|hx
  .exact l.rw x hx
  exact⟨Zw h.bl.size (k x hx).1,(k x hx).2⟩
 .rw[ty,yD9];refine⟨h.nd,c,λa m b d e=>?_⟩;have h1:=(h.lt m).2;have n:=j b d;omega
 refine s.kp _ _ _ (Kq.of_below f) (s.mo _ _ _ (λg i c e=>?_) (h.ob s hs));rw[ty,py]at e;rcases e with e|e
 .exact c e
 have:=j g e;omega
def new{T:ZR}(h:Mp w W rs S)(b:E (W.heap.size=k))(d:E (W.alloc (.cells c.toArray T)=W'))(e:rs++[(k,c)]=rs':=by(simp only[qo,sy])<;>rfl):Mp w W' rs' S:=by
 have f:=aN b d;exact h.add f.1 f.2 (I.le_of_eq b) e
def keys(b:rs[i]? = J (k,c)):(rs.set i (k,c')).map (·.1)=rs.map (·.1):=by
 rw[G.map_set];refine G.ext_getElem? λj=>?_
 rw[G.getElem?_set];split
 .rename_i e
  subst e;rw[GD (by simpa using((Zz.1 b).1)),G.getElem?_map,b];rfl
 rfl
def Wi(b:rs[i]? = J (k,c)):Nk (rs.set i (k,c'))=Nk rs:=funext λg=>by unfold Nk;rw[keys b]
def turn(h:Mp w W rs S)(d:rs[i]? = J (k,c))(y:kZ w W')(hs:W.heap.size<=W'.heap.size)(ho:∀g,g≠k->g<W.heap.size->W'.heap[g]? = W.heap[g]?)(z:Row W' k c'):Mp w W' (rs.set i (k,c')) S:=by
 refine⟨y,λx hx=>?_,by rw[keys d];exact h.nd,λs m=>?_⟩
 .have v:=hx;let⟨j,o,e⟩:=G.mem_iff_getElem.1 hx
  rw[G.length_set]at o;rw[G.getElem_set]at e;by_cases b:i=j
  .rw[GD b]at e;rw[<-e];exact⟨(h.lt (key d)).1,z⟩
  rw[Id b]at e;have hh:=h.rw _ (G.getElem_mem o);rw[<-e];have l:rs[j].1≠k:=λe'=>by
   have hl:=(Zz.1 d)
   let⟨p,n⟩:=hl
   have r:=G.pairwise_iff_getElem.1 h.nd;have t:(rs.map (·.1))[i]'(by simpa using p)=k:=by rw[uq,n]
   have q:(rs.map (·.1))[j]'(by simpa using o)=k:=by rw[uq];exact e'
   rcases tE i j with f|u
   .exact r i j _ _ f (t.trans q.symm)
   exact r j i _ _ oM (q.trans t.symm)
  exact⟨hh.1,eR hh.2 hs (ho _ l hh.2.1)⟩
 rw[Wi d];exact s.kp _ _ _ ⟨hs,λg b hl=>ho g (λe=>b (by rw[e];exact key d)) hl⟩ (h.ob s m)
def upd(h:Mp w W rs S)(i:I)(b:E (W.setCells k o us=W'))(d:Row (W.setCells k o us) k c')(f:rs[i]? = J (k,c):=by rfl)(e:rs.set i (k,c')=rs':=by(simp only[Zt,Zu])<;>rfl):Mp w W' rs' S:=by
 subst e;rw[b.out]at d;refine h.turn f ?_ ?_ (λg j _=>?_) d
 .rw[<-b.out];exact RG.below_setCells (h.lt (key f)).1 _ _ _ h.bl
 .rw[<-b.out,setCells_size];exact Zo _
 rw[<-b.out];exact aM us o W g j
def put(h:Mp w W rs S)(i:I)(d:E (W.setCells k 0 c'=W'))(b:rs[i]? = J (k,c):=by rfl)(hl:c'.length=c.length:=by rfl)(e:rs.set i (k,c')=rs':=by(simp only[Zt,Zu])<;>rfl):Mp w W' rs' S:=h.upd i d ((h.at_ i b).put hl) b e
def th(h:Mp w W rs S)(i:I)(b:rs[i]? = J (k,c):=by rfl)(hl:c'.length=c.length:=by rfl):W.there k 0 c'.length:=by rw[hl];exact(h.at_ i b).2.2
end Mp
def Mp.pop{x:I × G Zm}(h:Mp w W (rs++[x]) []):Mp w W rs []:=⟨h.bl,λy k=>h.rw y (G.mem_append_left _ k),(by have:=h.nd;rw[ty]at this;exact(yD9.1 this).1),λ_ h=>(ZJ h).elim⟩
def wn(n:I):G Zm:=[U ((n%18446744073709551616:I):Y),U ((n/18446744073709551616%18446744073709551616:I):Y),U ((n/340282366920938463463374607431768211456%18446744073709551616:I):Y),U ((n/6277101735386680763835789423207666416102355444464034512896%18446744073709551616:I):Y)]
def nv(n:I):Zm:=.agg (wn n).toArray
def fN(h:n<top):GS (nv n) n:=by
 refine⟨n%18446744073709551616,n/18446744073709551616%18446744073709551616,n/340282366920938463463374607431768211456%18446744073709551616,n/6277101735386680763835789423207666416102355444464034512896%18446744073709551616,Z,?_,?_,?_,?_,?_⟩
 .omega
 .omega
 .omega
 .omega
 unfold val;unfold top at h;omega
def Four.nv{v:Zm}(h:GS v n):v=Go.Proofs.YtndpeoebngkhmaaGreat.nv n:=h.inj (fN h.lt)
def aK:(wn n).toArray.all (·.oneCell')=H:=kR
def hG{α:Sort _}{p:Prop}(x:α)(h:∀y,E (x=y)->p):p:=h x Z
section
variable {P:ai}{ops:Array Z4}{rest:List Z4}{op:Z4}{a a':Act}{w w':Zl}{Q:fI->Act->Zl->Prop}{d:Option Tmp}{x v:Zm}{t:Tmp}{T:ZR}{b off:Nat}{cs:List Zm}
def PW.begin{id:I}(h:wpList P l.toArray Q l a w):(gH id l.toArray false).wp P Q a w:=wp_region_list h
def PW.dn(h:Q .normal a w):wpList P ops Q [] a w:=h
def PW.va(x:Zm)(h:wpList P ops Q rest a' w)(hd:op.dst=d:=by rfl)(c:op.guard=F:=by rfl)(hv:(Z0 a.eval op).run P w=.ok (.value x) w:=by kernel_rfl)(k:a.put d x=a':=by(simp only[ah,Zr,Zt,Zu])<;>rfl):wpList P ops Q (op :: rest) a w:=by
 subst k hd;exact sj c λK b=>by
  rw[ao,hv];exact b _ _ h
def PW.ns{I:Sem Zm}(hx:I.run P w=.ok x w')(h:wpList P ops Q rest a' w')(hd:op.dst=d:=by rfl)(e:op.guard=F:=by rfl)(k:Z0 a.eval op=I >>= λv=>pure (pi v):=by kernel_rfl)(b:a.put d x=a':=by(simp only[ah,Zr,Zt,Zu])<;>rfl):wpList P ops Q (op :: rest) a w:=by
 subst b hd;exact sj e λK c=>by
  rw[ao,k,ZK,hx];exact c _ _ h
def PW.ca{args:Array Zm}{R:Zm->Zl->Prop}{F:Zm->Act}(c:ae P f args w (Ret R))(h:∀e w',R e w'->wpList P ops Q rest (F e) w')(hd:op.dst=d:=by rfl)(k:op.guard=none:=by rfl)(hx:(Z0 a.eval op).run P w=.ok (.enter f args) w:=by kernel_rfl)(hf:∀e,a.put d e=F e:=by intro _;(simp only[ah,Zr,Zt,Zu])<;>rfl):wpList P ops Q (op :: rest) a w:=by
 subst hd;exact sj k λK b=>by
  rw[ao,hx,un];refine c.mono ?_;rintro e w' ⟨v,rfl,hR⟩;exact b _ _ (hf v ▸ h v w' hR)
def PW.gi{args:Array Zm}(c:ae P f args w (rZ w λe w'=>e=x))(h:∀w',kZ w w'->wpList P ops Q rest a' w')(hd:op.dst=d:=by rfl)(b:op.guard=none:=by rfl)(hx:(Z0 a.eval op).run P w=.ok (.enter f args) w:=by kernel_rfl)(k:a.put d x=a':=by(simp only[ah,Zr,Zt,Zu])<;>rfl):wpList P ops Q (op :: rest) a w:=
 PW.ca (F:=λe=>a.put d e) c (λe w' hR=>by
  obtain⟨h1,rfl⟩:=hR;subst k;exact h w' h1) hd b hx λ_=>rfl
def PW.al{b:Obj}(j:Hid (w.heap.size=g))(c:Hid (w.alloc b=w'))(h:wpList P ops Q rest a' w')(hd:op.dst=d:=by rfl)(k:op.guard=F:=by rfl)(f:(Z0 a.eval op).run P w=.ok (.value (jZ w.heap.size)) (w.alloc b):=by kernel_rfl)(e:a.put d (jZ g)=a':=by(simp only[ah,Zr,Zt,Zu])<;>rfl):wpList P ops Q (op :: rest) a w:=by
 subst e hd;exact sj k λK i=>by
  rw[ao,f,j.out,c.out];exact i _ _ h
def PW.st(c:Hid (w.setCells b off cs=w'))(hv:Hid (.agg cs.toArray=v))(th:w.there b off cs.length)(f:(P.info? T).map (·.size)=J cs.length)(h1:cs.toArray.all (·.oneCell')=H)(h:wpList P ops Q rest a' w')(hd:op.dst=F:=by rfl)(k:op.guard=F:=by rfl)(ho:op.op=.store T (.tmp t) y:=by rfl)(hx:a.eval (.tmp t)=oZ b off:=by rfl)(d:a.eval y=v:=by rfl)(e:a.put F am=a':=by(simp only[ah])<;>rfl):wpList P ops Q (op :: rest) a w:=
 wpList_store_mid k T (.tmp t) y ho b off cs.toArray hx (d.trans hv.symm) th f h1 (by rw[show cs.toArray.toList=cs from Z,c.out,hd,e];exact h)
def PW.ro(f:w.rangeAt b off cs)(hv:Hid (.agg cs.toArray=v))(g:(P.underlying T).map (·.isRow)=J H)(i:(P.info? T).map (·.size)=J cs.length)(h:wpList P ops Q rest a' w)(hd:op.dst=d:=by rfl)(k:op.guard=F:=by rfl)(ho:op.op=.load T (.tmp t):=by rfl)(hx:a.eval (.tmp t)=oZ b off:=by rfl)(c:a.put d v=a':=by(simp only[ah,Zr,Zt,Zu])<;>rfl):wpList P ops Q (op :: rest) a w:=by
 let⟨j,h1,e⟩:=Zp.1 g
 exact wpList_load_mid k T (.tmp t) ho b off hx cs j f h1 e i (by rw[hv.out,hd,c];exact h)
def PW.ce(f:w.cell? ⟨b,off,F⟩=J x)(e:(P.underlying T).map (·.isRow)=J false)(h:wpList P ops Q rest a' w)(hd:op.dst=d:=by rfl)(k:op.guard=F:=by rfl)(ho:op.op=.load T (.tmp t):=by rfl)(hx:a.eval (.tmp t)=oZ b off:=by rfl)(c:a.put d x=a':=by(simp only[ah,Zr,Zt,Zu])<;>rfl):wpList P ops Q (op :: rest) a w:=
 PW.va x h hd k (by
  rw[Z0,ho];dsimp only;rw[hx,ZK,jD f e];rfl) c
def PW.au(op:Z4)(a:Act):GJ Zm:=match op.guard,op.op with
 | none,.move (.tmp t)=>J (a.eval (.tmp t))
 | _,_=>F
def PW.fr:G Z4->Act->G Zm->Act × G Z4
 | [],a,_=>(a,[])
 | op :: l,a,vs=>match PW.au op a,vs with
  | some v,_=>PW.fr l (a.put op.dst v) vs
  | none,[]=>(a,op :: l)
  | none,v :: vs=>PW.fr l (a.put op.dst v) vs
def PW.ck(P:ai)(w:Zl)(b:Hc):G Z4->Act->G Zm->G (GJ (I × Hc) × Result Next)
 | [],_,_=>[]
 | op :: l,a,vs=>match PW.au op a,vs with
  | some v,_=>(if b then(op.guard,(Z0 a.eval op).run P w) else(F,.ok (.value v) w)) :: PW.ck P w b l (a.put op.dst v) vs
  | none,[]=>[]
  | none,v :: vs=>(if b then(op.guard,(Z0 a.eval op).run P w) else(F,.ok (.value v) w)) :: PW.ck P w b l (a.put op.dst v) vs
def PW.go1:∀(l:G Z4) (a:Act) (vs:G Zm),PW.ck P w H l a vs=PW.ck P w false l a vs->wpList P ops Q (PW.fr l a vs).2 (PW.fr l a vs).1 w->wpList P ops Q l a w
 | [],_,_,_,h=>h
 | op :: l,a,vs,k,h=>by
  unfold PW.ck at k;unfold PW.fr at h;revert k h;cases PW.au op a with
  | some v =>
   intro k h;simp only[sw.injEq,if_true,yFs,if_false,an.injEq]at k;exact PW.va v (PW.go1 l _ vs k.2 h) Z k.1.1 k.1.2 Z
  | none =>
   cases vs with
   | nil=>exact λ_ h=>h
   | cons v vs =>
    intro k h;simp only[sw.injEq,if_true,yFs,if_false,an.injEq]at k;exact PW.va v (PW.go1 l _ vs k.2 h) Z k.1.1 k.1.2 Z
def PW.f3(h:PW.fr l a vs=(a',rest):=by(simp only[PW.fr,PW.au,Act.eval,ah,Zr,Zt,Zu,ZB,ZU,ZQ,ZT,Option.getD_some])<;>rfl):PW.fr l a vs=(a',rest):=h
variable {l:List Z4}{id:Nat}{c:Code}(vs:List Zm)
def PW.go(h:wpList P ops Q rest a' w)(k:PW.ck P w H l a vs=PW.ck P w false l a vs:=by kernel_rfl)(b:PW.fr l a vs=(a',rest):=by exact PW.f3):wpList P ops Q l a w:=PW.go1 l a vs k (by rw[b];exact h)
def PW.en(h:Q .normal a' w)(k:PW.ck P w H l a vs=PW.ck P w false l a vs:=by kernel_rfl)(b:PW.fr l a vs=(a',[]):=by exact PW.f3):wpList P ops Q l a w:=PW.go vs (PW.dn h) k b
def PW.bb(h:wpList P l.toArray Q rest a' w)(k:PW.ck P w H l a vs=PW.ck P w false l a vs:=by kernel_rfl)(b:PW.fr l a vs=(a',rest):=by exact PW.f3):(gH id l.toArray false).wp P Q a w:=PW.begin (PW.go vs h k b)
def PW.bg(h:wpList P l.toArray (Exit.then (c.wp P Q) Q) rest a' w)(k:PW.ck P w H l a vs=PW.ck P w false l a vs:=by kernel_rfl)(b:PW.fr l a vs=(a',rest):=by exact PW.f3):((gH id l.toArray false).seq c).wp P Q a w:=Zq (PW.bb vs h k b)
def PW.rg(h:c.wp P Q a' w)(k:PW.ck P w H l a vs=PW.ck P w false l a vs:=by kernel_rfl)(b:PW.fr l a vs=(a',[]):=by exact PW.f3):((gH id l.toArray false).seq c).wp P Q a w:=PW.bg vs (PW.dn h) k b
end
end
section
open Go
section
variable {P:ai}{ops:Array Z4}{Q:fI->Act->Zl->Prop}{S:Zl->Prop}{p:Nat}
def anyTill(P:ai)(k:R Z4)(Q:fI->Act->Zl->Prop)(S:Zl->Prop)(p:I):I->R Hc->Act->Zl->Prop
 | 0,listed,a,w=>ZX .any k listed=[]/\Q .normal a w
 | fuel+1,listed,a,w=>(ZX .any k listed=[]->Q .normal a w) /\
  ∀i∈ZX .any k listed,wpOp P k Q i (λb w'=>((listed.setIfInBounds i H).getD p D=D->S w')/\anyTill P k Q S p fuel (listed.setIfInBounds i H) b w') a w
def anyTill.any:∀(k:I) (b:Array Hc) (a:Act) (w:Zl),anyTill P ops Q S p k b a w->wpAny P .any ops Q k b a w
 | 0,_,_,_,h=>h
 | k+1,_,_,_,h=>⟨h.1,λi e=>xm (λd w' c=>anyTill.any k _ d w' c.2) (h.2 i e)⟩
def anyTill.first{t op:Z4}{v:Zm}(hi:ops[i]? = J t)(hp:ops[p]? = J op)(V:∃e∈op.after,ml .any e=true/\e.on=i)(O:p≠i)
 (r:∀(j:I) (o:Z4) cs b,ops[j]? = J o->o.op≠.select cs b) (hQ:∀c a w,Q (.panic c) (a.put t.dst v) w->Q (.panic c) a w) :
 ∀(g:I) (d:Array Hc) (a:Act) (w:Zl),d.getD p false=false ->
  (∀j s,ops[j]? = J s->j≠i->d.getD j true=false->(∀e∈s.after,ml .any e=true->e.on≠i)->t.apart ops s=true) ->
  i∈ZX .any ops d->YieldsIf P ops S t v a->S w ->
  anyTill P ops Q S p g (d.setIfInBounds i true) (a.put t.dst v) w->anyTill P ops Q S p (g+1) d a w:=by
 intro g;induction g with
 | zero =>
  intro d a w _ _ y L K H;refine⟨λh=>absurd y (by rw[h];exact ZJ),λj M=>?_⟩;by_cases f:j=i
  .subst f;exact L.wpOp hi K ⟨λ_=>K,H⟩
  exact absurd (ready_mono M f) (by rw[H.1];exact ZJ)
 | succ g ih =>
  intro d a w hl m y L K H;refine⟨λh=>absurd y (by rw[h];exact ZJ),λj M=>?_⟩;by_cases f:j=i
  .subst f;exact L.wpOp hi K ⟨λ_=>K,H⟩
  let⟨n,s,l,C⟩:=mem_ready.1 M
  have q:∀e∈s.after,ml .any e=true->e.on≠i:=λe he W X=>by
   have h1:=C e he W;have x:=(mem_ready.1 y).1;rw[X]at h1;rcases tE i d.size with u|u
   .simp[u]at x h1;rw[x]at h1;cases h1
   simp[AF u]at h1
  have z:j≠p:=by
   intro h;subst h;rw[hp]at l;let⟨e,he,W,u⟩:=V
   injection l with l
   subst l;exact q e he W u
  have h2:(d.setIfInBounds j true).getD p false=false:=by rw[zm false z];exact hl
  refine xm (λa' w' h3=>?_) (wpOp_putIf l (m j s l f n q) (λcs b=>r i t cs b hi) (λcs b=>r j s cs b l) hQ L (H.2 j (ready_mono M f)));have x:=h3.2.1 (by rw[zm false z,zm false (xg O)];exact hl);refine⟨λ_=>x,ih (d.setIfInBounds j true) a' w' h2 (λk ok hk T A N=>?_) (ready_mono y (xg f)) h3.1 x ?_⟩
  .refine m k ok hk T ?_ N;by_cases u:j=k
   .subst u;exact n
   rw[zm true u]at A;exact A
  rw[yDz _ _ f];exact h3.2.2
def waits(k:R Z4)(p i:I):Hc:=match k[p]? with
 | some o=>o.after.any (λe=>ml .any e && e.on == i)
 | none=>D
def anyTill.take{f:Z4}{v:Zm}{k:Array Hc}(j:ops[i]? = J f)(d:waits ops p i=H)(hs:zh ops=H)
 (hl:(k.getD p false || p == i)=false) (hf:DA .any ops k i=H) (n:(ZX .any ops k).contains i=H)
 (l:∀c a w,Q (.panic c) (a.put f.dst v) w->Q (.panic c) a w) (m:YieldsIf P ops S f v a) (q:S w)
 (h:anyTill P ops Q S p b (k.setIfInBounds i H) (a.put f.dst v) w):anyTill P ops Q S p (b+1) k a w:=by
 rw[yDT]at hl;unfold waits at d;cases ho:ops[p]? with
 | none=>rw[ho]at d;cases d
 | some op =>
  rw[ho]at d;let⟨e,o,g⟩:=yt.1 d
  simp only[ZD,beq_iff_eq]at g;exact anyTill.first j ho ⟨e,o,g.1,g.2⟩ (by simpa using hl.2) (yE6 hs) l b k a w hl.1 (yFp j hf) (by simpa using n) m q h
def anyTill.tk{d:Z4}{v:Zm}{k:Array Hc}(l:ops[i]? = J d)(g:YieldsIf P ops S d v a)(m:S w)
 (h:anyTill P ops Q S p b (k.setIfInBounds i H) (a.put d.dst v) w) (f:waits ops p i=H:=by kernel_rfl) (hs:zh ops=H:=by kernel_rfl)
 (hl:(k.getD p false || p == i)=false:=by kernel_rfl) (hf:DA .any ops k i=H:=by kernel_rfl) (j:(ZX .any ops k).contains i=H:=by kernel_rfl)
 (e:∀c a w,Q (.panic c) (a.put d.dst v) w->Q (.panic c) a w:=by exact λ_ _ _ h=>h):anyTill P ops Q S p (b+1) k a w:=anyTill.take l f hs hl hf j e g m h
def anyTill.tq(i:I){d:Z4}{v:Zm}{k:Array Hc}(n:S w)(h:anyTill P ops Q S p b (k.setIfInBounds i H) (a.put d.dst v) w)(m:ops[i]? = J d:=by rfl)(j:YieldsIf P ops S d v a:=by(refine Z5 ⟨by rfl,?_⟩;intro w e;(try dsimp only at e);go_simp;try(with_reducible rfl)))
 (g:waits ops p i=H:=by kernel_rfl) (hs:zh ops=H:=by kernel_rfl)
 (hl:(k.getD p false || p == i)=false:=by kernel_rfl) (hf:DA .any ops k i=H:=by kernel_rfl) (l:(ZX .any ops k).contains i=H:=by kernel_rfl)
 (f:∀c a w,Q (.panic c) (a.put d.dst v) w->Q (.panic c) a w:=by exact λ_ _ _ h=>h):anyTill P ops Q S p (b+1) k a w:=anyTill.tk m j n h g hs hl hf l f
def anyTill.step{o:Z4}{k:Array Hc}(ho:ops[i]? = J o)(e:ZX .any ops k=[i])
 (h:∀c:Act->Zl->Prop,Shut (∀a w,((k.setIfInBounds i H).getD p false=false->S w)->anyTill P ops Q S p b (k.setIfInBounds i H) a w->c a w) ->
  if rl o (yielded ops a.tmps)=H then ao P o a w c Q else c (a.put o.dst am) w):anyTill P ops Q S p (b+1) k a w:=by
 refine⟨λf=>(by rw[e]at f;cases f),λj d=>?_⟩;rw[e,ur]at d;subst d;exact wpOp_step ho (λc m=>h c (λa w l g=>m a w ⟨l,g⟩))
def anyTill.done{k:Array Hc}(c:ZX .any ops k=[])(h:Q .normal a w):∀b,anyTill P ops Q S p b k a w
 | 0=>⟨c,h⟩
 | _+1=>⟨λ_=>h,by rw[c];intro i d;cases d⟩
def anyTill.begin{id:I}(S:Zl->Prop)(p:I)(k:P.follows .mixedOrders=H)(b:S w.drew)
 (h:S w.drew->anyTill P ops Q S p ops.size (ZA ops.size false) a w.drew):(gH id ops H).wp P Q a w:=
 wp_region_any k ((h b).any)
end
end
section
section
variable {P:ai}{ops:Array Z4}{Q:fI->Act->Zl->Prop}{S:Array Bool->Zl->Prop}
def bI{t:R Zm}{o:Z4}(k:o.guard=F):rl o (yielded ops t)=H:=by
 rw[rl,k]
def anyS(P:ai)(k:R Z4)(Q:fI->Act->Zl->Prop)(S:R Hc->Zl->Prop):I->R Hc->Act->Zl->Prop
 | 0,listed,a,w=>ZX .any k listed=[]/\Q .normal a w
 | fuel+1,listed,a,w=>(ZX .any k listed=[]->Q .normal a w) /\
  ∀i∈ZX .any k listed,wpOp P k Q i (λb w'=>S (listed.setIfInBounds i H) w'/\anyS P k Q S fuel (listed.setIfInBounds i H) b w') a w
def anyS.any:∀(k:I) (b:Array Hc) (a:Act) (w:Zl),anyS P ops Q S k b a w->wpAny P .any ops Q k b a w
 | 0,_,_,_,h=>h
 | k+1,_,_,_,h=>⟨h.1,λi e=>xm (λd w' c=>anyS.any k _ d w' c.2) (h.2 i e)⟩
def Bef(S:R Hc->Zl->Prop)(p:I)(w:Zl):Prop:=∃l:R Hc,l.getD p D=D/\S l w
def anyS.first{y op:Z4}{v:Zm}(hi:ops[i]? = J y)(hp:ops[p]? = J op)(h2:∃e∈op.after,ml .any e=true/\e.on=i)(W:p≠i)(T:∀l w,S (yCC l i true) w->S l w)
 (s:∀(j:I) (o:Z4) cs b,ops[j]? = J o->o.op≠.select cs b) (hQ:∀c a w,Q (.panic c) (a.put y.dst v) w->Q (.panic c) a w) :
 ∀(g:I) (d:Array Hc) (a:Act) (w:Zl),d.getD p false=false ->
  (∀j x,ops[j]? = J x->j≠i->d.getD j true=false->(∀e∈x.after,ml .any e=true->e.on≠i)->y.apart ops x=true) ->
  i∈ZX .any ops d->YieldsIf P ops (Bef S p) y v a->Bef S p w->S (d.setIfInBounds i true) w ->
  anyS P ops Q S g (d.setIfInBounds i true) (a.put y.dst v) w->anyS P ops Q S (g+1) d a w:=by
 intro g;induction g with
 | zero =>
  intro d a w _ _ A M hS t H;refine⟨λh=>absurd A (by rw[h];exact ZJ),λj O=>?_⟩;by_cases f:j=i
  .subst f;exact M.wpOp hi hS ⟨t,H⟩
  exact absurd (ready_mono O f) (by rw[H.1];exact ZJ)
 | succ g ih =>
  intro d a w hl n A M hS t H;refine⟨λh=>absurd A (by rw[h];exact ZJ),λj O=>?_⟩;by_cases f:j=i
  .subst f;exact M.wpOp hi hS ⟨t,H⟩
  let⟨q,x,m,L⟩:=mem_ready.1 O
  have r:∀e∈x.after,ml .any e=true->e.on≠i:=λe he hb h4=>by
   have h1:=L e he hb;have z:=(mem_ready.1 A).1;rw[h4]at h1;rcases tE i d.size with u|u
   .simp[u]at z h1;rw[z]at h1;cases h1
   simp[AF u]at h1
  have C:j≠p:=by
   intro h;subst h;rw[hp]at m;let⟨e,he,hb,u⟩:=h2
   injection m with m
   subst m;exact r e he hb u
  have h6:(d.setIfInBounds j true).getD p false=false:=by rw[zm false C];exact hl
  refine xm (λa' w' N=>?_) (wpOp_putIf m (n j x m f q r) (λcs b=>s i y cs b hi) (λcs b=>s j x cs b m) hQ M (H.2 j (ready_mono O f)));have e2:(d.setIfInBounds i true).setIfInBounds j true=(d.setIfInBounds j true).setIfInBounds i true:=(yDz _ _ (xg f))
  have u:=N.2.1;rw[e2]at u;have h5:Bef S p w':=⟨_,by rw[zm false C,zm false (xg W)];exact hl,N.2.1⟩
  refine⟨T _ _ u,ih (d.setIfInBounds j true) a' w' h6 (λk ok hk X K V=>?_) (ready_mono A (xg f)) N.1 h5 u ?_⟩
  .refine n k ok hk X ?_ V;by_cases z:j=k
   .subst z;exact q
   rw[zm true z]at K;exact K
  rw[<-e2];exact N.2.2
def anyS.take{f:Z4}{v:Zm}{k:Array Hc}(n:ops[i]? = J f)(g:∀l w,S (yCC l i H) w->S l w)(q:YieldsIf P ops (Bef S p) f v a)(t:Bef S p w)(m:S (k.setIfInBounds i H) w)
 (h:anyS P ops Q S b (k.setIfInBounds i H) (a.put f.dst v) w) (d:waits ops p i=H:=by kernel_rfl) (hs:zh ops=H:=by kernel_rfl)
 (hl:(k.getD p false || p == i)=false:=by kernel_rfl) (hf:DA .any ops k i=H:=by kernel_rfl) (r:(ZX .any ops k).contains i=H:=by kernel_rfl)
 (o:∀c a w,Q (.panic c) (a.put f.dst v) w->Q (.panic c) a w:=by exact λ_ _ _ h=>h):anyS P ops Q S (b+1) k a w:=by
 rw[yDT]at hl;unfold waits at d;cases ho:ops[p]? with
 | none=>rw[ho]at d;cases d
 | some op =>
  rw[ho]at d;let⟨e,s,j⟩:=yt.1 d
  simp only[ZD,beq_iff_eq]at j;exact anyS.first n ho ⟨e,s,j.1,j.2⟩ (by simpa using hl.2) g (yE6 hs) o b k a w hl.1 (yFp n hf) (by simpa using r) q t m h
def anyS.step{o:Z4}{k:Array Hc}(ho:ops[i]? = J o)(e:ZX .any ops k=[i])
 (h:∀c:Act->Zl->Prop,Shut (∀a w,S (k.setIfInBounds i H) w->anyS P ops Q S b (k.setIfInBounds i H) a w->c a w) ->
  if rl o (yielded ops a.tmps)=H then ao P o a w c Q else c (a.put o.dst am) w):anyS P ops Q S (b+1) k a w:=by
 refine⟨λf=>(by rw[e]at f;cases f),λj d=>?_⟩;rw[e,ur]at d;subst d;exact wpOp_step ho (λc m=>h c (λa w l g=>m a w ⟨l,g⟩))
def anyS.done{k:Array Hc}(c:ZX .any ops k=[])(h:Q .normal a w):∀b,anyS P ops Q S b k a w
 | 0=>⟨c,h⟩
 | _+1=>⟨λ_=>h,by rw[c];intro i d;cases d⟩
def anyS.begin{id:I}(S:Array Hc->Zl->Prop)(k:P.follows .mixedOrders=H)(h:anyS P ops Q S ops.size (ZA ops.size false) a w.drew):(gH id ops H).wp P Q a w:=
 wp_region_any k (anyS.any _ _ _ _ h)
section
variable {i p fuel:Nat}{o:Z4}{listed:Array Bool}{a:Act}{w w':Zl}{v:Zm}
def anyS.ins{I:Sem Zm}(ho:ops[i]? = J o)(hx:I.run P w=.ok v w')(b:S (listed.setIfInBounds i H) w')(h:anyS P ops Q S fuel (listed.setIfInBounds i H) (a.put d v) w')
 (c:ZX .any ops listed=[i]:=by kernel_rfl) (f:o.guard=F:=by rfl) (k:Z0 a.eval o=I >>= λv=>pure (pi v):=by kernel_rfl) (hd:o.dst=d:=by kernel_rfl):anyS P ops Q S (fuel+1) listed a w:=by
 subst hd;exact anyS.step ho c λK e=>by
  rw[GD (bI f)];rw[ao,k,ZK,hx];exact e _ _ b h
def anyS.cal{args:Array Zm}{R:Zm->Zl->Prop}(ho:ops[i]? = J o)(g:ae P f args w (Ret R))(h:∀v w',R v w'->S (listed.setIfInBounds i H) w'/\anyS P ops Q S fuel (listed.setIfInBounds i H) (a.put d v) w')
 (k:ZX .any ops listed=[i]:=by kernel_rfl) (c:o.guard=F:=by rfl) (hx:(Z0 a.eval o).run P w=.ok (.enter f args) w:=by kernel_rfl) (hd:o.dst=d:=by kernel_rfl):anyS P ops Q S (fuel+1) listed a w:=by
 subst hd;exact anyS.step ho k λK b=>by
  rw[GD (bI c)];rw[ao,hx,un];refine g.mono ?_;rintro e w' ⟨v,rfl,hR⟩;exact b _ _ (h v w' hR).1 (h v w' hR).2
def anyS.sto(ho:ops[i]? = J o)(k:ZR)(x y:oF)(c:o.op=.store k x y)(b off:I)(u:Zm)(hv:u.cells=#[u])(h1:u.oneCell'=H)(g:w.there b off 1)(n:(P.info? k).map (·.size)=J 1)
 (p:S (listed.setIfInBounds i H) (w.setCells b off [u])) (h:anyS P ops Q S fuel (listed.setIfInBounds i H) (a.put d am) (w.setCells b off [u])) (hx:a.eval x=oZ b off:=by kernel_rfl) (m:a.eval y=u:=by kernel_rfl)
 (f:ZX .any ops listed=[i]:=by kernel_rfl) (j:o.guard=F:=by rfl) (hd:o.dst=d:=by kernel_rfl):anyS P ops Q S (fuel+1) listed a w:=by
 subst hd;exact anyS.step ho f λK l=>by
  rw[GD (bI j)];have f:=yGs (P:=P) w b off k #[u] g n (by simp[h1]);have e:storeVar k ⟨b,off,F⟩ u=storeVar k ⟨b,off,F⟩ (.agg #[u]):=by
   rw[storeVar,hv];rfl
  unfold ao Z0;simp only[c,hx,m,CT,AJ,ZK,qj,lp,e,f];exact l _ _ p h
def anyS.cel{x:Zm}(ho:ops[i]? = J o)(p:I)(k:∀l w,S (yCC l i H) w->S l w)(T:ZR)(t:Tmp)(b off:I)(e:o.op=.load T (.tmp t))(r:(P.underlying T).map (·.isRow)=J false)(u:∀w,Bef S p w->w.cell? ⟨b,off,F⟩=J x)(s:Bef S p w)(f:S (listed.setIfInBounds i H) w)
 (h:anyS P ops Q S fuel (listed.setIfInBounds i H) (a.put d x) w) (hx:a.eval (.tmp t)=oZ b off:=by kernel_rfl) (j:o.guard=F:=by rfl) (n:waits ops p i=H:=by kernel_rfl) (hs:zh ops=H:=by kernel_rfl)
 (hl:(listed.getD p false || p == i)=false:=by kernel_rfl) (hf:DA .any ops listed i=H:=by kernel_rfl) (q:(ZX .any ops listed).contains i=H:=by kernel_rfl)
 (m:∀c a w,Q (.panic c) (a.put o.dst x) w->Q (.panic c) a w:=by exact λ_ _ _ h=>h) (hd:o.dst=d:=by kernel_rfl):anyS P ops Q S (fuel+1) listed a w:=by
 subst hd;exact anyS.take (p:=p) ho k (Z5 ⟨bI j,λw g=>by
  rw[Z0,e];dsimp only;rw[hx,ZK,jD (u w g) r];rfl⟩) s f h n hs hl hf q m
def anyS.row{cs:G Zm}(ho:ops[i]? = J o)(p:I)(k:∀l w,S (yCC l i H) w->S l w)(T:ZR)(t:Tmp)(b off:I)(j:TypeDesc)(f:o.op=.load T (.tmp t))(s:P.underlying T=J j)(e:j.isRow=H)(u:(P.info? T).map (·.size)=J cs.length)(x:∀w,Bef S p w->w.rangeAt b off cs)(v:Bef S p w)(g:S (listed.setIfInBounds i H) w)
 (h:anyS P ops Q S fuel (listed.setIfInBounds i H) (a.put d (.agg cs.toArray)) w) (hx:a.eval (.tmp t)=oZ b off:=by kernel_rfl) (m:o.guard=F:=by rfl) (q:waits ops p i=H:=by kernel_rfl) (hs:zh ops=H:=by kernel_rfl)
 (hl:(listed.getD p false || p == i)=false:=by kernel_rfl) (hf:DA .any ops listed i=H:=by kernel_rfl) (r:(ZX .any ops listed).contains i=H:=by kernel_rfl)
 (n:∀c a w,Q (.panic c) (a.put o.dst (.agg cs.toArray)) w->Q (.panic c) a w:=by exact λ_ _ _ h=>h) (hd:o.dst=d:=by kernel_rfl):anyS P ops Q S (fuel+1) listed a w:=by
 subst hd;exact anyS.take (p:=p) ho k (yieldsIf_load_mid (bI m) T (.tmp t) f b off hx cs j x s e u) v g h q hs hl hf r n
def anyS.val{x:Zm}(ho:ops[i]? = J o)(p:I)(k:∀l w,S (yCC l i H) w->S l w)(m:Bef S p w)(b:S (listed.setIfInBounds i H) w)(h:anyS P ops Q S fuel (listed.setIfInBounds i H) (a.put d x) w)(hv:∀w,(Z0 a.eval o).run P w=.ok (.value x) w:=by intro _;kernel_rfl)(f:o.guard=F:=by rfl)(g:waits ops p i=H:=by kernel_rfl)(hs:zh ops=H:=by kernel_rfl)
 (hl:(listed.getD p false || p == i)=false:=by kernel_rfl) (hf:DA .any ops listed i=H:=by kernel_rfl) (j:(ZX .any ops listed).contains i=H:=by kernel_rfl)
 (e:∀c a w,Q (.panic c) (a.put o.dst x) w->Q (.panic c) a w:=by exact λ_ _ _ h=>h) (hd:o.dst=d:=by kernel_rfl):anyS P ops Q S (fuel+1) listed a w:=by
 subst hd;exact anyS.take (p:=p) ho k (Z5 ⟨bI f,λw _=>hv w⟩) m b h g hs hl hf j e
def anyS.nxt{x:Zm}(ho:ops[i]? = J o)(k:S (listed.setIfInBounds i H) w)(h:anyS P ops Q S fuel (listed.setIfInBounds i H) (a.put d x) w)(hv:(Z0 a.eval o).run P w=.ok (.value x) w:=by kernel_rfl)(b:ZX .any ops listed=[i]:=by kernel_rfl)(e:o.guard=F:=by rfl)(hd:o.dst=d:=by kernel_rfl):anyS P ops Q S (fuel+1) listed a w:=by
 subst hd;exact anyS.step ho b λK c=>by
  rw[GD (bI e)];rw[ao,hv];exact c _ _ k h
end
end
def anyS.sta{P:ai}{c:Array Z4}{Q:fI->Act->Zl->Prop}{S:Array Hc->Zl->Prop}{o:Z4}{k:Array Hc}(ho:c[i]? = J o)(j:ZR)(x y:oF)(f:o.op=.store j x y)(b off:I)(us:Array Zm)(h1:us.all (·.oneCell')=H)(l:w.there b off us.size)(q:(P.info? j).map (·.size)=J us.size)
 (r:S (k.setIfInBounds i H) (w.setCells b off us.toList)) (h:anyS P c Q S e (k.setIfInBounds i H) (a.put d am) (w.setCells b off us.toList)) (hx:a.eval x=oZ b off:=by kernel_rfl) (p:a.eval y=.agg us:=by kernel_rfl)
 (g:ZX .any c k=[i]:=by kernel_rfl) (m:o.guard=F:=by rfl) (hd:o.dst=d:=by kernel_rfl):anyS P c Q S (e+1) k a w:=by
 subst hd;exact anyS.step ho g λK n=>by
  rw[GD (bI m)];have g:=yGs (P:=P) w b off j us l q h1;unfold ao Z0;simp only[f,hx,p,CT,AJ,ZK,qj,lp,g];exact n _ _ r h
structure Iv where
 p:Zl->Prop
 gr:∀W W',kZ W W'->p W->p W'
 b:Hc
abbrev Iv.bel(k:Zl):Iv:=⟨λW=>kZ k W,λ_ _ b h=>h.trans (b.mono h.size),H⟩
section
variable {P:ai}{ops:Array Z4}{Q:fI->Act->Zl->Prop}{p r:Nat}{J:Iv}{W:Zl}
def Sa(p r:I)(J:Iv)(l:R Hc)(W:Zl):Prop:=(J.b=H/\l.getD p D=H/\l.getD r D=H)\/J.p W
def Sa.back(h:p≠i)(k:r≠i)(l:Array Hc)(W:Zl)(hs:Sa p r J (l.setIfInBounds i H) W):Sa p r J l W:=by
 rcases hs with hs|hs
 .rw[zm false (xg h),zm false (xg k)]at hs;exact Z5 hs
 exact ZW hs
def qw(k:R Z4)(b:Hc)(p r i:I):I:=bif b then bif waits k p i then p else r else((fo k.size).find? λj=>waits k j i).getD 0
def Sa.bel(h:Bef (Sa p r J) (qw ops J.b p r i) W):J.p W:=by
 obtain⟨l,h1,⟨c,k⟩|k⟩:=h
 .exfalso;unfold qw at h1;rw[c]at h1;cases b:waits ops p i with
  | true=>rw[b]at h1;exact zd (h1.symm.trans k.1)
  | false=>rw[b]at h1;exact zd (h1.symm.trans k.2)
 exact k
def Sa.bef{q:I}(h:J.p W):Bef (Sa p r J) q W:=⟨#[],by simp,ZW h⟩
def AW(P:ai)(c:R Z4)(Q:fI->Act->Zl->Prop)(p r:I)(J:Iv)(b:I)(k:R Hc)(a:Act)(w:Zl):Prop:=J.p w->anyS P c Q (Sa p r J) b k a w
def AW.beg{J:Iv}{id:I}(p r:I)(b:J.p w.drew)(h:AW P ops Q p r J ops.size (ZA ops.size false) a w.drew)(k:P.follows .mixedOrders=H:=by kernel_rfl):(gH id ops H).wp P Q a w:=anyS.begin (Sa p r J) k (h b)
def AW.begin{id:I}(p r:I)(h:AW P ops Q p r (Iv.bel w) ops.size (ZA ops.size false) a w.drew)(k:P.follows .mixedOrders=H:=by kernel_rfl):(gH id ops H).wp P Q a w:=AW.beg p r (ZF _ w).drew h k
def aw1(b:R Z4)(p r q i:I)(k:R Hc):Hc:=waits b q i && zh b && !(k.getD q D || q == i) && DA .any b k i && (ZX .any b k).contains i && !(p == i) && !(r == i)
def fw(k:R Z4)(i:I):I:=((fo k.size).find? λj=>waits k j i).getD 0
variable {i fuel:Nat}{o:Z4}{listed:Array Bool}{a a':Act}{w w':Zl}{d:Option Tmp}{x v:Zm}{t:Tmp}{T:ZR}{b off:Nat}{cs:List Zm}
def AW.take(i q:I)(ho:ops[i]? = some o)(hd:o.dst=d)(m:YieldsIf P ops (Bef (Sa p r J) q) o x a)(t:a.put d x=a')(b:aw1 ops p r q i listed=H)(f:∀c a w,Q (.panic c) (a.put o.dst x) w->Q (.panic c) a w)(h:AW P ops Q p r J fuel (listed.setIfInBounds i H) a' w):AW P ops Q p r J (fuel+1) listed a w:=λk=>by
 subst t hd;simp only[aw1,ZD,Hc.not_eq_true']at b;let⟨⟨⟨⟨⟨⟨h1,e⟩,n⟩,g⟩,l⟩,s⟩,j⟩:=b
 exact anyS.take (p:=q) ho (Sa.back (by simpa using s) (by simpa using j)) m (Sa.bef k) (ZW k) (h k) h1 e n g l f
def AW.va(i:I)(x:Zm)(h:AW P ops Q p r J fuel (listed.setIfInBounds i H) a' w)(ho:ops[i]? = some o:=by(simp only[ZU,ZQ,ZT])<;>rfl)(hd:o.dst=d:=by rfl)(f:o.guard=F:=by rfl)(hv:∀w,(Z0 a.eval o).run P w=.ok (.value x) w:=by intro _;kernel_rfl)
 (b:a.put d x=a':=by(simp only[ah,Zr,Zt,Zu])<;>rfl) (k:aw1 ops p r (fw ops i) i listed=H:=by kernel_rfl) (e:∀c a w,Q (.panic c) (a.put o.dst x) w->Q (.panic c) a w:=by exact λ_ _ _ h=>h):AW P ops Q p r J (fuel+1) listed a w:=
 AW.take i (fw ops i) ho hd (Z5 ⟨bI f,λw _=>hv w⟩) b k e h
def AW.iv(i:Nat){I:Sem Zm}(b:∀w,I.run P w=.ok x w)(h:AW P ops Q p r J fuel (listed.setIfInBounds i H) a' w)(ho:ops[i]? = some o:=by(simp only[ZU,ZQ,ZT])<;>rfl)(hd:o.dst=d:=by rfl)(j:o.guard=F:=by rfl)(e:Z0 a.eval o=I >>= λv=>pure (pi v):=by kernel_rfl)
 (f:a.put d x=a':=by(simp only[ah,Zr,Zt,Zu])<;>rfl) (k:aw1 ops p r (fw ops i) i listed=H:=by kernel_rfl) (g:∀c a w,Q (.panic c) (a.put o.dst x) w->Q (.panic c) a w:=by exact λ_ _ _ h=>h):AW P ops Q p r J (fuel+1) listed a w:=
 AW.take i (fw ops i) ho hd (Z5 ⟨bI j,λw _=>by rw[e,ZK,b w];rfl⟩) f k g h
def UZ{b:R ZR}{s k:Tmp}{y:Zm}(hf:∀args W,(callFunc f args).run P W=.ok (.enter f args) W)(ho:o.op=.call ⟨.value (.tmp s),#[.tmp t,.tmp k],b⟩)(hs:a.eval (.tmp s)=.func (.func f) #[] #[])(hx:a.eval (.tmp t)=x)(c:a.eval (.tmp k)=y):(Z0 a.eval o).run P w=.ok (.enter f #[x,y]) w:=by
 rw[Z0,ho];have e:(#[yEI t,yEI k].map a.eval)=#[x,y]:=by simp[hx,c]
 simp only[resolve,hs,Deferred.ofValue,ZK,qj,lp,invoke,e];exact hf _ w
def AW.mv(i:I)(h:AW P ops Q p r J fuel (listed.setIfInBounds i H) a' w)(ho:ops[i]? = some o:=by(simp only[ZU,ZQ,ZT])<;>rfl)(hd:o.dst=d:=by rfl)(g:o.guard=F:=by rfl)(k:o.op=.move (.tmp t):=by rfl)(hx:a.eval (.tmp t)=x:=by(conv=>lhs;whnf)<;>rfl)
 (e:a.put d x=a':=by(simp only[ah,Zr,Zt,Zu])<;>rfl) (b:aw1 ops p r (fw ops i) i listed=H:=by kernel_rfl) (f:∀c a w,Q (.panic c) (a.put o.dst x) w->Q (.panic c) a w:=by exact λ_ _ _ h=>h):AW P ops Q p r J (fuel+1) listed a w:=
 AW.take i (fw ops i) ho hd (Z5 ⟨bI g,λw _=>by unfold Z0;rw[k];dsimp only;rw[hx];rfl⟩) e b f h
def AW.ce(i:I)(l:(P.underlying T).map (·.isRow)=some false)(n:∀W,J.p W->W.cell? ⟨b,off,F⟩=some x)(h:AW P ops Q p r J fuel (listed.setIfInBounds i H) a' w)(ho:ops[i]? = some o:=by(simp only[ZU,ZQ,ZT])<;>rfl)(hd:o.dst=d:=by rfl)(m:o.guard=F:=by rfl)(e:o.op=.load T (.tmp t):=by rfl)(hx:a.eval (.tmp t)=oZ b off:=by rfl)
 (g:a.put d x=a':=by(simp only[ah,Zr,Zt,Zu])<;>rfl) (f:aw1 ops p r (qw ops J.b p r i) i listed=H:=by kernel_rfl) (j:∀c a w,Q (.panic c) (a.put o.dst x) w->Q (.panic c) a w:=by exact λ_ _ _ h=>h):AW P ops Q p r J (fuel+1) listed a w:=
 AW.take i (qw ops J.b p r i) ho hd (Z5 ⟨bI m,λw k=>by
  rw[Z0,e];dsimp only;rw[hx,ZK,jD (n w (Sa.bel k)) l];rfl⟩) g f j h
def AW.ro(i:I)(u:∀W,J.p W->W.rangeAt b off cs)(hv:Hid (.agg cs.toArray=x))(m:(P.underlying T).map (·.isRow)=some H)(n:(P.info? T).map (·.size)=some cs.length)(h:AW P ops Q p r J fuel (listed.setIfInBounds i H) a' w)(ho:ops[i]? = some o:=by(simp only[ZU,ZQ,ZT])<;>rfl)(hd:o.dst=d:=by rfl)(g:o.guard=F:=by rfl)(k:o.op=.load T (.tmp t):=by rfl)(hx:a.eval (.tmp t)=oZ b off:=by rfl)
 (s:a.put d x=a':=by(simp only[ah,Zr,Zt,Zu])<;>rfl) (j:aw1 ops p r (qw ops J.b p r i) i listed=H:=by kernel_rfl) (f:∀c a w,Q (.panic c) (a.put o.dst x) w->Q (.panic c) a w:=by exact λ_ _ _ h=>h):AW P ops Q p r J (fuel+1) listed a w:=by
 obtain rfl:=hv;let⟨q,h1,e⟩:=Zp.1 m
 exact AW.take i (qw ops J.b p r i) ho hd (yieldsIf_load_mid (bI g) T (.tmp t) k b off hx cs q (λw l=>u w (Sa.bel l)) h1 e n) s j f h
def AW.ca(i:I){args:Array Zm}{R:Zm->Zl->Prop}{F:Zm->Act}(j:J.p w->ae P f args w (Ret R))(hR:∀e w',R e w'->kZ w w')(h:∀e w',R e w'->AW P ops Q p r J fuel (listed.setIfInBounds i H) (F e) w')(ho:ops[i]? = some o:=by(simp only[ZU,ZQ,ZT])<;>rfl)(hd:o.dst=d:=by rfl)(g:o.guard=none:=by rfl)(hx:(Z0 a.eval o).run P w=.ok (.enter f args) w:=by kernel_rfl)(b:ZX .any ops listed=[i]:=by kernel_rfl)(hf:∀e,a.put d e=F e:=by intro _;(simp only[ah,Zr,Zt,Zu])<;>rfl):AW P ops Q p r J (fuel+1) listed a w:=λc =>
 anyS.cal ho (j c) (λe w' b=>by
  have k:=J.gr w w' (hR e w' b) c;exact⟨ZW k,hf e ▸ h e w' b k⟩) b g hx hd
def AW.cw(i:I){args:Array Zm}{R:Zm->Zl->Prop}{F:Zm->Act}(g:J.p w->ae P f args w (Ret R))(hR:∀e w',J.p w->R e w'->J.p w')(h:∀e w',R e w'->AW P ops Q p r J fuel (listed.setIfInBounds i H) (F e) w')(ho:ops[i]? = some o:=by(simp only[ZU,ZQ,ZT])<;>rfl)(hd:o.dst=d:=by rfl)(c:o.guard=none:=by rfl)(hx:(Z0 a.eval o).run P w=.ok (.enter f args) w:=by kernel_rfl)(k:ZX .any ops listed=[i]:=by kernel_rfl)(hf:∀e,a.put d e=F e:=by intro _;(simp only[ah,Zr,Zt,Zu])<;>rfl):AW P ops Q p r J (fuel+1) listed a w:=λb =>
 anyS.cal ho (g b) (λe w' k=>⟨ZW (hR e w' b k),hf e ▸ h e w' k (hR e w' b k)⟩) k c hx hd
def AW.gi(i:I){args:Array Zm}(g:J.p w->ae P f args w (rZ w λe w'=>e=x))(h:∀w',kZ w w'->AW P ops Q p r J fuel (listed.setIfInBounds i H) a' w')(ho:ops[i]? = some o:=by(simp only[ZU,ZQ,ZT])<;>rfl)(hd:o.dst=d:=by rfl)(c:o.guard=none:=by rfl)(hx:(Z0 a.eval o).run P w=.ok (.enter f args) w:=by kernel_rfl)
 (k:a.put d x=a':=by(simp only[ah,Zr,Zt,Zu])<;>rfl) (b:ZX .any ops listed=[i]:=by kernel_rfl):AW P ops Q p r J (fuel+1) listed a w:=AW.ca (F:=λe=>a.put d e) i g (λe w' h=>h.1) (λe w' hR=>by
 obtain⟨h1,rfl⟩:=hR;subst k;exact h w' h1) ho hd c hx b λ_=>rfl
def AW.ns(i:Nat){I:Sem Zm}(hx:I.run P w=.ok x w')(b:kZ w w')(h:AW P ops Q p r J fuel (listed.setIfInBounds i H) a' w')(ho:ops[i]? = some o:=by(simp only[ZU,ZQ,ZT])<;>rfl)(hd:o.dst=d:=by rfl)(j:o.guard=F:=by rfl)(c:Z0 a.eval o=I >>= λv=>pure (pi v):=by kernel_rfl)
 (e:a.put d x=a':=by(simp only[ah,Zr,Zt,Zu])<;>rfl) (f:ZX .any ops listed=[i]:=by kernel_rfl):AW P ops Q p r J (fuel+1) listed a w:=λg=>by
 subst e;have k:=J.gr w w' b g;exact anyS.ins ho hx (ZW k) (h k) f j c hd
def AW.nx(i:I)(x:Zm)(h:AW P ops Q p r J fuel (listed.setIfInBounds i H) a' w)(ho:ops[i]? = some o:=by(simp only[ZU,ZQ,ZT])<;>rfl)(hd:o.dst=d:=by rfl)(e:o.guard=F:=by rfl)(hv:(Z0 a.eval o).run P w=.ok (.value x) w:=by kernel_rfl)
 (b:a.put d x=a':=by(simp only[ah,Zr,Zt,Zu])<;>rfl) (c:ZX .any ops listed=[i]:=by kernel_rfl):AW P ops Q p r J (fuel+1) listed a w:=λk=>by
 subst b;exact anyS.nxt ho (ZW k) (h k) hv c e hd
def AW.dn(h:J.p w->Q .normal a w)(b:ZX .any ops listed=[]:=by kernel_rfl):AW P ops Q p r J fuel listed a w:=λk=>anyS.done b (h k) _
def AW.fi{off:I}(hv:Hid (.agg us.toArray=v))(i:us.toArray.all (·.oneCell')=H)(j:(P.info? T).map (·.size)=some us.length)(h:J.p w->w.there k off us.length/\Q .normal a' (w.setCells k off us))(ho:ops[p]? = some o:=by(simp only[ZU,ZQ,ZT])<;>rfl)(hd:o.dst=F:=by rfl)(f:o.guard=F:=by rfl)(c:o.op=.store T (.tmp t) y:=by rfl)(hx:a.eval (.tmp t)=oZ k off:=by rfl)(g:a.eval y=v:=by rfl)
 (l:a.put F am=a':=by(simp only[ah])<;>rfl) (b:(ZX .any ops listed,ZX .any ops (listed.setIfInBounds p H),J.b,(listed.setIfInBounds p H).getD p false,(listed.setIfInBounds p H).getD r false)=([p],[],H,H,H):=by kernel_rfl):AW P ops Q p r J (fuel+1) listed a w:=λe=>by
 simp only[an.injEq]at b;let⟨h1,d⟩:=h e
 subst l;exact anyS.sta ho T (.tmp t) y c k off us.toArray i h1 j (Z5 b.2.2) (anyS.done b.2.1 d _) hx (g.trans hv.symm) b.1 f hd
def AW.ss(i:I){off:I}(hv:Hid (.agg us.toArray=v))(l:us.toArray.all (·.oneCell')=H)(m:(P.info? T).map (·.size)=some us.length)(f:Hid (w.setCells k off us=w'))(h:J.p w->w.there k off us.length/\J.p w')(n:AW P ops Q p r J fuel (listed.setIfInBounds i H) a' w')(ho:ops[i]? = some o:=by(simp only[ZU,ZQ,ZT])<;>rfl)(hd:o.dst=F:=by rfl)(e:o.guard=F:=by rfl)(b:o.op=.store T (.tmp t) y:=by rfl)(hx:a.eval (.tmp t)=oZ k off:=by rfl)(g:a.eval y=v:=by rfl)
 (q:a.put F am=a':=by(simp only[ah])<;>rfl) (j:ZX .any ops listed=[i]:=by kernel_rfl):AW P ops Q p r J (fuel+1) listed a w:=λd=>by
 let⟨h1,c⟩:=h d
 obtain rfl:=f;subst q;exact anyS.sta ho T (.tmp t) y b k off us.toArray l h1 m (ZW c) (n c) hx (g.trans hv.symm) j e hd
def AW.f2{c:I}{u:ZR}(hv:Hid (.agg us.toArray=v))(j:Hid (.agg us'.toArray=A))(hu:us.toArray.all (·.oneCell')=H)(hi:(P.info? T).map (·.size)=some us.length)(m:us'.toArray.all (·.oneCell')=H)(l:(P.info? u).map (·.size)=some us'.length)(h:J.p w->w.there k 0 us.length/\(w.setCells k 0 us).there c 0 us'.length/\Q .normal a' ((w.setCells k 0 us).setCells c 0 us'))(ho:ops[p]? = some o:=by(simp only[ZU,ZQ,ZT])<;>rfl)(hd:o.dst=F:=by rfl)(O:o.guard=F:=by rfl)(g:o.op=.store T (.tmp t) y:=by rfl)(hx:a.eval (.tmp t)=jZ k:=by rfl)(hy:a.eval y=v:=by rfl)
 (ha:a.put F am=a':=by(simp only[ah])<;>rfl){d:Z4}{n:oF}{f:Tmp}(q:ops[p+1]? = some d:=by(simp only[ZU,ZQ,ZT])<;>rfl) (x:d.dst=F:=by rfl) (i:d.guard=F:=by rfl) (b:d.op=.store u (.tmp f) n:=by rfl) (e:a'.eval (.tmp f)=jZ c:=by rfl) (s:a'.eval n=A:=by rfl) (z:a'.put F am=a':=by rfl)
 (C:(ZX .any ops listed,ZX .any ops (listed.setIfInBounds p H),ZX .any ops ((listed.setIfInBounds p H).setIfInBounds (p+1) H),J.b,(listed.setIfInBounds p H).getD p false,(listed.setIfInBounds p H).getD r false,((listed.setIfInBounds p H).setIfInBounds (p+1) H).getD p false,((listed.setIfInBounds p H).setIfInBounds (p+1) H).getD r false)=([p],[p+1],[],H,H,H,H,H):=by kernel_rfl):AW P ops Q p r J (fuel+2) listed a w:=λN=>by
 simp only[an.injEq]at C;let⟨M,r2,K,d,W,r5,V,X⟩:=C
 let⟨h1,L,h3⟩:=h N
 subst ha;exact anyS.sta ho T (.tmp t) y g k 0 us.toArray hu h1 hi (Z5 ⟨d,W,r5⟩) (anyS.sta q u (.tmp f) n b c 0 us'.toArray m L l (Z5 ⟨d,V,X⟩) (anyS.done K (by rw[z];exact h3) _) e (s.trans j.symm) r2 i x) hx (hy.trans hv.symm) M O hd
end
abbrev Iv.mp(w:Zl)(rs:G (I × G Zm))(S:G Pq)(b:Hc):Iv:=⟨λW=>Mp w W rs S,λ_ _ k h=>h.grow k,b⟩
def hQr{α:Sort _}{x:α}:E (x=x):=rfl
def nq:E (ZM (wn n).toArray=nv n):=rfl
def aq{c:G Zm}:E (ZM c.toArray=.agg c.toArray):=rfl
section
variable {P:ai}{ops:Array Z4}{rest:List Z4}{op:Z4}{a a':Act}{w W:Zl}{Q:fI->Act->Zl->Prop}{d:Option Tmp}{x v:Zm}{t:Tmp}{rs:List (Nat × List Zm)}{S:List Pq}{k:Nat}{cs:List Zm}
def PM.nw(T:ZR)(c:List Zm)(x:I->Zm)(K:Hid (Mp w W rs S)){F:I->List (I × List Zm)}{G:I->Act}(h:∀k W',Hid (Mp w W' (F k) S)->wpList P ops Q rest (G k) W')(hd:op.dst=d:=by rfl)(i:op.guard=none:=by rfl)(f:(Z0 a.eval op).run P W=.ok (.value (x W.heap.size)) (W.alloc (.cells c.toArray T)):=by kernel_rfl)(e:∀k,rs++[(k,c)]=F k:=by intro _;(simp only[qo,sy])<;>rfl)(b:∀k,a.put d (x k)=G k:=by intro _;(simp only[ah,Zr,Zt,Zu])<;>rfl):wpList P ops Q (op :: rest) a W:=by
 subst hd;exact sj i λj g=>by
  rw[ao,f];refine g _ _ ?_;rw[b];exact h _ _ (K.new (c:=c) (T:=T) hQr hQr (e _))
def PM.al(T:ZR)(c:List Zm)(K:Hid (Mp w W rs S)){F:I->List (I × List Zm)}{G:I->Act}(h:∀k W',Hid (Mp w W' (F k) S)->wpList P ops Q rest (G k) W')(hd:op.dst=d:=by rfl)(g:op.guard=none:=by rfl)(f:(Z0 a.eval op).run P W=.ok (.value (jZ W.heap.size)) (W.alloc (.cells c.toArray T)):=by kernel_rfl)(e:∀k,rs++[(k,c)]=F k:=by intro _;(simp only[qo,sy])<;>rfl)(b:∀k,a.put d (jZ k)=G k:=by intro _;(simp only[ah,Zr,Zt,Zu])<;>rfl):wpList P ops Q (op :: rest) a W:=
 PM.nw T c (λk=>jZ k) K h hd g f e b
def PM.st(i:I)(us:G Zm)(K:Hid (Mp w W rs S))(hv:Hid (.agg us.toArray=v)){b:G (I × G Zm)}(h:∀W',Hid (Mp w W' b S)->wpList P ops Q rest a' W')(d:rs[i]? = J (k,cs):=by rfl)(hl:us.length=cs.length:=by rfl)(hd:op.dst=F:=by rfl)(c:op.guard=F:=by rfl){T:ZR}(ho:op.op=.store T (.tmp t) y:=by rfl)(hx:a.eval (.tmp t)=jZ k:=by rfl)(f:a.eval y=v:=by rfl)(hT:(P.info? T).map (·.size)=J us.length:=by kernel_rfl)(h1:us.toArray.all (·.oneCell')=H:=by kernel_rfl)(e:rs.set i (k,us)=b:=by(simp only[Zt,Zu])<;>rfl)(g:a.put F am=a':=by(simp only[ah])<;>rfl):wpList P ops Q (op :: rest) a W:=
 PW.st hQr hv (K.th i d hl) hT h1 (h _ (K.put i hQr d hl e)) hd c ho hx f g
def PM.ro(i:I)(K:Hid (Mp w W rs S))(hv:Hid (.agg cs.toArray=v))(h:wpList P ops Q rest a' W)(f:rs[i]? = J (k,cs):=by rfl)(hd:op.dst=d:=by rfl)(b:op.guard=F:=by rfl){T:ZR}(ho:op.op=.load T (.tmp t):=by rfl)(hx:a.eval (.tmp t)=jZ k:=by rfl)(e:(P.underlying T).map (·.isRow)=J H:=by kernel_rfl)(hT:(P.info? T).map (·.size)=J cs.length:=by kernel_rfl)(c:a.put d v=a':=by(simp only[ah,Zr,Zt,Zu])<;>rfl):wpList P ops Q (op :: rest) a W:=
 PW.ro (K.at_ i f).2.1 hv e hT h hd b ho hx c
def PM.ce(i o:I)(K:Hid (Mp w W rs S))(h:wpList P ops Q rest a' W)(g:rs[i]? = J (k,cs):=by rfl)(f:cs[o]? = J v:=by rfl)(hd:op.dst=d:=by rfl)(b:op.guard=F:=by rfl){T:ZR}(ho:op.op=.load T (.tmp t):=by rfl)(hx:a.eval (.tmp t)=oZ k o:=by rfl)(e:(P.underlying T).map (·.isRow)=J false:=by kernel_rfl)(c:a.put d v=a':=by(simp only[ah,Zr,Zt,Zu])<;>rfl):wpList P ops Q (op :: rest) a W:=
 PW.ce (by have:=(K.at_ i g).2.1 o v f;rwa[Zs]at this) e h hd b ho hx c
def PM.gi{args:Array Zm}(K:Hid (Mp w W rs S))(g:ae P f args W (rZ W λe w'=>e=x))(h:∀W',Hid (Mp w W' rs S)->wpList P ops Q rest a' W')(hd:op.dst=d:=by rfl)(c:op.guard=F:=by rfl)(hx:(Z0 a.eval op).run P W=.ok (.enter f args) W:=by kernel_rfl)(k:a.put d x=a':=by(simp only[ah,Zr,Zt,Zu])<;>rfl):wpList P ops Q (op :: rest) a W:=
 PW.gi g (λW' b=>h W' (K.grow b)) hd c hx k
end
section
variable {P:ai}{ops:Array Z4}{Q:fI->Act->Zl->Prop}{p r i fuel:Nat}{o:Z4}{listed:Array Bool}{a a':Act}{w0 w W:Zl}{d:Option Tmp}{x v:Zm}{t:Tmp}{T:ZR}{b:Nat}{cs:List Zm}{rs rs':List (Nat × List Zm)}{S:List Pq}{c:Code}
def AM.bb{id:I}(p r:I)(K:Hid (Mp w W rs S))(h:AW P ops Q p r (Iv.mp w rs S H) ops.size (ZA ops.size false) a W.drew)(k:P.follows .mixedOrders=H:=by kernel_rfl):(gH id ops H).wp P Q a W:=AW.beg p r K.drew h k
def AM.bg{id:I}(p r:I)(K:Hid (Mp w W rs S))(h:AW P ops (Exit.then (c.wp P Q) Q) p r (Iv.mp w rs S H) ops.size (ZA ops.size false) a W.drew)(k:P.follows .mixedOrders=H:=by kernel_rfl):((gH id ops H).seq c).wp P Q a W:=Zq (AM.bb p r K h k)
def AM.ro{bb:Hc}(i j:I)(hv:Hid (.agg cs.toArray=x))(h:AW P ops Q p r (Iv.mp w0 rs S bb) fuel (listed.setIfInBounds i H) a' w)(m:rs[j]? = J (b,cs):=by rfl)(ho:ops[i]? = J o:=by(simp only[ZU,ZQ,ZT])<;>rfl)(hd:o.dst=d:=by rfl)(f:o.guard=F:=by rfl)(k:o.op=.load T (.tmp t):=by rfl)(hx:a.eval (.tmp t)=jZ b:=by rfl)(l:(P.underlying T).map (·.isRow)=J H:=by kernel_rfl)(hT:(P.info? T).map (·.size)=J cs.length:=by kernel_rfl)
 (n:a.put d x=a':=by(simp only[ah,Zr,Zt,Zu])<;>rfl) (g:aw1 ops p r (qw ops bb p r i) i listed=H:=by kernel_rfl) (e:∀c a w,Q (.panic c) (a.put o.dst x) w->Q (.panic c) a w:=by exact λ_ _ _ h=>h):AW P ops Q p r (Iv.mp w0 rs S bb) (fuel+1) listed a w:=
 AW.ro i (λW (h:Mp w0 W rs S)=>(h.at_ j m).2.1) hv l hT h ho hd f k hx n g e
def AM.ce{bb:Hc}(i j off:I)(h:AW P ops Q p r (Iv.mp w0 rs S bb) fuel (listed.setIfInBounds i H) a' w)(m:rs[j]? = J (b,cs):=by rfl)(q:cs[off]? = J x:=by rfl)(ho:ops[i]? = J o:=by(simp only[ZU,ZQ,ZT])<;>rfl)(hd:o.dst=d:=by rfl)(f:o.guard=F:=by rfl)(k:o.op=.load T (.tmp t):=by rfl)(hx:a.eval (.tmp t)=oZ b off:=by rfl)(l:(P.underlying T).map (·.isRow)=J false:=by kernel_rfl)
 (n:a.put d x=a':=by(simp only[ah,Zr,Zt,Zu])<;>rfl) (g:aw1 ops p r (qw ops bb p r i) i listed=H:=by kernel_rfl) (e:∀c a w,Q (.panic c) (a.put o.dst x) w->Q (.panic c) a w:=by exact λ_ _ _ h=>h):AW P ops Q p r (Iv.mp w0 rs S bb) (fuel+1) listed a w:=
 AW.ce i l (λW (h:Mp w0 W rs S)=>by have:=(h.at_ j m).2.1 off x q;rwa[Zs]at this) h ho hd f k hx n g e
def AM.fi(j:I)(hv:Hid (.agg us.toArray=v))(h:∀W,Hid (Mp w0 W rs' S)->Q .normal a' W)(c:rs[j]? = J (b,cs):=by rfl)(ho:ops[p]? = J o:=by(simp only[ZU,ZQ,ZT])<;>rfl)(hd:o.dst=F:=by rfl)(d:o.guard=F:=by rfl)(k:o.op=.store T (.tmp t) y:=by rfl)(hx:a.eval (.tmp t)=jZ b:=by rfl)(f:a.eval y=v:=by rfl)(hl:us.length=cs.length:=by kernel_rfl)(hT:(P.info? T).map (·.size)=J us.length:=by kernel_rfl)(h1:us.toArray.all (·.oneCell')=H:=by kernel_rfl)(e:rs.set j (b,us)=rs':=by(simp only[Zt,Zu])<;>rfl)
 (i:a.put F am=a':=by(simp only[ah])<;>rfl) (g:(ZX .any ops listed,ZX .any ops (listed.setIfInBounds p H),H,(listed.setIfInBounds p H).getD p false,(listed.setIfInBounds p H).getD r false)=([p],[],H,H,H):=by kernel_rfl):AW P ops Q p r (Iv.mp w0 rs S H) (fuel+1) listed a w:=
 AW.fi hv h1 hT (λ(K:Mp w0 w rs S)=>⟨K.th j c hl,h _ (K.put j hQr c hl e)⟩) ho hd d k hx f i g
end
end
namespace RG
variable {P:ai}{ops:Array Z4}{Q:fI->Act->Zl->Prop}{w0 w:Zl}{k0 n:Nat}{X ks:List Nat}{cs:List (List Zm)}{os:List (Tmp × SV)}{a:Act}
inductive Hh where
 | x (v:Zm)
 | c (v:Zm)
 | s (v:SV)
 | m (b:I)
 | u (b:I)
def nd(k:R Z4)(i:I):G (Tmp × I):=
 match k[i]? with
 | none=>[]
 | some o=>o.op.operands.toList.filterMap λx=>match x with
  | .tmp t=>((fo i).find? λj=>match k[j]? with|some p=>p.dst == J t && bV o j|none=>D).map λj=>(t,j)
  | _=>F
def dt(k:R Z4)(i:I):GJ Tmp:=(k[i]?).bind (·.dst)
def Hh.it(k:Array Z4)(i:I):Hh->It
 | .x v=>⟨dt k i,nd k i,.v v,.stay⟩
 | .c v=>⟨dt k i,nd k i,.v v,.call⟩
 | .s v=>⟨dt k i,nd k i,v,.stay⟩
 | .m b=>⟨dt k i,nd k i,.p b 0,.make b⟩
 | .u b=>⟨F,nd k i,.v am,.put b⟩
def mkL(k:R Z4):I->G Hh->G It
 | _,[]=>[]
 | i,h :: r=>h.it k i :: mkL k (i+1) r
def kps(k:G It)(b:G (Tmp × SV))(l:G Tmp):G (Tmp × SV):=l.filterMap λt=>(lk k b t).map λs=>(t,s)
def M.U{id:I}(h:M w0 k0 X n cs ks os a w)(hs:G Hh)(k:G Tmp)(e:Certs P Q w0 k0 X ops (mkL ops 0 hs) (bls cs [] []) os 0 ops.toList (mkL ops 0 hs))(c:∀b w',M w0 k0 X n cs ks (kps (mkL ops 0 hs) os k) b w'->Q .normal b w')(d:(allB ops (mkL ops 0 hs) (bls cs [] []) os n,(kps (mkL ops 0 hs) os k).map λx=>lk (mkL ops 0 hs) os x.1)=(H,(kps (mkL ops 0 hs) os k).map λx=>J x.2):=by kernel_rfl):(gH id ops false).wp P Q a w:=h.u _ _ e c d
def M.E{id:I}(h:M w0 k0 X n cs ks os a w)(hs:G Hh)(k:G Tmp)(f:Certs P Q w0 k0 X ops (mkL ops 0 hs) (bls cs [] []) os 0 ops.toList (mkL ops 0 hs))(c:∀b w',M w0 k0 X n cs ks (kps (mkL ops 0 hs) os k) b w'->Q .normal b w')(d:(allB ops (mkL ops 0 hs) (bls cs [] []) os n,(kps (mkL ops 0 hs) os k).map λx=>lk (mkL ops 0 hs) os x.1)=(H,(kps (mkL ops 0 hs) os k).map λx=>J x.2):=by kernel_rfl)(e:P.follows .mixedOrders=H:=by kernel_rfl):(gH id ops H).wp P Q a w:=h.e _ _ f c d e
def M.T{id:I}{k:G (G Zm)}(h:M w0 k0 X n cs ks os a w)(hs:G Hh)(mk:G (I × G Zm))(pu:G (I × I × G Zm))(b:G Tmp)(g:Certs P Q w0 k0 X ops (mkL ops 0 hs) (bls cs mk pu) os 0 ops.toList (mkL ops 0 hs))(d:All mk.length λnew=>∀c w',M w0 k0 X n k (ks++new) (kps (mkL ops 0 hs) os b) c w'->Q .normal c w')(e:pu.foldl (λl x=>l.set x.1 x.2.2) (cs++mk.map (·.2))=k:=by(simp only[uz,yEi,yEB,yF5,Zt,Zu,qo,sy,ug])<;>rfl)(f:(allB ops (mkL ops 0 hs) (bls cs mk pu) os n && inB (mkL ops 0 hs).length mk pu,(bls cs mk pu).map Bl.fin,(kps (mkL ops 0 hs) os b).map λx=>lk (mkL ops 0 hs) os x.1)=(H,k,(kps (mkL ops 0 hs) os b).map λx=>J x.2):=by kernel_rfl)(hl:pu.map (λx=>x.2.2.length)=pu.map (λx=>(((cs++mk.map (·.2))[x.1]?).getD []).length):=by kernel_rfl):(gH id ops false).wp P Q a w:=h.t _ mk pu k _ g d f hl
def M.D{id:I}{k:G (G Zm)}(h:M w0 k0 X n cs ks os a w)(hs:G Hh)(mk:G (I × G Zm))(pu:G (I × I × G Zm))(b:G Tmp)(i:Certs P Q w0 k0 X ops (mkL ops 0 hs) (bls cs mk pu) os 0 ops.toList (mkL ops 0 hs))(d:All mk.length λnew=>∀c w',M w0 k0 X n k (ks++new) (kps (mkL ops 0 hs) os b) c w'->Q .normal c w')(e:pu.foldl (λl x=>l.set x.1 x.2.2) (cs++mk.map (·.2))=k:=by(simp only[uz,yEi,yEB,yF5,Zt,Zu,qo,sy,ug])<;>rfl)(f:(allB ops (mkL ops 0 hs) (bls cs mk pu) os n && inB (mkL ops 0 hs).length mk pu,(bls cs mk pu).map Bl.fin,(kps (mkL ops 0 hs) os b).map λx=>lk (mkL ops 0 hs) os x.1)=(H,k,(kps (mkL ops 0 hs) os b).map λx=>J x.2):=by kernel_rfl)(hl:pu.map (λx=>x.2.2.length)=pu.map (λx=>(((cs++mk.map (·.2))[x.1]?).getD []).length):=by kernel_rfl)(g:P.follows .mixedOrders=H:=by kernel_rfl):(gH id ops H).wp P Q a w:=h.d _ mk pu k _ i d f hl g
theorem M.rr{k:Func}{T:ZR}{c:G Zm}{v:Zm}(h:M w0 w0.heap.size [] n cs ks os a w)(b:I)(g:cs[b]? = J c)(d:(P.underlying T).map (·.isRow)=J H)(i:(P.info? T).map (·.size)=J c.length)(hf:k.results=#[.cell t T]:=by rfl)(f:(os.find? (λx=>x.1 == t)).map (·.2)=J (.p b 0):=by kernel_rfl)(hv:.agg c.toArray=v:=by subst_vars;rfl):bodyPost P k (rZ w0 λe w'=>e=v) .ret a w:=
 hv ▸ Zx (gK h.st hf g (h.at f) d i) h.sl.defers ⟨_,Z,h.st.bel.below,Z⟩
def M.rt{k:Func}{v:Zm}(h:M w0 w0.heap.size [] n cs ks os a w)(hf:k.results=#[.tmp t]:=by rfl)(b:(os.find? (λx=>x.1 == t)).map (·.2)=J (.v v):=by kernel_rfl):bodyPost P k (rZ w0 λe w'=>e=v) .ret a w:=
 Zx (mD hf (h.at b)) h.sl.defers ⟨_,Z,h.st.bel.below,Z⟩
theorem M.r2{k:Func}{u:Tmp}{T:ZR}{c:G Zm}{v V:Zm}(h:M w0 w0.heap.size [] n cs ks os a w)(b:I)(j:cs[b]? = J c)(g:(P.underlying T).map (·.isRow)=J H)(i:(P.info? T).map (·.size)=J c.length)(hf:k.results=#[.cell t T,.tmp u]:=by rfl)(hv:.tuple #[.agg c.toArray,v]=V:=by subst_vars;rfl)(f:(os.find? (λx=>x.1 == t)).map (·.2)=J (.p b 0):=by kernel_rfl)(d:(os.find? (λx=>x.1 == u)).map (·.2)=J (.v v):=by kernel_rfl):bodyPost P k (rZ w0 λe w'=>e=V) .ret a w:=
 hv ▸ Zx (jF h.st t u hf b j (h.at f) (h.at d) g i) h.sl.defers ⟨_,Z,h.st.bel.below,Z⟩
end RG
namespace RG
def M.cv{f:Zl}{d:I}{b:G I}{cs k:G (G Zm)}{c:G (Tmp × SV)}(h:M f d X n cs ks c a w)(e:(cs,ks,c)=(k,b,os'):=by kernel_rfl):M f d X n k b os' a w:=by
 cases e
 exact h
end RG
namespace NT
def IsP(n:I):Prop:=2<=n/\∀m,m ∣ n->m=1\/m=n
def IsP.cop(h:IsP p)(b:0<k)(c:k<p):yEn p k:=by
 unfold yEn;rcases h.2 _ (yEl p k)with e|e
 .exact e
 have:=yC7 b (yEd p k);omega
def IsP.cop_of(h:IsP p)(b:¬p ∣ k):yEn p k:=by
 unfold yEn;rcases h.2 _ (yEl p k)with e|e
 .exact e
 exact absurd (e ▸ yEd p k) b
def IsP.euclid{a:I}(h:IsP p)(hd:p ∣ a*b):p ∣ a\/p ∣ b:=by
 by_cases k:p ∣ a
 .exact Z5 k
 exact ZW ((h.cop_of k).dvd_of_dvd_mul_left hd)
/-! the binomials -/
def ch: I -> I -> I
  | _, 0 => 1
  | 0, _ + 1 => 0
  | n + 1, k + 1 => ch n k + ch n (k + 1)
def uL(n:I):ch n 0=1:=by cases n<;>rfl
def uM:∀(n k:I),n<k->ch n k=0
 | 0,k+1,_=>rfl
 | n+1,k+1,h=>by
  rw[ch,uM n k S,uM n (k+1) S]
def Jo:∀(n:I),ch n n=1
 | 0=>rfl
 | n+1=>by rw[ch,Jo n,uM n (n+1) S]
def yI:∀(n k:I),(k+1)*ch (n+1) (k+1)=(n+1)*ch n k
 | 0,0=>rfl
 | 0,k+1=>by simp[ch]
 | n+1,0=>by
  have h:=yI n 0;have e:ch (n+1+1) (0+1)=ch (n+1) 0+ch (n+1) (0+1):=rfl;rw[uL]at h;rw[e,uL];omega
 | n+1,k+1=>by
  have b:=yI n (k+1);have e:ch (n+1+1) (k+1+1)=ch (n+1) (k+1)+ch (n+1) (k+1+1):=rfl;have e3:ch (n+1) (k+1)=ch n k+ch n (k+1):=rfl;rw[e,te,b];have:(k+1+1)*ch (n+1) (k+1)=(n+1)*ch n k+ch (n+1) (k+1):=by
   rw[<-(yI n k),xc (k+1) 1,tF]
  rw[this,e3,xc (n+1) 1,tF,te];omega
def sumTo:I->(I->I)->I
 | 0,_=>0
 | n+1,f=>sumTo n f+f n
def sumTo_congr(f g:I->I):∀n,(∀k,k<n->f k=g k)->sumTo n f=sumTo n g
 | 0,_=>rfl
 | n+1,h=>by
  rw[sumTo,sumTo,sumTo_congr f g n (λk b=>h k S),h n S]
def BB(f g:I->I):∀n,sumTo n (λk=>f k+g k)=sumTo n f+sumTo n g
 | 0=>rfl
 | n+1=>by simp only[sumTo];rw[BB f g n];omega
def Bz(a:I)(f:I->I):∀n,sumTo n (λk=>a*f k)=a*sumTo n f
 | 0=>rfl
 | n+1=>by simp only[sumTo];rw[Bz a f n,te]
def lH{f:I->I}:∀n,sumTo (n+1) f=f 0+sumTo n (λk=>f (k+1))
 | 0=>by simp[sumTo]
 | n+1=>by rw[sumTo,lH (f:=f) n];simp only[sumTo];omega
def BA{p:I}{f:I->I}:∀n,(∀k,k<n->p ∣ f k)->p ∣ sumTo n f
 | 0,_=>I.dvd_zero p
 | n+1,h=>I.dvd_add (BA n (λk b=>h k S)) (h n S)
def SC(a:I):∀n,(a+1)^n=sumTo (n+1) (λk=>ch n k*a^k)
 | 0=>by simp[sumTo,ch]
 | n+1=>by
  rw[oB,SC a n,te,ri];rw[lH (f:=(λk=>ch (n+1) k*a^k)) (n+1)];have e:sumTo (n+1) (λk=>ch (n+1) (k+1)*a^(k+1))
   = sumTo (n+1) (λk=>a*(ch n k*a^k))+sumTo (n+1) (λk=>ch n (k+1)*a^(k+1)):=by
   rw[<-BB];refine sumTo_congr _ _ _ ?_;intro k _;show(ch n k+ch n (k+1))*a^(k+1)=_;rw[xc,oB];have:ch n k*(a^k*a)=a*(ch n k*a^k):=by
    rw[ax a,uj]
   rw[this]
  rw[e,Bz];have c:sumTo (n+1) (λk=>ch n k*a^k)
   = ch n 0*a^0+sumTo n (λk=>ch n (k+1)*a^(k+1)):=lH n
  have e3:sumTo (n+1) (λk=>ch n (k+1)*a^(k+1))=sumTo n (λk=>ch n (k+1)*a^(k+1)):=by
   rw[sumTo,uM n (n+1) S,DB,qg]
  have b:ch (n+1) 0*a^0=ch n 0*a^0:=by rw[uL,uL]
  rw[e3,b,ax _ a];omega
def IsP.ch_dvd(h:IsP p)(b:k+1<p):p ∣ ch p (k+1):=by
 obtain⟨n,rfl⟩:∃n,p=n+1:=⟨p-1,oN h.1⟩
 exact(h.cop S b).dvd_of_dvd_mul_left ((yI n k) ▸ I.dvd_mul_right _ _)
def IsP.frob(h:IsP p)(a:I):(a+1)^p%p=(a^p+1)%p:=by
 obtain⟨n,rfl⟩:∃n,p=n+1:=⟨p-1,oN h.1⟩
 rw[SC,sumTo,lH,Jo,uL];let⟨c,b⟩:(n+1) ∣ sumTo n (λk=>ch (n+1) (k+1)*a^(k+1)):=
  BA _ (λk d=>I.dvd_mul_right_of_dvd (h.ch_dvd S) _)
 rw[b];have:1*a^0+(n+1)*c+1*a^(n+1)=(a^(n+1)+1)+(n+1)*c:=by
  rw[rx];omega
 rw[this,yDt]
def IsP.fermat(h:IsP p):∀a,a^p%p=a%p
 | 0=>by
  rw[yGm (oN h.1)]
 | a+1=>by
  rw[h.frob,yn,h.fermat a,<-yn]
def IsP.cancel{a x y:I}(h:IsP p)(b:¬p ∣ a)(e:a*x%p=a*y%p):x%p=y%p:=by
 have key:∀x y,y<=x->a*x%p=a*y%p->x%p=y%p:=by
  intro x y k e;have h1:=yCY (I.sub_mod_eq_zero_of_mod_eq e);rw[<-I.mul_sub]at h1;let⟨c,d⟩:=(h.cop_of b).dvd_of_dvd_mul_left h1
  have:x=y+p*c:=S;rw[this,yDt]
 rcases yGo y x with k|k
 .exact key x y k e
 exact(key y x k e.symm).symm
def IsP.fermat1(h:IsP p)(a:I)(k:¬p ∣ a):a^(p-1)%p=1:=by
 obtain⟨n,rfl⟩:∃n,p=n+1:=⟨p-1,oN h.1⟩
 have e:=h.fermat a;rw[oB,ax]at e;have:=h.cancel k (x:=a^n) (y:=1) (by rw[e,ri]);rw[I.add_sub_cancel,this,ZC h.1]
/-! powers that are 1 -/
def Qa(hr : 1<r)(x y : I): b^x%r=1 -> b^y%r=1 -> b^(yFG x y)%r=1:=by
  induction x, y using yFG.induction with
  | H0 n => intro _ h; rw[I.gcd_zero_left]; exact h
  | H1 m n hm ih =>
    intro h1 h2;rw[I.gcd_rec];refine ih ?_ h1;have e : b^n=(b^m)^(n/m) * b^(n%m):=by
      rw[<-yDM, <-rn, yF2]
    rw[e, tn, yGv, h1, I.one_pow, ZC hr, tF, yEF]at h2;exact h2
def uK:∀n,2<=n->∃r,IsP r/\r ∣ n/\(IsP n\/r*r<=n):=by
 intro n;induction n using I.strongRecOn with
 | _ n ih =>
  intro s;by_cases i:IsP n
  .exact⟨n,i,I.dvd_refl n,Z5 i⟩
  have:∃m,m ∣ n/\m≠1/\m≠n:=by
   refine xD λd=>i ⟨s,λm c=>?_⟩
   refine xD λb=>d ⟨m,c,λe=>b (Z5 e),λe=>b (ZW e)⟩
  let⟨m,⟨k,d⟩,h1,t⟩:=this
  have q:m≠0:=by intro e;rw[e,DB]at d;omega
  have p:k≠0:=by intro e;rw[e,xe]at d;omega
  have o:k≠1:=by intro e;rw[e,ri]at d;omega
  have l:m<n:=by
   have:=yC7 S (⟨k,d⟩:m ∣ n);omega
  have g:k<n:=by
   have:=I.mul_le_mul_right k (show 2<=m by omega);omega
  rcases yGo m k with f|f
  .let⟨r,j,c,_⟩:=ih m l S
   have b:=yC7 S c;refine⟨r,j,yDZ c ⟨k,d⟩,ZW ?_⟩;rw[d];exact qm b (Zw b f)
  let⟨r,j,c,_⟩:=ih k g S
  have b:=yC7 S c;refine⟨r,j,yDZ c ⟨m,by rw[d,ax]⟩,ZW ?_⟩;rw[d];exact qm (Zw b f) b
/-! what of a prime of n - 1 goes into the primes of n -/
def part{q a:I}(hq : IsP q)(hr : IsP r)(hrn : r ∣ n)(hn : 1<n)
    (h1 : a^(n-1)%n=1) (hd : q ∣ n-1) (h2 : yFG (a^((n-1)/q)%n + (n-1)) n=1) : q ∣ r-1:=by
  have hr2:=hr.1;have toR : ∀x y, x%n=y%n -> x%r=y%r:=by
    intro x y e;rw[<-yD4 x hrn, e, yD4 y hrn]
  have hm : a^(n-1)%r=1:=by
    have:=toR (a^(n-1)) 1 (by rw[h1, ZC hn]);rw[this, ZC hr2]
  have hra : ¬r ∣ a:=by
    intro hc;have hz : a^(n-1)%r=0:=yCX (yDZ hc (by
      have : a^1 ∣ a^(n-1):=yFY a S;rwa[yDL]at this))
    omega
  have hb : (a^((n-1)/q))^q%r=1:=by
    rw[<-yDM, I.div_mul_cancel hd]; exact hm
  have hbr : ¬r ∣ a^((n-1)/q):=by
    intro hc;have : r ∣ (a^((n-1)/q))^q:=yDZ hc (by
      have : (a^((n-1)/q))^1 ∣ (a^((n-1)/q))^q:=yFY _ (by have:=hq.1; omega);rwa[yDL]at this)
    have:=yCX this;omega
  have hg:=Qa hr2 q (r-1) hb (hr.fermat1 _ hbr);rcases hq.2 _ (yEl q (r-1))with e|e
  · rw[e, yDL]at hg
    exfalso;have hx : r ∣ a^((n-1)/q)%n + (n-1):=by
      refine yCY ?_;have e1 : (a^((n-1)/q)%n)%r=1:=by rw[yD4 _ hrn]; exact hg
      have e2 : (n-1 + 1)%r=0:=by
        rw[I.sub_add_cancel S]; exact yCX hrn
      have : (a^((n-1)/q)%n + (n-1))%r=(1 + (n-1))%r:=by
        rw[yn, e1, yn 1 (n-1), ZC hr2]
      rw[this, I.add_comm, e2]
    have:=I.dvd_gcd hx hrn;rw[h2]at this;have:=yC7 S this;omega
  rw[<-e]; exact yEd _ _
def MO{f:I}(e:1<n)(hf:n<(f+1)*(f+1))
 (k:∀r,IsP r->r ∣ n->f ∣ r-1):IsP n:=by
 obtain⟨r,c,b,h|h⟩:=uK n e
 .exact h
 have:=yC7 (oN c.1) (k r c b);have d:f+1<=r:=oN c.1;have:=qm d d;omega
/-! trial -/
def trial(n : I): I -> I -> Hc
  | 0, _ => H
  | k + 1, d => (n%d != 0) && trial n k (d + 1)
def DN{n:I}:∀k d,trial n k d=H->∀m,d<=m->m<d+k->¬m ∣ n
 | 0,_,_,m,_,_=>S
 | k+1,d,h,m,h1,h2=>by
  simp only[trial,ZD,bne_iff_ne,ne_eq]at h;rcases tE d m with b|c
  .exact DN k (d+1) h.2 m b S
  have:m=d:=S;subst this;intro hd;exact h.1 (yCX hd)
def small(g:2<=n)(f:trial n k 2=H)(i:n<(k+2)*(k+2)):IsP n:=by
 obtain⟨r,e,b,h|h⟩:=uK n g
 .exact h
 have d:=e.1;have c:r<2+k:=by
  refine xD λj=>?_
  have:=qm (show k+2<=r by omega) (show k+2<=r by omega);omega
 exact absurd b (DN k 2 f r d c)
/-! powers, reckoned -/
def pm(n : I): I -> I -> I -> I -> I
  | 0, _, _, acc => acc
  | k + 1, a, e, acc => pm n k (a * a%n) (e/2) (if e%2=1 then acc * a%n else acc)
def MP(n:I):∀k a e b,e<2^k->b<n->pm n k a e b=b*a^e%n
 | 0,a,e,b,h,ha=>by
  have:e=0:=by simpa using h
  subst this;rw[pm,rx,ri,ZC ha]
 | k+1,a,e,b,h,ha=>by
  have c:(if e%2=1 then b*a%n else b)<n:=by
   split
   .exact gD _ S
   exact ha
  rw[pm,MP n k _ _ _ (by rw[oB]at h;omega) c];have d:∀y,y*(a*a%n)^(e/2)%n=y*(a*a)^(e/2)%n:=by
   intro y;rw[tn,<-yGv,<-tn]
  rw[d];have f:a^e=a^(e%2)*(a*a)^(e/2):=by
   have:(a*a)=a^2:=by rw[oB,yDL]
   rw[this,<-yDM,<-rn,I.mod_add_div]
  rw[f];split
  .rename_i h1
   rw[h1,yDL,tn,yEF,<-tn,uj]
  rename_i h1
  have:e%2=0:=S;rw[this,rx,tF]
def part'{q a:I}(e:IsP q)(f:IsP r)(b:r ∣ n)(c:1<n)(g:n<2^k)
 (h1:pm n k a (n-1) 1=1) (hd:(n-1)%q=0) (d:yFG (pm n k a ((n-1)/q) 1+(n-1)) n=1):q ∣ r-1:=by
 rw[MP n k a (n-1) 1 S c,tF]at h1;rw[MP n k a _ 1 (yDv (yEu _ _) S) c,tF]at d;exact part e f b c h1 (yCY hd) d
/-! the two primes -/
def x21: IsP 1627771:=small (k:=1275) dC dK dC
def x30:IsP 545358713:=small (k:=23352) dC dK dC
def x26:IsP 44706919:=small (k:=6686) dC dK dC
def x17:IsP 120233:=small (k:=346) dC dK dC
def x39:IsP 297159362677:=
 MO (f:=1627771) dC dK (λr b hd=>part' (k:=39) (a:=2) x21 b hd dC dK dK dK dK)
def c95:IsP 29047611873442575647497758179:=
 MO (f:=(545358713*297159362677)) dC dK (λr b hd=>yCA dK (part' (k:=95) (a:=2) x30 b hd dC dK dK dK dK) (part' (k:=95) (a:=2) x39 b hd dC dK dK dK dK))
def b68:IsP 174723607534414371449:=
 MO (f:=(44706919*120233)) dC dK (λr b hd=>yCA dK (part' (k:=68) (a:=2) x26 b hd dC dK dK dK dK) (part' (k:=68) (a:=2) x17 b hd dC dK dK dK dK))
def c109:IsP 341948486974166000522343609283189:=
 MO (f:=29047611873442575647497758179) dC dK (λr b hd=>part' (k:=109) (a:=2) c95 b hd dC dK dK dK dK)
def pN:IsP 115792089237316195423570985008687907852837564279074904382605163141518161494337:=
 MO (f:=(174723607534414371449*341948486974166000522343609283189)) dC dK (λr b hd=>yCA dK (part' (k:=256) (a:=2) b68 b hd dC dK dK dK dK) (part' (k:=256) (a:=2) c109 b hd dC dK dK dK dK))
end NT
namespace EC
structure Line{P:I}[NeZero P](x1 y1 x2 y2 l:B P):Prop where
 go:y2=y1+l*(x2-x1)
 on:l*(y1+y2)=x1^2+x1*x2+x2^2
variable {P:Nat}[NeZero P]
def Es{x1 b x2 d l k c:B P}(h1:b^2=x1^3+7)(g:d^2=x2^3+7)(hl:Line x1 b x2 d l)(hx:k=l^2-x1-x2)(f:c=l*(x1-k)-b):c^2=k^3+7:=by
 let⟨e,h⟩:=hl
 subst f hx e
 grobner
def Rj(x1 d x2 b l1 l2 e f k i c g:B P)(q:Line x1 d x2 e l1)(o:Line x2 e b f l2)
 (p:k=l1^2-x1-x2) (n:i=l1*(x1-k)-d) (j:c=l2^2-x2-b) (m:g=l2*(x2-c)-e) :
 ((i-f)^2-(k+b)*(k-b)^2)*(c-x1)^2=((g-d)^2-(x1+c)*(c-x1)^2)*(k-b)^2:=by
 let⟨l,r⟩:=q
 let⟨e3,s⟩:=o
 subst n m p j e3 l
 grobner
def Ri(x1 c x2 k l1 l2 i d b f e g:B P)(q:Line x1 c x2 i l1)(o:Line x2 i k d l2)
 (p:b=l1^2-x1-x2) (n:f=l1*(x1-b)-c) (j:e=l2^2-x2-k) (m:g=l2*(x2-e)-i) :
 ((f-d)^2-(k+b)*(b-k)^2)*((g-c)*(b-k)-(f-d)*(e-x1))+(b-k)^2*(((f-d)*k-d*(b-k))*(e-x1)-((g-c)*x1-c*(e-x1))*(b-k))=0:=by
 let⟨l,r⟩:=q
 let⟨e3,s⟩:=o
 subst n m p j e3 l
 grobner (ringSteps:=100000000)
def OG(x1 d x2 k l1 l2 e c b f:B P)(o:Line x1 d x2 e l1)(m:Line x2 e k c l2)
 (n:k=l1^2-x1-x2) (l:c=l1*(x1-k)-d) (g:b=l2^2-x2-k) (j:f=l2*(x2-b)-e) :
 (9*k^4-8*k*c^2)*(b-x1)^2=((f-d)^2-(x1+b)*(b-x1)^2)*(4*c^2):=by
 let⟨i,p⟩:=o
 let⟨e3,q⟩:=m
 subst j g l n i
 grobner (ringSteps:=100000000)
def OE(x1 c x2 k l1 l2 e b d f:B P)(o:Line x1 c x2 e l1)(m:Line x2 e k b l2)
 (n:k=l1^2-x1-x2) (l:b=l1*(x1-k)-c) (g:d=l2^2-x2-k) (j:f=l2*(x2-d)-e) :
 (3*k^2*(k*(4*b^2)-(9*k^4-8*k*b^2))-2*b^2*(4*b^2))*(d-x1)=((f-c)*(x1*(4*b^2)-(9*k^4-8*k*b^2))-c*(d-x1)*(4*b^2))*(2*b):=by
 let⟨i,p⟩:=o
 let⟨e3,q⟩:=m
 subst j g l n i
 grobner (ringSteps:=100000000)
end EC
namespace EC
variable {P:Nat}[NeZero P]
def val_zero:(0:B P).val=0:=by simp
def val_one(h:NT.IsP P):(1:B P).val=1:=by
 have k:=h.1;show 1%P=1;exact ZC S
def nzd(h:NT.IsP P){a b:B P}(e:a*b=0):a=0\/b=0:=by
 have h1:a.val*b.val%P=0:=by
  have:=congrArg B.val e;rw[xt,val_zero]at this;exact this
 rcases h.euclid (yCY h1)with k|k
 .exact Z5 (tj (by rw[val_zero];exact yDA k a.isLt))
 exact ZW (tj (by rw[val_zero];exact yDA k b.isLt))
def bF(h:NT.IsP P){a b:B P}(k:a≠0)(c:b≠0):a*b≠0:=λe=>(nzd h e).elim k c
def cancel(h:NT.IsP P){a b c:B P}(d:a≠0)(e:b*a=c*a):b=c:=by
 have h1:(b-c)*a=0:=by grobner
 rcases nzd h h1 with k|k
 .grobner
 exact absurd k d
def inv(a:B P):B P:=B.ofNat P (a.val^(P-2))
def inv_mul(h:NT.IsP P){a:B P}(k:a≠0):inv a*a=1:=by
 apply tj;have c:=h.1;have b:¬P ∣ a.val:=λhd=>k (tj (by rw[val_zero];exact yDA hd a.isLt))
 rw[xt,val_one h];show a.val^(P-2)%P*a.val%P=1;rw[yF0,<-oB,show(P-2).succ=P-1 by omega];exact h.fermat1 _ b
abbrev Pt(P:I):=GJ (B P × B P)
def On:Pt P->Prop
 | none=>True
 | some (x,y)=>y^2=x^3+7
def neg:Pt P->Pt P
 | none=>F
 | some (x,y)=>J (x,-y)
def oO(x1 k x2 b:B P):B P:=if x1=x2 then 3*x1^2*inv (2*k) else(b-k)*inv (x2-x1)
def third(x1 k x2 l:B P):Pt P:=J (l^2-x1-x2,l*(x1-(l^2-x1-x2))-k)
def add:Pt P->Pt P->Pt P
 | none,b=>b
 | a,F=>a
 | some (x1,y1),J (x2,y2)=>if x1=x2/\y2 = -y1 then F else third x1 y1 x2 (oO x1 y1 x2 y2)
def oQ(h:NT.IsP P){x k b:B P}(h1:k^2=x^3+7)(c:b^2=x^3+7)(ho:¬b = -k):b=k:=by
 have e:(b-k)*(b+k)=0:=by grobner
 rcases nzd h e with e|e
 .grobner
 exact absurd (by grobner) ho
def yV{x k:B P}(h:NT.IsP P)(b:(2:B P)≠0)(ho:¬(x=x/\k = -k)):2*k≠0:=λe=>by
 rcases nzd h e with e|e
 .exact b e
 exact ho ⟨Z,by rw[e];grobner⟩
def bN(h:NT.IsP P)(c:(2:B P)≠0){x1 b x2 k:B P}(i:b^2=x1^3+7)(g:k^2=x2^3+7)(ho:¬(x1=x2/\k = -b)):Line x1 b x2 k (oO x1 b x2 k):=by
 unfold oO;by_cases hx:x1=x2
 .subst hx;rw[GD Z];have d:=oQ h i g (λe=>ho ⟨Z,e⟩);subst d;have f:=inv_mul h (yV h c ho);exact⟨by grobner,by grobner⟩
 rw[Id hx];have hd:x2-x1≠0:=λe=>hx (by grobner)
 have f:=inv_mul h hd;refine⟨by grobner,cancel h hd (by grobner)⟩
def EE(h:NT.IsP P)(c:(2:B P)≠0){x1 k x2 b l m:B P}(f:k^2=x1^3+7)(d:b^2=x2^3+7)(ho:¬(x1=x2/\b = -k))(L:Line x1 k x2 b l)(M:Line x1 k x2 b m):l=m:=by
 let⟨j,b1⟩:=L
 let⟨a2,i⟩:=M
 by_cases hx:x1=x2
 .subst hx;have g:=oQ h f d (λe=>ho ⟨Z,e⟩);subst g;exact cancel h (yV h c ho) (by grobner)
 have hd:x2-x1≠0:=λe=>hx (by grobner)
 exact cancel h hd (by grobner)
def bX(h:NT.IsP P)(c:(2:B P)≠0){x1 k x2 b l:B P}(e:k^2=x1^3+7)(d:b^2=x2^3+7)(ho:¬(x1=x2/\b = -k))(L:Line x1 k x2 b l):add (J (x1,k)) (J (x2,b))=third x1 k x2 l:=by
 show(if x1=x2/\b = -k then F else third x1 k x2 (oO x1 k x2 b))=_;rw[Id ho,EE h c e d ho (bN h c e d ho) L]
def jQ{x1 k x2 b:B P}(ho:x1=x2/\b = -k):add (J (x1,k)) (J (x2,b))=F:=by
 show(if x1=x2/\b = -k then F else third x1 k x2 (oO x1 k x2 b))=_;rw[GD ho]
def bO{a:Pt P}:add a F=a:=by cases a<;>rfl
def Line.swap{x1 c x2 k l:Fin P}(L:Line x1 c x2 k l):Line x2 k x1 c l:=by
 let⟨a,b⟩:=L
 exact⟨by grobner,by grobner⟩
def Fx{x1 c x2 k l:B P}(L:Line x1 c x2 k l):third x1 c x2 l=third x2 k x1 l:=by
 let⟨a,b⟩:=L
 unfold third;have d:l^2-x1-x2=l^2-x2-x1:=by grobner
 have e:l*(x1-(l^2-x1-x2))-c=l*(x2-(l^2-x2-x1))-k:=by grobner
 rw[e,d]
def add_comm(h:NT.IsP P)(c:(2:B P)≠0)(a b:Pt P)(k:On a)(f:On b):add a b=add b a:=by
 rcases a with _|⟨x1,g⟩
 .rw[bO];rfl
 rcases b with _|⟨x2,i⟩
 .rfl
 by_cases ho:x1=x2/\i = -g
 .rw[jQ ho,jQ ⟨ho.1.symm,by rw[ho.2];grobner⟩]
 have d:¬(x2=x1/\g = -i):=λe=>ho ⟨e.1.symm,by rw[e.2];grobner⟩
 have L:=bN h c k f ho;rw[bX h c k f ho L,bX h c f k d L.swap,Fx L]
def Hy{a b:Pt P}(h:NT.IsP P)(e:(2:B P)≠0)(k:On a)(c:On b):On (add a b):=by
 rcases a with _|⟨x1,d⟩
 .exact c
 rcases b with _|⟨x2,f⟩
 .exact k
 by_cases ho:x1=x2/\f = -d
 .rw[jQ ho];trivial
 have L:=bN h e k c ho;rw[bX h e k c ho L];exact Es k c L Z Z
def dQ{a:Pt P}(h:On a):On (neg a):=by
 rcases a with _|⟨x,y⟩
 .trivial
 have k:y^2=x^3+7:=h;show(-y)^2=x^3+7
 grobner
def neg_neg'(a:Pt P):neg (neg a)=a:=by
 rcases a with _|⟨x,y⟩
 .rfl
 show J (x,- -y)=J (x,y);have:- -y=y:=by grobner
 rw[this]
def add_neg(a:Pt P):add a (neg a)=F:=by
 rcases a with _|⟨x,y⟩
 .rfl
 exact jQ ⟨Z,Z⟩
def Line.neg{x1 c x2 k l:Fin P}(L:Line x1 c x2 k l):Line x1 (-c) x2 (-k) (-l):=by
 let⟨a,b⟩:=L
 exact⟨by grobner,by grobner⟩
def neg_add(h:NT.IsP P)(f:(2:B P)≠0){a b:Pt P}(d:On a)(i:On b):neg (add a b)=add (neg a) (neg b):=by
 rcases a with _|⟨x1,k⟩
 .rfl
 rcases b with _|⟨x2,c⟩
 .rfl
 by_cases ho:x1=x2/\c = -k
 .rw[jQ ho];exact(jQ ⟨ho.1,by rw[ho.2]⟩).symm
 have L:=bN h f d i ho;have g:¬(x1=x2/\-c = - -k):=λe=>ho ⟨e.1,by have:=e.2;grobner⟩
 rw[bX h f d i ho L];refine Eq.trans ?_ (bX h f (dQ (a:=J (x1,k)) d) (dQ (a:=J (x2,c)) i) g L.neg).symm;generalize oO x1 k x2 c=l;unfold third;show J (l^2-x1-x2,-(l*(x1-(l^2-x1-x2))-k))=J ((-l)^2-x1-x2,-l*(x1-((-l)^2-x1-x2)) - -k);have j:(-l)^2=l^2:=by grobner
 rw[j];have m:-(l*(x1-(l^2-x1-x2))-k) = -l*(x1-(l^2-x1-x2)) - -k:=by grobner
 rw[m]
def Line.back{x2 k d g l c e:Fin P}(L:Line x2 k d g l)(f:c=l^2-x2-d)(i:e=l*(x2-c)-k):Line x2 (-k) c e (-l):=by
 let⟨a,b⟩:=L
 subst i f a;exact⟨by grobner,by grobner (ringSteps:=10000000)⟩
def U6{x2 k b l:B P}(c:b=l^2-x2-k):(-l)^2-x2-b=k:=by
 subst c
 grobner
def U5{x2 b c k l:B P}(a:k=c+l*(b-x2)):-l*(x2-b) - -c=k:=by
 subst a
 grobner
def Uh{x y:B P}(z:y=0)(k:y^2=x^3+7):x^3+7=0:=by
 grobner
def Ew(h:NT.IsP P)(g:(2:B P)≠0)(w:∀x:B P,x^3+7≠0){b c:Pt P}(f:On b)(m:On c):add (neg b) (add b c)=c:=by
 rcases b with _|⟨x2,d⟩
 .rfl
 rcases c with _|⟨i,o⟩
 .rw[bO];exact jQ ⟨Z,by grobner⟩
 have r:=f;have t:=m;by_cases ho:x2=i/\o = -d
 .rw[jQ ho,bO,ho.1,ho.2];rfl
 have L:=bN h g f m ho;have k:=Es f m L Z Z;rw[bX h g f m ho L];generalize oO x2 d i o=l at L k;let⟨j,n⟩:∃j,j=l^2-x2-i:=⟨_,Z⟩
 unfold third;rw[<-n]at k⊢;let⟨p,s⟩:∃p,p=l*(x2-j)-d:=⟨_,Z⟩
 rw[<-s]at k⊢;have a:=L.go;have q:¬(x2=j/\p = - -d):=λe=>by
  let⟨u,v⟩:=e
  have z:2*d=0:=by
   grobner
  rcases nzd h z with z|z
  .exact g z
  exact w x2 (Uh z r)
 refine(bX h g (dQ (a:=J (x2,d)) f) k q (L.back n s)).trans ?_;rw[third,U6 n,U5 a]
def WO(h:NT.IsP P){x1 b k c j i l m l3 e:B P}(g:k-b≠0)(f:c-x1≠0)(n:l-i=l3*(k-b))(d:m-j=e*(c-x1))
 (hx:((l-i)^2-(k+b)*(k-b)^2)*(c-x1)^2=((m-j)^2-(x1+c)*(c-x1)^2)*(k-b)^2):l3^2-k-b=e^2-x1-c:=by
 rw[n,d]at hx;clear n d;refine cancel h (bF h (bF h g g) (bF h f f)) ?_
 grobner
def WN(h:NT.IsP P){x1 k c j g f i m l3 n X:B P}(l:c-k≠0)(s:j-x1≠0)(u:i-f=l3*(c-k))(r:m-g=n*(j-x1))(p:l3^2-c-k=X)
 (d:((i-f)^2-(k+c)*(c-k)^2)*((m-g)*(c-k)-(i-f)*(j-x1))+(c-k)^2*(((i-f)*k-f*(c-k))*(j-x1)-((m-g)*x1-g*(j-x1))*(c-k))=0):l3*(c-X)-i=n*(x1-X)-g:=by
 rw[u,r]at d;have t:i=f+l3*(c-k):=by clear d p;grobner
 have o:c+k=l3^2-X:=by clear d;grobner
 rw[t];let⟨a,w⟩:∃a,c-k=a:=⟨_,Z⟩
 rw[w]at l d⊢;generalize j-x1=b at s d;have q:(n*(x1-X)-g-(l3*(k-X)-f))*(a*a*a*b)=0:=by
  have v:k+c=l3^2-X:=by rw[<-o];clear d;grobner
  rw[v]at d
  grobner
 rcases nzd h q with e|e
 .have v:c=k+a:=by clear d q e o t p u r;grobner
  rw[v]
  grobner
 exact absurd e (bF h (bF h (bF h l l) l) s)
def Xl(h:NT.IsP P){x1 b c i k j l3 d:B P}(f:2*k≠0)(g:c-x1≠0)(l:l3*(2*k)=3*b^2)(m:j-i=d*(c-x1))
 (hx:(9*b^4-8*b*k^2)*(c-x1)^2=((j-i)^2-(x1+c)*(c-x1)^2)*(4*k^2)):l3^2-b-b=d^2-x1-c:=by
 rw[m]at hx;refine cancel h (bF h (bF h f f) (bF h g g)) ?_;have e:9*b^4=(l3*(2*k))*(l3*(2*k)):=by rw[l];clear hx l;grobner
 rw[e]at hx
 grobner
def Xj(h:NT.IsP P){x1 b f c k m l3 j X:B P}(g:2*k≠0)(o:f-x1≠0)(d:l3*(2*k)=3*b^2)(n:m-c=j*(f-x1))(l:l3^2-b-b=X)
 (i:(3*b^2*(b*(4*k^2)-(9*b^4-8*b*k^2))-2*k^2*(4*k^2))*(f-x1)=((m-c)*(x1*(4*k^2)-(9*b^4-8*b*k^2))-c*(f-x1)*(4*k^2))*(2*k)):l3*(b-X)-k=j*(x1-X)-c:=by
 rw[n]at i;have e:9*b^4-8*b*k^2=X*(4*k^2):=by
  have p:9*b^4=(l3*(2*k))*(l3*(2*k)):=by rw[d];clear i d;grobner
  rw[p,<-l]
  grobner
 rw[e,<-d]at i;clear e d l;refine cancel h (bF h (bF h (bF h g g) g) o) ?_
 grobner
def rR{a b:B P}(h:¬a=b):a-b≠0:=λe=>h (by grobner)
def Line.run{x1 b x2 k l:Fin P}(L:Line x1 b x2 k l):k-b=l*(x2-x1)/\b-k=l*(x1-x2):=by
 obtain⟨a,-⟩:=L;exact⟨by grobner,by grobner⟩
def Line.at{x y l:Fin P}(L:Line x y x y l):l*(2*y)=3*x^2:=by
 obtain⟨-,b⟩:=L
 grobner
def Ti{m l d:B P}(s:m^2=l^2):(m*d)^2=(l*d)^2:=by grobner
def QJ{k b:B P}(s:(k - -b)^2=(k-b)^2):4*(k*b)=0:=by grobner
def YE{m l x1 x2 k:B P}(r:m^2-x2-x1=k)(e:k=l^2-x1-x2):m^2=l^2:=by grobner
def VK{x l a b:B P}(e:x=l^2-a-b):x=l^2-b-a:=by grobner
def VJ{x2 c b k e d l:B P}(L:Line x2 c b k l)(f:d=l*(x2-e)-c):d=l*(b-e)-k:=by
 obtain⟨a,-⟩:=L
 grobner
def four_ne(h:NT.IsP P)(k:(2:B P)≠0):(4:B P)≠0:=λe=>by
 have:(2:B P)*2=0:=by grobner
 rcases nzd h this with e|e<;>exact k e
def Er{y z:B P}(e:y = -z):z = -y:=by grobner
def Ck(h:NT.IsP P)(l:(2:B P)≠0){x1 c x2 i d f l1 l2 k j b g:B P}(y:f^2=d^3+7)(L:c^2=x1^3+7)
 (v:Line x1 c x2 i l1) (s:Line x2 i d f l2) (u:k=l1^2-x1-x2) (r:j=l1*(x1-k)-c) (o:b=l2^2-x2-d) (p:g=l2*(x2-b)-i)
 (z:j^2=k^3+7) (a:g^2=b^3+7) (q:¬(k=d/\f = -j)) (K:¬(x1=b/\g = -c)) (hx:¬b=x1) :
 add (J (k,j)) (J (d,f))=add (J (x1,c)) (J (b,g)):=by
 have m:=bN h l z y q;have n:=bN h l L a K;rw[bX h l z y q m,bX h l L a K n];unfold third;by_cases hd:k=d
 .have N:=oQ h z (hd ▸ y) (λe=>q ⟨hd,e⟩);subst hd N;have t:=yV (x:=k) h l q;have w:=Xl h t (rR hx) m.at n.run.1 (OG x1 c x2 k l1 l2 i f b g v s u r o p);have M:=Xj h t (rR hx) m.at n.run.1 Z (OE x1 c x2 k l1 l2 i f b g v s u r o p);rw[M,w]
 have w:=WO h (rR hd) (rR hx) m.run.2 n.run.1 (Rj x1 c x2 d l1 l2 i f k j b g v s u r o p);rw[WN h (rR hd) (rR hx) m.run.2 n.run.1 Z (Ri x1 c x2 d l1 l2 i f k j b g v s u r o p),w]
def add_assoc(h:NT.IsP P)(j:(2:B P)≠0)(h7:∀x:B P,x^3+7≠0)(a b c:Pt P)(g:On a)(k:On b)(l:On c):add (add a b) c=add a (add b c):=by
 have comm:=λ(a b:Pt P) (g:On a) (k:On b)=>add_comm h j a b g k
 have f:=Hy h j g k;have i:=Hy h j k l;have Q:∀ {u v:Pt P},On u->On v->add (neg u) (add u v)=v:=λhu hv=>Ew h j h7 hu hv
 by_cases z1:b=neg a
 .subst z1;rw[add_neg];have:=Q k l;rw[neg_neg']at this;exact this.symm
 by_cases z2:c=neg b
 .subst z2;rw[add_neg,bO,comm _ _ f l,comm a b g k];exact Q k g
 by_cases t:c=neg (add a b)
 .subst t;rw[add_neg];have e:add b (neg (add a b))=neg a:=by
   rw[comm a b g k,neg_add h j k g];have:=Q (dQ k) (dQ g);rw[neg_neg']at this;exact this
  rw[e,add_neg]
 by_cases q:add b c=neg a
 .rw[q,add_neg];have e:a=neg (add b c):=by rw[q,neg_neg']
  have n:add a b=neg c:=by
   rw[comm a b g k,e,neg_add h j k l];have:=Q (dQ k) (dQ l);rw[neg_neg']at this;exact this
  rw[n,comm _ _ (dQ l) l,add_neg]
 rcases a with _|⟨x1,p⟩
 .rfl
 rcases b with _|⟨x2,n⟩
 .rfl
 rcases c with _|⟨s,N⟩
 .rw[bO,bO]
 have w1:¬(x1=x2/\n = -p):=λe=>z1 (by rw[e.1,e.2];rfl)
 have w2:¬(x2=s/\N = -n):=λe=>z2 (by rw[e.1,e.2];rfl)
 have A:=bN h j g k w1;have T:=bN h j k l w2;have w:=bX h j g k w1 A;have C:=bX h j k l w2 T;rw[w]at f t⊢;rw[C]at i q⊢;generalize oO x1 p x2 n=l1 at A w f t⊢;generalize oO x2 n s N=l2 at T C i q⊢;unfold third at f i t q w C⊢;let⟨L,V⟩:∃L,L=l1^2-x1-x2:=⟨_,Z⟩
 let⟨O,e5⟩:∃O,O=l2^2-x2-s:=⟨_,Z⟩
 rw[<-V]at f t w⊢;rw[<-e5]at i q C⊢;let⟨y4,f4⟩:∃y4,y4=l1*(x1-L)-p:=⟨_,Z⟩
 let⟨X,f5⟩:∃X,X=l2*(x2-O)-n:=⟨_,Z⟩
 rw[<-f4]at f t w⊢;rw[<-f5]at i q C⊢;have w3:¬(L=s/\N = -y4):=λe=>t (by rw[e.2,<-e.1];rfl)
 have w4:¬(x1=O/\X = -p):=λe=>q (by rw[e.2,<-e.1];rfl)
 by_cases hx:O=x1
 .have hy:X=p:=by
   have r:=i;rw[hx]at r;exact oQ h g r (λe=>w4 ⟨hx.symm,e⟩)
  by_cases hd:L=s
  .exfalso;have h3:N=y4:=by
    exact oQ h f (hd ▸ l) (λe=>w3 ⟨hd,e⟩)
   have W:=Q k l;rw[C,hx,hy]at W;rw[hd,<-h3]at w;have h0:¬x1=x2:=λe=>by
    subst e;have r:=oQ h g k (λe=>w1 ⟨Z,e⟩);subst r;rw[comm _ _ (dQ k) g,add_neg]at W;cases W
   have u1:¬(x2=x1/\p = - -n):=λe=>h0 e.1.symm
   have M:=bN h j (dQ (a:=J (x2,n)) k) g u1;have K:third x2 (-n) x1 (oO x2 (-n) x1 p)=J (s,N):=(bX h j (dQ (a:=J (x2,n)) k) g u1 M).symm.trans W;generalize oO x2 (-n) x1 p=m at M K;unfold third at K;have r4:m^2-x2-x1=s:=by injection K with K;injection K
   rw[hd]at V;have s2:=Ti (d:=x1-x2) (YE r4 V);rw[<-M.run.1,<-A.run.2]at s2;have r:∀ {x y:B P},y^2=x^3+7->y≠0:=λo z=>h7 _ (Uh z o)
   rcases nzd h (QJ s2)with e|e
   .exact four_ne h j e
   rcases nzd h e with e|e
   .exact r g e
   exact r k e
  -- the same,from the other side
  rw[comm _ _ f l,comm _ _ g i];exact(Ck h j g l T.swap A.swap (VK e5) (VJ T f5) (VK V) (VJ A f4) i f (λe=>w4 ⟨e.1.symm,Er e.2⟩) (λe=>w3 ⟨e.1.symm,Er e.2⟩) hd).symm
 exact Ck h j l g A T V f4 e5 f5 f i w3 w4 hx
structure Cur(P:I)[NeZero P]:Prop where
 pr:NT.IsP P
 two:(2:B P)≠0
 sev:∀x:B P,x^3+7≠0
def Cur.y_ne(C:Cur P){a b:Fin P}(h:On (J (a,b))):b≠0:=λe=>C.sev a (Uh e h)
def Cur.opp_ne(C:Cur P){a b:Fin P}(h:On (J (a,b))):¬(a=a/\b = -b):=λe=>by
 have h1:2*b=0:=by
  have:=e.2
  grobner
 exact bF C.pr C.two (C.y_ne h) h1
def Jac(x y z:B P):Pt P->Prop
 | none=>z=0
 | some (a,b)=>z≠0/\x=a*z^2/\y=b*z^3
def Frac(x y z:B P):Pt P->Prop
 | none=>z=0
 | some (a,b)=>z≠0/\x=a*z/\y=b*z
def Pair(x y:B P):Pt P->Prop
 | none=>x=0/\y=0
 | some (a,b)=>x=a/\y=b
def dbl(n:B P):B P:=n+n
def twB(x y:B P):B P:=dbl (dbl (x*(y*y)))
def twS(x:B P):B P:=dbl (x*x)+x*x
def twX(x y:B P):B P:=twS x*twS x-dbl (twB x y)
def twY(x y:B P):B P:=twS x*(twB x y-twX x y)-dbl (dbl (dbl (y*y*(y*y))))
def twZ(y z:B P):B P:=dbl (y*z)
def Ye{a b l x y z:B P}(g:l*(2*b)=3*a^2)(k:x=a*z^2)(c:y=b*z^3):twX x y=(l^2-a-a)*twZ y z^2:=by
 subst k c;unfold twX twS twB twZ dbl
 grobner (ringSteps:=100000000)
def Yd{a b l x y z X:B P}(g:l*(2*b)=3*a^2)(k:x=a*z^2)(c:y=b*z^3)(d:twX x y=X*twZ y z^2):twY x y=(l*(a-X)-b)*twZ y z^3:=by
 subst k c;rw[twY,d];unfold twS twB twZ dbl
 grobner (ringSteps:=100000000)
def Yc(C:Cur P){b y z:B P}(d:b≠0)(k:z≠0)(c:y=b*z^3):twZ y z≠0:=λe=>by
 have h1:2*b*(z*z*(z*z))=0:=by
  unfold twZ dbl at e;subst c
  grobner
 exact bF C.pr (bF C.pr C.two d) (bF C.pr (bF C.pr k k) (bF C.pr k k)) h1
def Jac.twice(C:Cur P){x y z:Fin P}{p:Pt P}(h:Jac x y z p)(k:On p):Jac (twX x y) (twY x y) (twZ y z) (add p p):=by
 match p,h,k with
 | none,h,_ =>
  have c:=h;show twZ y z=0;subst c;unfold twZ dbl
  grobner
 | some (a,b),h,k =>
  let⟨e,d,c⟩:=h
  have ho:=C.opp_ne k;have L:=bN C.pr C.two k k ho;rw[bX C.pr C.two k k ho L];have hx:=Ye L.at d c;exact⟨Yc C (C.y_ne k) e c,hx,Yd L.at d c hx⟩
def dE(x1 k:B P):B P:=x1*(k*k)
def fF(b k:B P):B P:=b*(k*k)*k
def plX(k c bx b:B P):B P:=(b-c)*(b-c)-(bx-k)*(bx-k)*(bx-k)-dbl ((bx-k)*(bx-k)*k)
def plY(k b bx c:B P):B P:=(c-b)*((bx-k)*(bx-k)*k-plX k b bx c)-(bx-k)*(bx-k)*(bx-k)*b
def plZ(b c k bx:B P):B P:=b*c*(bx-k)
def Yx{a b c d l t k f bx e Z:B P}(g:d-b=l*(c-a))(j:k=a*t^2)(o:f=b*t^3)(e3:bx=c*t^2)(m:e=d*t^3)(n:Z=t*(bx-k)):plX k f bx e=(l^2-a-c)*Z^2:=by
 have i:d=b+l*(c-a):=by grobner
 subst i j o e3 m n;unfold plX dbl
 grobner (ringSteps:=100000000)
def Yw{a b c d l t k f bx e Z X:B P}(g:d-b=l*(c-a))(o:k=a*t^2)(m:f=b*t^3)(e3:bx=c*t^2)(p:e=d*t^3)(n:Z=t*(bx-k))(j:plX k f bx e=X*Z^2):plY k f bx e=(l*(a-X)-b)*Z^3:=by
 rw[plY,j];have i:d=b+l*(c-a):=by grobner
 subst i o m e3 p n
 grobner (ringSteps:=100000000)
def CP(C : Cur P){a c t : B P}(ht : t ≠ 0)(e : a * t ^ k = c * t ^ k): a = c := by
  have hk : ∀k : I, t ^ k ≠ 0 := λk => by
    induction k with
    | zero => intro h; exact ht (by have h2 : (1 : B P) = 0 := by { rw [← h]; grind }; calc t = t * 1 := by grobner
                                    _ = 0 := by rw [h2]; grobner)
    | succ k ih => intro h; exact bF C.pr ih ht (by rw [<-h]; grind)
  exact cancel C.pr (hk k) e
def Jac.plus(C:Cur P){x1 l f x2 m e:Fin P}{p q:Pt P}(h:Jac x1 l f p)(j:On p)(v:Jac x2 m e q)(i:On q)(A:f≠0)(K:e≠0):
 (dE x1 e=dE x2 f/\fF l e=fF m f/\add p q=add p p) \/
 (¬(dE x1 e=dE x2 f/\fF l e=fF m f)/\Jac (plX (dE x1 e) (fF l e) (dE x2 f) (fF m f)) (plY (dE x1 e) (fF l e) (dE x2 f) (fF m f)) (plZ f e (dE x1 e) (dE x2 f)) (add p q)):=by
 match p,q,h,j,v,i with
 | none,_,h,_,_,_=>exact absurd h A
 | some (a,b),F,_,_,h,_=>exact absurd h K
 | some (a,b),J (c,d),h,j,v,i =>
  obtain⟨-,y,w⟩:=h;obtain⟨-,u,t⟩:=v;have o:=bF C.pr A K;have n:dE x1 e=a*(f*e)^2:=by subst y;unfold dE;clear j i;grobner
  have r:fF l e=b*(f*e)^3:=by subst w;unfold fF;clear j i;grobner
  have e3:dE x2 f=c*(f*e)^2:=by subst u;unfold dE;clear j i;grobner
  have s:fF m f=d*(f*e)^3:=by subst t;unfold fF;clear j i;grobner
  by_cases hs:dE x1 e=dE x2 f/\fF l e=fF m f
  .refine Z5 ⟨hs.1,hs.2,?_⟩;have h1:a=c:=CP C o (by rw[<-n,<-e3];exact hs.1);have g:b=d:=CP C o (by rw[<-r,<-s];exact hs.2);rw[h1,g]
  refine ZW ⟨hs,?_⟩;by_cases g:a=c
  .have hd:d = -b:=xD λz=>hs ⟨by rw[n,e3,g],by
    have:=oQ C.pr (x:=a) j (by rw[g];exact i) z;rw[r,s,this]⟩
   rw[jQ ⟨g,hd⟩];show plZ _ _ _ _=0;rw[n,e3,g];unfold plZ
   grobner
  have ho:¬(a=c/\d = -b):=λh=>g h.1
  have L:=bN C.pr C.two j i ho;rw[bX C.pr C.two j i ho L];have z:plZ f e (dE x1 e) (dE x2 f)=f*e*(dE x2 f-dE x1 e):=rfl;have hx:=Yx L.run.1 n r e3 s z;refine⟨?_,hx,Yw L.run.1 n r e3 s z hx⟩;rw[z];refine bF C.pr o (λh=>g ?_);exact CP C (k:=2) o (by rw[<-n,<-e3];clear j i L hx;grobner)
def Jac.zero(C:Cur P){x y z:Fin P}{p:Pt P}(h:Jac x y z p)(k:z=0):p=F:=by
 match p,h with
 | none,_=>rfl
 | some (a,b),h=>exact absurd k h.1
def Jac.neg{x y z:Fin P}{p:Pt P}(h:Jac x y z p):Jac x (0-y) z (neg p):=by
 match p,h with
 | none,h=>exact h
 | some (a,b),h=>exact⟨h.1,h.2.1,by have:=h.2.2;show 0-y = -b*z^3;grobner⟩
def inv_zero(C:Cur P):inv (0:B P)=0:=by
 apply tj;have k:=C.pr.1;show(0:B P).val^(P-2)%P=_;rw[val_zero];by_cases h:P=2
 .exact absurd (tj (by rw[val_zero];show 2%P=0;rw[h])) C.two
 rw[yGm S,yp]
def Jac.pair(C:Cur P){x y z:Fin P}{p:Pt P}(h:Jac x y z p):Pair (x*(inv z*inv z)) (y*(inv z*inv z)*inv z) p:=by
 match p,h with
 | none,h =>
  have k:=h;subst k;rw[inv_zero C];exact⟨by grobner,by grobner⟩
 | some (a,b),h =>
  have d:=inv_mul C.pr h.1;obtain⟨-,k,c⟩:=h;subst k c;exact⟨by grobner,by grobner⟩
def Pair.jac(C:Cur P){x y:Fin P}{p:Pt P}(h:Pair x y p)(d:¬(x=0/\y=0)):Jac x y 1 p:=by
 match p,h with
 | none,h=>exact absurd h d
 | some (a,b),h =>
  let⟨k,c⟩:=h
  subst k c;refine⟨λe=>?_,by grobner,by grobner⟩;have:=congrArg Fin.val e;rw[val_zero,val_one C.pr]at this;omega
def Pair.nothing(C:Cur P){x y:Fin P}{p:Pt P}(h:Pair x y p)(k:On p)(d:x=0/\y=0):p=F:=by
 match p,h,k with
 | none,_,_=>rfl
 | some (a,b),h,k =>
  let⟨e,c⟩:=h
  exact absurd (by rw[<-c];exact d.2) (C.y_ne k)
/- The reference's fractions. -/
def frT(d e w v2 : B P): B P:=d * d * w-e * e * e-(v2 + v2) * (e * e)
def YQ{a b c d l w v v2 u u2:B P}(g:d-b=l*(c-a))(e:v2=a*w)(i:u2=b*w)(e3:v=c*w)(f:u=d*w):(v-v2)*frT (u-u2) (v-v2) w v2=(l^2-a-c)*((v-v2)*(v-v2)*(v-v2)*w):=by
 have k:d=b+l*(c-a):=by grobner
 subst k e i e3 f;unfold frT
 grobner (ringSteps:=100000000)
def YP{a b c d l w v v2 u u2:B P}(g:d-b=l*(c-a))(e:v2=a*w)(i:u2=b*w)(e3:v=c*w)(f:u=d*w):
 (u-u2)*(v2*((v-v2)*(v-v2))-frT (u-u2) (v-v2) w v2)-u2*((v-v2)*(v-v2)*(v-v2))=(l*(a-(l^2-a-c))-b)*((v-v2)*(v-v2)*(v-v2)*w):=by
 have k:d=b+l*(c-a):=by grobner
 subst k e i e3 f;unfold frT
 grobner (ringSteps:=100000000)
def fdD(x:B P):B P:=x*x+x*x+x*x
def fdE(y z:B P):B P:=(y+y)*z
def fdT(x y z:B P):B P:=fdD x*fdD x*z-(x+x)*(fdE y z*fdE y z)
def YS{a b l x y z:B P}(g:l*(2*b)=3*a^2)(k:x=a*z)(c:y=b*z):fdE y z*fdT x y z=(l^2-a-a)*(fdE y z*fdE y z*fdE y z*z):=by
 subst k c;unfold fdT fdD fdE
 grobner (ringSteps:=100000000)
def YT{a b l x y z:B P}(g:l*(2*b)=3*a^2)(k:x=a*z)(c:y=b*z):fdT x y z=(l^2-a-a)*(fdE y z*fdE y z*z):=by
 subst k c;unfold fdT fdD fdE
 grobner (ringSteps:=100000000)
def YR{a b l x y z X:B P}(g:l*(2*b)=3*a^2)(k:x=a*z)(c:y=b*z)(hT:fdT x y z=X*(fdE y z*fdE y z*z)):
 fdD x*(x*(fdE y z*fdE y z)-fdT x y z)-y*(fdE y z*fdE y z*fdE y z)=(l*(a-X)-b)*(fdE y z*fdE y z*fdE y z*z):=by
 rw[hT];subst k c;unfold fdD fdE
 grobner (ringSteps:=100000000)
def Frac.zero{x y z:Fin P}{p:Pt P}(h:Frac x y z p)(k:z=0):p=F:=by
 match p,h with
 | none,_=>rfl
 | some (a,b),h=>exact absurd k h.1
def Frac.double(C:Cur P){x y z:Fin P}{p:Pt P}(h:Frac x y z p)(k:On p)(d:z≠0):
 Frac (fdE y z*fdT x y z) (fdD x*(x*(fdE y z*fdE y z)-fdT x y z)-y*(fdE y z*fdE y z*fdE y z)) (fdE y z*fdE y z*fdE y z*z) (add p p):=by
 match p,h,k with
 | none,h,_=>exact absurd h d
 | some (a,b),h,k =>
  obtain⟨-,f,c⟩:=h;have ho:=C.opp_ne k;have L:=bN C.pr C.two k k ho;rw[bX C.pr C.two k k ho L];have g:fdE y z≠0:=λe=>by
   refine bF C.pr (bF C.pr C.two (C.y_ne k)) (bF C.pr d d) ?_;unfold fdE at e;subst c
   grobner
  exact⟨bF C.pr (bF C.pr (bF C.pr g g) g) d,YS L.at f c,YR L.at f c (YT L.at f c)⟩
def Frac.plus(C:Cur P){x1 i e x2 l k:Fin P}{p q:Pt P}(h:Frac x1 i e p)(j:On p)(y:Frac x2 l k q)(g:On q)(M:e≠0)(N:k≠0):
 (x2*e=x1*k/\¬l*e=i*k/\add p q=F)\/(x2*e=x1*k/\l*e=i*k/\¬l*e=0/\add p q=add p p) \/
 (¬x2*e=x1*k/\Frac ((x2*e-x1*k)*frT (l*e-i*k) (x2*e-x1*k) (e*k) (x1*k))
  ((l*e-i*k)*(x1*k*((x2*e-x1*k)*(x2*e-x1*k))-frT (l*e-i*k) (x2*e-x1*k) (e*k) (x1*k))-i*k*((x2*e-x1*k)*(x2*e-x1*k)*(x2*e-x1*k)))
  ((x2*e-x1*k)*(x2*e-x1*k)*(x2*e-x1*k)*(e*k)) (add p q)):=by
 match p,q,h,j,y,g with
 | none,_,h,_,_,_=>exact absurd h M
 | some (a,b),F,_,_,h,_=>exact absurd h N
 | some (a,b),J (c,d),h,j,y,g =>
  obtain⟨-,A,z⟩:=h;obtain⟨-,w,t⟩:=y;have n:=bF C.pr M N;have s:x1*k=a*(e*k):=by subst A;clear j g;grobner
  have o:i*k=b*(e*k):=by subst z;clear j g;grobner
  have e3:x2*e=c*(e*k):=by subst w;clear j g;grobner
  have m:l*e=d*(e*k):=by subst t;clear j g;grobner
  generalize x1*k=v2 at *;generalize i*k=u2 at *;generalize x2*e=v at *;generalize l*e=u at *;by_cases hs:v=v2
  .have f:a=c:=cancel C.pr n (by rw[<-s,<-e3,hs]);by_cases r:u=u2
   .have K:b=d:=cancel C.pr n (by rw[<-o,<-m,r]);refine ZW (Z5 ⟨hs,r,?_,by rw[f,K]⟩);rw[m];exact bF C.pr (C.y_ne g) n
   refine Z5 ⟨hs,r,jQ ⟨f,?_⟩⟩;exact xD λK=>r (by
    have:=oQ C.pr (x:=a) j (by rw[f];exact g) K;rw[m,o,this])
  refine ZW (ZW ⟨hs,?_⟩);have f:¬a=c:=λh=>hs (by rw[e3,s,h])
  have ho:¬(a=c/\d = -b):=λh=>f h.1
  have L:=bN C.pr C.two j g ho;rw[bX C.pr C.two j g ho L];have hd:=rR hs;exact⟨bF C.pr (bF C.pr (bF C.pr hd hd) hd) n,YQ L.run.1 s o e3 m,YP L.run.1 s o e3 m⟩
def Frac.neg{x y z:Fin P}{p:Pt P}(h:Frac x y z p):Frac x (0-y) z (neg p):=by
 match p,h with
 | none,h=>exact h
 | some (a,b),h=>exact⟨h.1,h.2.1,by have:=h.2.2;show 0-y = -b*z;grobner⟩
def mul:I->Pt P->Pt P
 | 0,_=>F
 | n+1,a=>add (mul n a) a
def kJ:On (F:Pt P):=trivial
def pJ{a:Pt P}:add F a=a:=rfl
def Cur.on(C:Cur P){a b:Pt P}(k:On a)(c:On b):On (add a b):=Hy C.pr C.two k c
def Cur.comm(C:Cur P){a b:Pt P}(k:On a)(c:On b):add a b=add b a:=add_comm C.pr C.two a b k c
def Cur.assoc(C:Cur P){a b c:Pt P}(k:On a)(d:On b)(e:On c):add (add a b) c=add a (add b c):=add_assoc C.pr C.two C.sev a b c k d e
def Cur.neg_l(C:Cur P){a:Pt P}(k:On a):add (neg a) a=F:=by
 rw[C.comm (dQ k) k,add_neg]
def Cur.swap(C:Cur P){a b c d:Pt P}(f:On a)(k:On b)(e:On c)(hd:On d):add (add a b) (add c d)=add (add a c) (add b d):=by
 rw[C.assoc f k (C.on e hd),<-C.assoc k e hd,C.comm k e,C.assoc e k hd,<-C.assoc f e (C.on k hd)]
def fC(C:Cur P){a:Pt P}(k:On a):∀n,On (mul n a)
 | 0=>kJ
 | n+1=>C.on (fC C k n) k
def mul_add(C:Cur P){a:Pt P}(k:On a)(m:I):∀n,mul (m+n) a=add (mul m a) (mul n a)
 | 0=>(bO).symm
 | n+1=>by
  show add (mul (m+n) a) a=add (mul m a) (add (mul n a) a);rw[mul_add C k m n,C.assoc (fC C k m) (fC C k n) k]
def eF:Y->Pt P->Pt P
 | .ofNat n,a=>mul n a
 | .negSucc n,a=>neg (mul (n+1) a)
def kE(C:Cur P){a:Pt P}(k:On a):∀n,On (eF n a)
 | .ofNat n=>fC C k n
 | .negSucc n=>dQ (fC C k (n+1))
def qL(C:Cur P){a:Pt P}(k:On a):∀n,eF (n+1) a=add (eF n a) a
 | .ofNat n=>rfl
 | .negSucc 0=>by
  show(F:Pt P)=add (neg (add F a)) a;rw[pJ,C.neg_l k]
 | .negSucc (n+1)=>by
  show neg (mul (n+1) a)=add (neg (add (mul (n+1) a) a)) a;have h1:=fC C k (n+1);rw[neg_add C.pr C.two h1 k,C.assoc (dQ h1) (dQ k) k,C.neg_l k,bO]
def uX(C:Cur P){a:Pt P}(k:On a)(n:Y):eF (n-1) a=add (eF n a) (neg a):=by
 have h:=qL C k (n-1);rw[Y.sub_add_cancel]at h;rw[h,C.assoc (kE C k _) k (dQ k),add_neg,bO]
def DD(C:Cur P){a:Pt P}(k:On a)(m:Y):∀n:I,eF (m+n) a=add (eF m a) (eF n a)
 | 0=>by rw[px,yEp];exact(bO).symm
 | n+1=>by
  rw[show m+((n+1:I):Y)=(m+n)+1 by omega,qL C k,DD C k m n,show((n+1:I):Y)=(n:Y)+1 by omega,qL C k,
   C.assoc (kE C k _) (kE C k _) k]
def DC(C:Cur P){a:Pt P}(k:On a):∀n:I,eF (-(n:Y)) a=neg (eF n a)
 | 0=>rfl
 | n+1=>by
  have h1:eF (((n+1:I):Y)) a=add (eF n a) a:=by rw[show((n+1:I):Y)=(n:Y)+1 by omega,qL C k]
  rw[h1,neg_add C.pr C.two (kE C k _) k,<-DC C k n,show -((n+1:I):Y) = -(n:Y)-1 by omega,uX C k]
def Dx(C:Cur P){a:Pt P}(k:On a)(m:Y):∀n:I,eF (m-n) a=add (eF m a) (eF (-(n:Y)) a)
 | 0=>by rw[px,Y.sub_zero];exact(bO).symm
 | n+1=>by
  rw[show m-((n+1:I):Y)=(m-n)-1 by omega,uX C k,Dx C k m n,show -((n+1:I):Y) = -(n:Y)-1 by omega,uX C k,
   C.assoc (kE C k _) (kE C k _) (dQ k)]
def yR(C:Cur P){a:Pt P}(b:On a)(m n:Y):eF (m+n) a=add (eF m a) (eF n a):=by
 rcases Y.le_total 0 n with h|h
 .obtain⟨k,rfl⟩:=yE5 h;exact DD C b m k
 let⟨k,c⟩:=yE5 (show 0<=-n by omega)
 obtain rfl:n = -(k:Y):=S;rw[<-Dx C b m k,Y.sub_eq_add_neg]
def Dy(a:Pt P):eF 1 a=a:=pJ
def JJ(a:Pt P):eF 0 a=F:=rfl
def tot(a:I->Pt P):I->(I->Y)->Pt P
 | 0,_=>F
 | k+1,f=>add (tot a k f) (eF (f k) (a k))
def Fv{f:I->Y}(C:Cur P){a:I->Pt P}:∀k,(∀i,i<k->On (a i))->On (tot a k f)
 | 0,_=>kJ
 | k+1,h=>C.on (Fv C k λi b=>h i S) (kE C (h k S) _)
def eX{a:I->Pt P}{f g:I->Y}:∀k,(∀i,i<k->f i=g i)->tot a k f=tot a k g
 | 0,_=>rfl
 | k+1,h=>by
  show add (tot a k f) _=add (tot a k g) _;rw[eX k (λi b=>h i S),h k S]
def yW(a:I->Pt P){f:I->Y}:∀k,(∀i,i<k->f i=0)->tot a k f=F
 | 0,_=>rfl
 | k+1,h=>by
  show add (tot a k f) _=F;rw[yW a k (λi b=>h i S),h k S];rfl
def Cv(C:Cur P){a:I->Pt P}(f g:I->Y):∀k,(∀i,i<k->On (a i))->tot a k (λj=>f j+g j)=add (tot a k f) (tot a k g)
 | 0,_=>rfl
 | k+1,h=>by
  have h1:∀i,i<k->On (a i):=λi c=>h i S
  have b:=h k S;show add (tot a k _) (eF (f k+g k) (a k))=add (add (tot a k f) (eF (f k) (a k))) (add (tot a k g) (eF (g k) (a k)));rw[Cv C f g k h1,yR C b,C.swap (Fv C k h1) (Fv C k h1) (kE C b _) (kE C b _)]
def Ib(C:Cur P){a:I->Pt P}(i:I)(d:Y):∀k,i<k->(∀i,i<k->On (a i))->tot a k (λj=>if j=i then d else 0)=eF d (a i)
 | k+1,hi,h=>by
  show add (tot a k _) (eF (if k=i then d else 0) (a k))=_;by_cases b:k=i
  .subst b;rw[GD Z,yW a k (λj c=>Id S)];rfl
  rw[Id b,Ib C i d k S (λj c=>h j S)];exact bO
def Pg{f:I->Y}(C:Cur P){a:I->Pt P}(d:Y)(c:i<k)(h:∀i,i<k->On (a i)):
 tot a k (λj=>if j=i then f j+d else f j)=add (tot a k f) (eF d (a i)):=by
 rw[<-Ib C i d k c h,<-Cv C f _ k h];refine eX k λj _=>?_
 by_cases b:j=i
 .rw[GD b,GD b]
 rw[Id b,Id b,yEp]
def JL{f:I->Y}(C:Cur P){a:I->Pt P}(h:∀i,i<k->On (a i)):tot a k (λj=>2*f j)=add (tot a k f) (tot a k f):=by
 rw[<-Cv C f f k h];exact eX k λj _=>S
end EC
section
structure At4(w:Zl)(k a b c d:I):Prop where
 c0:w.cell? ⟨k,0,F⟩=J (U a)
 c1:w.cell? ⟨k,1,F⟩=J (U b)
 c2:w.cell? ⟨k,2,F⟩=J (U c)
 c3:w.cell? ⟨k,3,F⟩=J (U d)
 f:∀o,w.frozen? ⟨k,o,F⟩=D
variable {w w1:Zl}{k a b c d:Nat}
def At4.lt(h:At4 w k a b c d):k<w.heap.size:=vj _ _ h.c0
def cb_{B:I}{v:Zm}(c:Below B w w1)(b:k<B)(h:w.cell? ⟨k,o,F⟩=J v):w1.cell? ⟨k,o,F⟩=J v:=by
 rw[c.cell (p:=⟨k,o,F⟩) b];exact h
def At4.below{B:I}(h:At4 w k a b c d)(f:Below B w w1)(e:k<B):At4 w1 k a b c d:=
 ⟨cb_ f e h.c0,cb_ f e h.c1,cb_ f e h.c2,cb_ f e h.c3,λo=>by rw[f.frozen (p:=⟨k,o,F⟩) e];exact h.f o⟩
def At4.call(h:At4 w k a b c d)(e:kZ w w1):At4 w1 k a b c d:=h.below e h.lt
def At4.alloc(h:At4 w k a b c d)(o:Obj):At4 (w.alloc o) k a b c d:=h.call (aD o)
def At4.drewN(h:At4 w k a b c d)(q:I):At4 (w.drewN q) k a b c d:=⟨h.c0,h.c1,h.c2,h.c3,h.f⟩
def At4.cl(h:At4 w k a b c d)(f:kZ w' w1)(e:w'=w\/w'=w.drew:=by first|exact Z5 rfl|exact ZW rfl):At4 w1 k a b c d:=by
 rcases e with rfl|rfl
 .exact h.call f
 exact At4.call (w:=w.drew) ⟨h.c0,h.c1,h.c2,h.c3,h.f⟩ f
def At4.new(w:Zl)(t:ZR)(a b c d:I):At4 (w.alloc (.cells #[uZ a,uZ b,uZ c,uZ d] t)) w.heap.size a b c d:=
 ⟨by rw[oX];rfl,by rw[oX];rfl,by rw[oX];rfl,by rw[oX];rfl,λo=>xn _ _ _ _⟩
def At4.made(w:Zl)(t:ZR)(a b c d:I)(e:w.heap.size=k):At4 (w.alloc (.cells #[uZ a,uZ b,uZ c,uZ d] t)) k a b c d:=
 e ▸ At4.new w t a b c d
def nI(h:i≠j\/o≠k):(⟨i,o,F⟩:Addr)≠⟨j,k,F⟩:=by
 intro e;simp only[yFW.injEq,and_true]at e;omega
def co_{x v:Zm}(h:w.cell? ⟨k,o,F⟩=J v)(b:j≠k):(w.setCell ⟨j,i,F⟩ x).cell? ⟨k,o,F⟩=J v:=by
 rw[yz _ _ _ _ (nI (Z5 b))];exact h
theorem cs_{v x:Zm}(h:w.cell? ⟨k,o,F⟩=J v):(w.setCell ⟨k,j,F⟩ x).cell? ⟨k,o,F⟩=J (if j=o then x else v):=by
 split
 .subst_vars
  exact yDy _ _ _ h
 rename_i e
 rw[yz _ _ _ _ (nI (ZW e))];exact h
def fs_{p:Addr}{x:Zm}(h:∀o,w.frozen? ⟨k,o,F⟩=D)(o:I):(w.setCell p x).frozen? ⟨k,o,F⟩=D:=by
 rw[AT];exact h o
def At4.other(h:At4 w k a b c d)(e:j≠k)(v:Zm):At4 (w.setCell ⟨j,o,F⟩ v) k a b c d:=
 ⟨co_ h.c0 e,co_ h.c1 e,co_ h.c2 e,co_ h.c3 e,fs_ h.f⟩
def At4.set0(h:At4 w k a b c d)(x:I):At4 (w.setCell (aZ k) (uZ x)) k x b c d:=⟨cs_ h.c0,cs_ h.c1,cs_ h.c2,cs_ h.c3,fs_ h.f⟩
def At4.set1(h:At4 w k a b c d)(x:I):At4 (w.setCell ⟨k,1,F⟩ (uZ x)) k a x c d:=⟨cs_ h.c0,cs_ h.c1,cs_ h.c2,cs_ h.c3,fs_ h.f⟩
def At4.set2(h:At4 w k a b c d)(x:I):At4 (w.setCell ⟨k,2,F⟩ (uZ x)) k a b x d:=⟨cs_ h.c0,cs_ h.c1,cs_ h.c2,cs_ h.c3,fs_ h.f⟩
def At4.set3(h:At4 w k a b c d)(x:I):At4 (w.setCell ⟨k,3,F⟩ (uZ x)) k a b c x:=⟨cs_ h.c0,cs_ h.c1,cs_ h.c2,cs_ h.c3,fs_ h.f⟩
def At4.drew(h:At4 w k a b c d):At4 w.drew k a b c d:=⟨h.c0,h.c1,h.c2,h.c3,h.f⟩
def set4(w:Zl)(k:I)(x y z t:Zm):Zl:=(((w.setCell (aZ k) x).setCell ⟨k,1,F⟩ y).setCell ⟨k,2,F⟩ z).setCell ⟨k,3,F⟩ t
def At4.self4(h:At4 w k a b c d)(x y z t:I):At4 (set4 w k (uZ x) (uZ y) (uZ z) (uZ t)) k x y z t:=(((h.set0 x).set1 y).set2 z).set3 t
def At4.other4(h:At4 w k a b c d)(e:j≠k)(x y z t:Zm):At4 (set4 w j x y z t) k a b c d:=(((h.other e x).other e y).other e z).other e t
def aH{x y z t:Zm}{B:I}{b:Zl}(h:Below B b w)(k:B<=j):Below B b (set4 w j x y z t):=
 (((h.setCell (p:=⟨j,0,F⟩) k x).setCell (p:=⟨j,1,F⟩) k y).setCell (p:=⟨j,2,F⟩) k z).setCell (p:=⟨j,3,F⟩) k t
def JO(w:Zl)(j:I)(x y z t:Zm):(set4 w j x y z t).heap.size=w.heap.size:=by simp[set4]
end
structure FoldI(w wr:Zl)(g0 g1 g2 a b c d p q r s:I):Prop where
 bl:kZ w wr
 pr:At4 wr w.heap.size g0 g1 g2 0
 lo:At4 wr (w.heap.size+1) a b c d
 hi:At4 wr (w.heap.size+1+1) p q r s
 re:At4 wr (w.heap.size+1+1+1) 0 0 0 0
 ha:a<18446744073709551616
 hb:b<18446744073709551616
 hc:c<18446744073709551616
 hd:d<18446744073709551616
 hp:p<18446744073709551616
 hq:q<18446744073709551616
 hr:r<18446744073709551616
 hs:s<18446744073709551616
def NL{a c d q s f t gk:I}(v:P+val g i f 0=top)(m:top<2*P)(j:val a b c d<top)(l:gk=val a b c d+top*val 0 0 0 0)
 (u:t+top*k=val a b c d+val g i f 0) (o:k<=1) (n:t=val p q r s) (e:t<top):(k=0->val a b c d=gk%P)/\(k=1->val p q r s=gk%P):=by
 have e:gk=val a b c d:=by rw[l];rfl
 rw[e];refine⟨λh=>?_,λh=>?_⟩
 .subst h;rw[ZC S]
 subst h;rw[<-n,I.mod_eq_sub_mod S,ZC S];omega
def Pa{q s:I}(h:¬(p=0/\q=0/\r=0/\s=0)):0<val p q r s:=by unfold val;omega
def KO{x gk:I}(k:0<h)(c:P+g=top)(b:top<2*P)(d:gk=x+top*h):x+g*h<gk/\(x+g*h)%P=gk%P:=by
 have e:gk=x+g*h+P*h:=by rw[d,<-c,xc];omega
 rw[e,yDt];have:0<P*h:=I.mul_pos S k;exact⟨S,Z⟩
def EN{l t a c d x:I}(h1:g*h+x=l+18446744073709551616*t)(k:t=val a b c d):val l a b c+top*val d 0 0 0=x+val g 0 0 0*h:=by
 have e:val g 0 0 0=g:=by unfold val;omega
 rw[e];unfold val at *;unfold top;omega
def val_mul(b c k h:I):val b c k 0*h=b*h+18446744073709551616*(c*h)+340282366920938463463374607431768211456*(k*h):=by
 rw[val,xc,xc,xc,uj,uj];omega
def Ay{l0 l1 l2 m x a c d l c' f:I}(h1:l0+18446744073709551616*val a b c d=m*h+x)
 (p:l1+18446744073709551616*val l i c' o=n*h+val a b c d) (q:l2+18446744073709551616*val e k g f=j*h+val l i c' o) :
 val l0 l1 l2 e+top*val k g f 0=x+val m n j 0*h:=by
 rw[val_mul];unfold val at *;unfold top;omega
theorem AA(g0 g1 g2:I)(x y:Zm)(m n P:I)(k6:g0<18446744073709551616)(ke:g1<18446744073709551616)(km:g2<18446744073709551616)
 (hor:(g1=0/\g2=0)\/∃o:I,bits .or .u64 (g1:Y) (g2:Y)=(o:Y)/\o≠0) (hP:P+val g0 g1 g2 0=top) (kn:top<2*P) (hx:GS x m) (hy:GS y n) (w:Zl) :
 ae prog 223 #[.agg #[.int .u64 g0,.int .u64 g1,.int .u64 g2,.int .u64 0],x,y] w (Ret λe w'=>Below w.heap.size w w'/\GS e ((m+top*n)%P)):=by
 obtain⟨a,b,c,d,rfl,ha,hb,hc,hd,em⟩:=hx;obtain⟨p,q,r,s,rfl,hp,hq,hr,hs,en⟩:=hy;go_enter func223,ntmps223;go_wp2;go_loopg [] (val a b c d+top*val p q r s) (λg wr=>∃(a b c d p q r s:I),FoldI w wr g0 g1 g2 a b c d p q r s/\g=val a b c d+top*val p q r s/\E (g%P=(m+top*n)%P))
 case atStart =>
  have f:=jJ w (.cells #[.int .u64 g0,.int .u64 g1,.int .u64 g2,.int .u64 0] 153) (.cells #[.int .u64 a,.int .u64 b,.int .u64 c,.int .u64 d] 151) (.cells #[.int .u64 p,.int .u64 q,.int .u64 r,.int .u64 s] 151) (.cells #[.int .u64 0,.int .u64 0,.int .u64 0,.int .u64 0] 151);refine⟨a,b,c,d,p,q,r,s,⟨f,?_,?_,?_,?_,ha,hb,hc,hd,hp,hq,hr,hs⟩,Z,?_⟩
  .exact(((At4.new w 153 g0 g1 g2 0).alloc _).alloc _).alloc _
  .exact((At4.made (w.alloc _) 151 a b c d (Zy _ _)).alloc _).alloc _
  .exact(At4.made ((w.alloc _).alloc _) 151 p q r s (by simp)).alloc _
  .exact At4.made (((w.alloc _).alloc _).alloc _) 151 0 0 0 0 (by simp)
  .rw[em,en];rfl
 case round =>
  obtain⟨a,b,c,d,p,q,r,s,hI,hg,HE⟩:=hrel;clear em en ha hb hc hd hp hq hr hs;obtain⟨bl,pr,lo,hi,re,ha,hb,hc,hd,hp,hq,hr,hs⟩:=hI;have HB:E (Below w.heap.size w wr):=bl;clear bl;generalize L:w.heap.size+1+1+1=C at re⊢;generalize T:w.heap.size+1+1=k2 at hi⊢;generalize h1:w.heap.size+1=k1 at lo⊢;have H:E (w.heap.size+1=k1/\w.heap.size+1+1=k2/\w.heap.size+1+1+1=C):=⟨h1,T,L⟩
  generalize W:w.heap.size=K at pr HB⊢;have H0:E (w.heap.size=K):=W;have ki:E (K<=k1):=by unfold E;omega
  have h6:K≠k1:=S;have kj:K≠k2:=S;have b6:K≠C:=S;have n12:k1≠k2:=S;have h8:k1≠C:=S;have ka:k2≠C:=S;have z0:=pr.lt;have z1:=lo.lt;have z2:=hi.lt;have z3:=re.lt;clear W h1 T L;by_cases hz:p=0/\q=0/\r=0/\s=0
  .obtain⟨rfl,rfl,rfl,rfl⟩:=hz;obtain⟨p0,p1,p2,p3,pf⟩:=id pr;obtain⟨l0,l1,l2,l3,lf⟩:=id lo;obtain⟨W,h1,T,L,hf⟩:=id hi;obtain⟨O,r1,r2,r3,rf⟩:=id re;go_wp2_with fail
   refine(t9 _ _ _ _ (Four.mk ha hb hc hd Z) (Four.mk k6 ke km dC Z) _).mono ?_;rintro e w1 ⟨v,rfl,f,v4,t,k,rfl,⟨a',b',c',d',rfl,h9,h7,h5,h4,N⟩,hk,X⟩;have z:=NL hP kn (jV ha hb hc hd) hg X hk N (N ▸ jV h9 h7 h5 h4);rw[HE.out]at z;have Q:E _:=z;clear z;clear p0 p1 p2 p3 pf l0 l1 l2 l3 lf W h1 T L hf O r1 r2 r3 rf X N hg HE;have i:=lo.call f;have j:=re.call f;have z3:=j.lt;have z1:=i.lt;have V:E (Below K w w1):=HB.trans (f.mono S);obtain⟨l0,l1,l2,l3,lf⟩:=id i;obtain⟨O,r1,r2,r3,rf⟩:=id j;have A:k=0\/k=1:=S;rcases A with rfl|rfl
   .go_wp2;have u:=((((j.set0 a).set1 b).set2 c).set3 d).alloc (.cells #[.int .u64 a',.int .u64 b',.int .u64 c',.int .u64 d'] 151);refine Zx (by simp[results,Tryz.results223,go_sem,u.c0,u.c1,u.c2,u.c3];rfl) Z ?_;refine⟨_,Z,?_,Four.mk ha hb hc hd (Q.1 trivial).symm⟩;rw[H0.out];have q0:K<=C:=by have:=H.out;have:=H0.out;omega
    have q1:=(((V.setCell (p:=⟨C,0,F⟩) q0 (.int .u64 a)).setCell (p:=⟨C,1,F⟩) q0 (.int .u64 b)).setCell (p:=⟨C,2,F⟩) q0 (.int .u64 c)).setCell (p:=⟨C,3,F⟩) q0 (.int .u64 d);exact q1.alloc (by simp;omega) _
   .go_wp2;have u:=((((j.set0 a').set1 b').set2 c').set3 d').alloc (.cells #[.int .u64 a',.int .u64 b',.int .u64 c',.int .u64 d'] 151);refine Zx (by simp[results,Tryz.results223,go_sem,u.c0,u.c1,u.c2,u.c3];rfl) Z ?_;refine⟨_,Z,?_,Four.mk h9 h7 h5 h4 (Q.2 trivial).symm⟩;rw[H0.out];have q0:K<=C:=by have:=H.out;have:=H0.out;omega
    have q1:=(((V.setCell (p:=⟨C,0,F⟩) q0 (.int .u64 a')).setCell (p:=⟨C,1,F⟩) q0 (.int .u64 b')).setCell (p:=⟨C,2,F⟩) q0 (.int .u64 c')).setCell (p:=⟨C,3,F⟩) q0 (.int .u64 d');exact q1.alloc (by simp;omega) _
  .go_upto_region 1 with fail
   go_cut [12] from 10 to 72 (λc wx=>c=.bool true/\wr=wx)
   case first =>
    obtain⟨W,h1,T,L,hf⟩:=id hi;go_wp2_with fail
    all_goals (go_meet;exact⟨Z,Z⟩)
   case rest =>
    obtain⟨rfl,rfl⟩:=hcut;have ht:=KO (Pa hz) hP kn hg;clear hz;obtain⟨p0,p1,p2,p3,pf⟩:=id pr;obtain⟨l0,l1,l2,l3,lf⟩:=id lo;obtain⟨W,h1,T,L,hf⟩:=id hi;rcases hor with⟨rfl,rfl⟩|⟨o,ho,b5⟩
    .have hor:bits .or .u64 0 0=0:=dK;go_wp2_with fail
     refine(lJ g0 _ _ _ _ k6 (Four.mk hp hq hr hs Z) (Four.mk ha hb hc hd Z) _).mono ?_;rintro e w1 ⟨v,rfl,f,l,v4,t,rfl,hl,⟨a',b',c',d',rfl,h9,h7,h5,h4,N⟩,X⟩;have i:=(lo.alloc _).call f;have z:=(hi.alloc _).call f;have A:=(pr.alloc _).call f;have j:=(re.alloc _).call f;have u:=(At4.new wr 151 0 0 0 0).call f;have V:E (Below K w w1):=(HB.alloc S _).trans (f.mono (by simp;omega));clear f p0 p1 p2 p3 pf l0 l1 l2 l3 lf W h1 T L hf lo hi pr re;generalize k7:wr.heap.size=k4 at u z0 z1 z2 z3⊢;clear k7;have m0:K≠k4:=S;have m1:k1≠k4:=S;have m2:k2≠k4:=S;have m3:C≠k4:=S;have M:E (K<k4):=z0;clear z0 z1 z2 z3;have z0:=A.lt;have z1:=i.lt;have z2:=z.lt;have z3:=j.lt;have z4:=u.lt;have O:E (g0*val p q r s+val a b c d=l+18446744073709551616*t/\t=val a' b' c' d'):=⟨X.symm,N⟩
     have HL:E (_/\_):=ht;clear X N ht hg;obtain⟨p0,p1,p2,p3,pf⟩:=id A;obtain⟨l0,l1,l2,l3,lf⟩:=id i;obtain⟨W,h1,T,L,hf⟩:=id z;obtain⟨t0,t1,t2,t3,tf⟩:=id u;go_wp2;go_region
     go_wp2;obtain⟨q1,q2,q3⟩:=H.out;have q0:=H0.out;subst q1 q2 q3 q0;go_roundg (val l a' b' c'+top*val d' 0 0 0)
     case measure=>rw[EN O.1 O.2];exact HL.1
     case rel =>
      refine⟨l,a',b',c',d',0,0,0,⟨?_,?_,?_,?_,?_,hl,h9,h7,h5,h4,dC,dC,dC⟩,Z,?_⟩
      .have s1:=(V.setCell (p:=⟨w.heap.size+1,0,F⟩) (yo _) (.int .u64 l))
       exact(aH (aH (aH s1 (qx M.out)) (yo _)) S).drew
      .exact((((A.other h6.symm _).other4 m0.symm _ _ _ _).other4 h6.symm _ _ _ _).other4 kj.symm _ _ _ _).drew
      .exact((((i.set0 l).other4 m1.symm _ _ _ _).self4 l a' b' c').other4 n12.symm _ _ _ _).drew
      .exact((((z.other n12 _).other4 m2.symm _ _ _ _).other4 n12 _ _ _ _).self4 d' 0 0 0).drew
      .exact((((j.other h8 _).other4 m3.symm _ _ _ _).other4 h8 _ _ _ _).other4 ka _ _ _ _).drew
      .unfold E;rw[EN O.1 O.2,<-HE.out];exact HL.2
    .go_wp2_with fail
     refine(lJ g0 _ _ _ _ k6 (Four.mk hp hq hr hs Z) (Four.mk ha hb hc hd Z) _).mono ?_;rintro e w1 ⟨v,rfl,f,l,v4,t,rfl,hl,⟨a',b',c',d',rfl,h9,h7,h5,h4,N⟩,X⟩;have i:=(lo.alloc _).call f;have z:=(hi.alloc _).call f;have A:=(pr.alloc _).call f;have j:=(re.alloc _).call f;have u:=(At4.new wr 151 0 0 0 0).call f;have V:E (Below K w w1):=(HB.alloc S _).trans (f.mono (by simp;omega));clear f p0 p1 p2 p3 pf l0 l1 l2 l3 lf W h1 T L hf lo hi pr re;generalize k7:wr.heap.size=k4 at u z0 z1 z2 z3⊢;clear k7;have m0:K≠k4:=S;have m1:k1≠k4:=S;have m2:k2≠k4:=S;have m3:C≠k4:=S;have M:E (K<k4):=z0;clear z0 z1 z2 z3;have kb:E (l+18446744073709551616*val a' b' c' d'=g0*val p q r s+val a b c d):=by unfold E;rw[<-N];exact X
     have HL:E (_/\_):=ht;clear X N ht hg;have z0:=A.lt;have z1:=i.lt;have z2:=z.lt;have z3:=j.lt;have z4:=u.lt;obtain⟨p0,p1,p2,p3,pf⟩:=id A;obtain⟨l0,l1,l2,l3,lf⟩:=id i;obtain⟨W,h1,T,L,hf⟩:=id z;obtain⟨t0,t1,t2,t3,tf⟩:=id u;go_wp2_with fail
     refine(lJ g1 _ _ _ _ ke (Four.mk hp hq hr hs Z) (Four.mk h9 h7 h5 h4 Z) _).mono ?_;rintro e w2 ⟨v,rfl,O,l',v5,t,rfl,ky,⟨a2,b2,c2,d2,rfl,kz,kc,ku,kw,N⟩,X⟩;have hn:=((i.set0 l).other4 m1.symm _ _ _ _).call O;have hm:=((z.other n12 _).other4 m2.symm _ _ _ _).call O;have hu:=((A.other h6.symm _).other4 m0.symm _ _ _ _).call O;have k8:=((j.other h8 _).other4 m3.symm _ _ _ _).call O;have hw:=((u.other m1 _).self4 a' b' c' d').call O;have kh:E (Below K w w2):=((aH (V.setCell (p:=⟨k1,0,F⟩) ki.out _) (qx M.out)).trans (O.mono (by simp;omega)))
     clear O p0 p1 p2 p3 pf l0 l1 l2 l3 lf W h1 T L hf t0 t1 t2 t3 tf i z A j u V z0 z1 z2 z3 z4;have ko:E (l'+18446744073709551616*val a2 b2 c2 d2=g1*val p q r s+val a' b' c' d'):=by unfold E;rw[<-N];exact X
     clear X N;have z0:=hu.lt;have z1:=hn.lt;have z2:=hm.lt;have z3:=k8.lt;have z4:=hw.lt;obtain⟨p0,p1,p2,p3,pf⟩:=id hu;obtain⟨l0,l1,l2,l3,lf⟩:=id hn;obtain⟨W,h1,T,L,hf⟩:=id hm;obtain⟨t0,t1,t2,t3,tf⟩:=id hw;go_wp2_with fail
     refine(lJ g2 _ _ _ _ km (Four.mk hp hq hr hs Z) (Four.mk kz kc ku kw Z) _).mono ?_;rintro e w3 ⟨v,rfl,Q,hj,v6,t,rfl,kl,⟨a3,b3,c3,d3,rfl,kt,kf,kv,kr,N⟩,X⟩;have k5:=((hn.set1 l').other4 m1.symm _ _ _ _).call Q;have k9:=((hm.other n12 _).other4 m2.symm _ _ _ _).call Q;have kd:=((hu.other h6.symm _).other4 m0.symm _ _ _ _).call Q;have kp:=((k8.other h8 _).other4 m3.symm _ _ _ _).call Q;have kg:=((hw.other m1 _).self4 a2 b2 c2 d2).call Q;have kx:E (Below K w w3):=((aH (kh.setCell (p:=⟨k1,1,F⟩) ki.out _) (qx M.out)).trans (Q.mono (by simp;omega)))
     clear Q p0 p1 p2 p3 pf l0 l1 l2 l3 lf W h1 T L hf t0 t1 t2 t3 tf hn hm hu k8 hw kh z0 z1 z2 z3 z4;have kk:E (hj+18446744073709551616*val a3 b3 c3 d3=g2*val p q r s+val a2 b2 c2 d2):=by unfold E;rw[<-N];exact X
     clear X N;have z0:=kd.lt;have z1:=k5.lt;have z2:=k9.lt;have z3:=kp.lt;have z4:=kg.lt;obtain⟨l0,l1,l2,l3,lf⟩:=id k5;obtain⟨W,h1,T,L,hf⟩:=id k9;obtain⟨t0,t1,t2,t3,tf⟩:=id kg;go_wp2;go_region
     go_wp2;clear l0 l1 l2 l3 lf W h1 T L hf t0 t1 t2 t3 tf;obtain⟨q1,q2,q3⟩:=H.out;have q0:=H0.out;subst q1 q2 q3 q0;go_roundg (val l l' hj a3+top*val b3 c3 d3 0)
     case measure=>rw[Ay kb.out ko.out kk.out];exact HL.1
     case rel =>
      refine⟨l,l',hj,a3,b3,c3,d3,0,⟨?_,?_,?_,?_,?_,hl,ky,kl,kt,kf,kv,kr,dC⟩,Z,?_⟩
      .have s1:=(kx.setCell (p:=⟨w.heap.size+1,2,F⟩) (yo _) (.int .u64 hj))
       have s2:=(aH s1 (qx M.out) (x:=(.int .u64 a3)) (y:=(.int .u64 b3)) (z:=(.int .u64 c3)) (t:=(.int .u64 d3)))
       exact(aH (s2.setCell (p:=⟨w.heap.size+1,3,F⟩) (yo _) (.int .u64 a3)) S).drew
      .exact((((kd.other h6.symm _).other4 m0.symm _ _ _ _).other h6.symm _).other4 kj.symm _ _ _ _).drew
      .exact((((k5.set2 hj).other4 m1.symm _ _ _ _).set3 a3).other4 n12.symm _ _ _ _).drew
      .exact((((k9.other n12 _).other4 m2.symm _ _ _ _).other n12 _).self4 b3 c3 d3 0).drew
      .exact((((kp.other h8 _).other4 m3.symm _ _ _ _).other h8 _).other4 ka _ _ _ _).drew
      .unfold E;rw[Ay kb.out ko.out kk.out,<-HE.out];exact HL.2
section
structure At8(w:Zl)(k a b c d e f g h:I):Prop where
 c0:w.cell? ⟨k,0,F⟩=J (U a)
 c1:w.cell? ⟨k,1,F⟩=J (U b)
 c2:w.cell? ⟨k,2,F⟩=J (U c)
 c3:w.cell? ⟨k,3,F⟩=J (U d)
 c4:w.cell? ⟨k,4,F⟩=J (U e)
 c5:w.cell? ⟨k,5,F⟩=J (U f)
 c6:w.cell? ⟨k,6,F⟩=J (U g)
 c7:w.cell? ⟨k,7,F⟩=J (U h)
 fz:∀o,w.frozen? ⟨k,o,F⟩=D
variable {w w1:Zl}{k a b c d e f g h:Nat}
def At8.lt(H:At8 w k a b c d e f g h):k<w.heap.size:=vj _ _ H.c0
def At8.below{B:I}(H:At8 w k a b c d e f g h)(j:Below B w w1)(i:k<B):At8 w1 k a b c d e f g h:=
 ⟨cb_ j i H.c0,cb_ j i H.c1,cb_ j i H.c2,cb_ j i H.c3,cb_ j i H.c4,cb_ j i H.c5,cb_ j i H.c6,cb_ j i H.c7,λo=>by rw[j.frozen (p:=⟨k,o,F⟩) i];exact H.fz o⟩
def At8.call(H:At8 w k a b c d e f g h)(i:kZ w w1):At8 w1 k a b c d e f g h:=H.below i H.lt
def At8.alloc(H:At8 w k a b c d e f g h)(o:Obj):At8 (w.alloc o) k a b c d e f g h:=H.call (aD o)
def At8.drewN(H:At8 w k a b c d e f g h)(q:I):At8 (w.drewN q) k a b c d e f g h:=⟨H.c0,H.c1,H.c2,H.c3,H.c4,H.c5,H.c6,H.c7,H.fz⟩
def At8.made(w:Zl)(t:ZR)(a b c d e f g h:I)(i:w.heap.size=k):At8 (w.alloc (.cells #[uZ a,uZ b,uZ c,uZ d,uZ e,uZ f,uZ g,uZ h] t)) k a b c d e f g h:=by
 subst i;exact⟨by rw[oX];rfl,by rw[oX];rfl,by rw[oX];rfl,by rw[oX];rfl,by rw[oX];rfl,by rw[oX];rfl,by rw[oX];rfl,by rw[oX];rfl,λo=>xn _ _ _ _⟩
def At8.other(H:At8 w k a b c d e f g h)(i:j≠k)(v:Zm):At8 (w.setCell ⟨j,o,F⟩ v) k a b c d e f g h:=
 ⟨co_ H.c0 i,co_ H.c1 i,co_ H.c2 i,co_ H.c3 i,co_ H.c4 i,co_ H.c5 i,co_ H.c6 i,co_ H.c7 i,fs_ H.fz⟩
def At8.set0(H:At8 w k a b c d e f g h)(x:I):At8 (w.setCell (aZ k) (uZ x)) k x b c d e f g h:=⟨cs_ H.c0,cs_ H.c1,cs_ H.c2,cs_ H.c3,cs_ H.c4,cs_ H.c5,cs_ H.c6,cs_ H.c7,fs_ H.fz⟩
def At8.set1(H:At8 w k a b c d e f g h)(x:I):At8 (w.setCell ⟨k,1,F⟩ (uZ x)) k a x c d e f g h:=⟨cs_ H.c0,cs_ H.c1,cs_ H.c2,cs_ H.c3,cs_ H.c4,cs_ H.c5,cs_ H.c6,cs_ H.c7,fs_ H.fz⟩
def At8.set2(H:At8 w k a b c d e f g h)(x:I):At8 (w.setCell ⟨k,2,F⟩ (uZ x)) k a b x d e f g h:=⟨cs_ H.c0,cs_ H.c1,cs_ H.c2,cs_ H.c3,cs_ H.c4,cs_ H.c5,cs_ H.c6,cs_ H.c7,fs_ H.fz⟩
def At8.set3(H:At8 w k a b c d e f g h)(x:I):At8 (w.setCell ⟨k,3,F⟩ (uZ x)) k a b c x e f g h:=⟨cs_ H.c0,cs_ H.c1,cs_ H.c2,cs_ H.c3,cs_ H.c4,cs_ H.c5,cs_ H.c6,cs_ H.c7,fs_ H.fz⟩
def At8.set4(H:At8 w k a b c d e f g h)(x:I):At8 (w.setCell ⟨k,4,F⟩ (uZ x)) k a b c d x f g h:=⟨cs_ H.c0,cs_ H.c1,cs_ H.c2,cs_ H.c3,cs_ H.c4,cs_ H.c5,cs_ H.c6,cs_ H.c7,fs_ H.fz⟩
def At8.set5(H:At8 w k a b c d e f g h)(x:I):At8 (w.setCell ⟨k,5,F⟩ (uZ x)) k a b c d e x g h:=⟨cs_ H.c0,cs_ H.c1,cs_ H.c2,cs_ H.c3,cs_ H.c4,cs_ H.c5,cs_ H.c6,cs_ H.c7,fs_ H.fz⟩
def At8.set6(H:At8 w k a b c d e f g h)(x:I):At8 (w.setCell ⟨k,6,F⟩ (uZ x)) k a b c d e f x h:=⟨cs_ H.c0,cs_ H.c1,cs_ H.c2,cs_ H.c3,cs_ H.c4,cs_ H.c5,cs_ H.c6,cs_ H.c7,fs_ H.fz⟩
def At8.set7(H:At8 w k a b c d e f g h)(x:I):At8 (w.setCell ⟨k,7,F⟩ (uZ x)) k a b c d e f g x:=⟨cs_ H.c0,cs_ H.c1,cs_ H.c2,cs_ H.c3,cs_ H.c4,cs_ H.c5,cs_ H.c6,cs_ H.c7,fs_ H.fz⟩
def D2(w:Zl)(k:I)(b x1 x2 e c g d f:Zm):Zl:=
 (((((((w.setCell (aZ k) b).setCell ⟨k,1,F⟩ x1).setCell ⟨k,2,F⟩ x2).setCell ⟨k,3,F⟩ e).setCell ⟨k,4,F⟩ c).setCell ⟨k,5,F⟩ g).setCell ⟨k,6,F⟩ d).setCell ⟨k,7,F⟩ f
def At8.self8(H:At8 w k a b c d e f g h)(i x1 x2 m j o l n:I):At8 (D2 w k (uZ i) (uZ x1) (uZ x2) (uZ m) (uZ j) (uZ o) (uZ l) (uZ n)) k i x1 x2 m j o l n:=
 (((((((H.set0 i).set1 x1).set2 x2).set3 m).set4 j).set5 o).set6 l).set7 n
def At8.other8(H:At8 w k a b c d e f g h)(i:j≠k)(l x1 x2 o m q n p:Zm):At8 (D2 w j l x1 x2 o m q n p) k a b c d e f g h:=
 (((((((H.other i l).other i x1).other i x2).other i o).other i m).other i q).other i n).other i p
def At4.other8{a c d:I}(H:At4 w k a b c d)(e:j≠k)(f x1 x2 l g n i m:Zm):At4 (D2 w j f x1 x2 l g n i m) k a b c d:=
 (((((((H.other e f).other e x1).other e x2).other e l).other e g).other e n).other e i).other e m
def xM{b x1 x2 f c i e g:Zm}{B:I}{d:Zl}(H:Below B d w)(k:B<=j):Below B d (D2 w j b x1 x2 f c i e g):=
 (((((((H.setCell (p:=⟨j,0,F⟩) k b).setCell (p:=⟨j,1,F⟩) k x1).setCell (p:=⟨j,2,F⟩) k x2).setCell (p:=⟨j,3,F⟩) k f).setCell (p:=⟨j,4,F⟩) k c).setCell (p:=⟨j,5,F⟩) k i).setCell (p:=⟨j,6,F⟩) k e).setCell (p:=⟨j,7,F⟩) k g
def lA{q B:I}{k:Zl}(H:Below B k w):Below B k (w.drewN q):=⟨H.os,H.tape,H.output,H.size,H.block⟩
end
structure Gap(g0 g1 g2 P:I):Prop where
 h0:g0<18446744073709551616
 h1:g1<18446744073709551616
 h2:g2<18446744073709551616
 hor:(g1=0/\g2=0)\/∃o:I,bits .or .u64 (g1:Y) (g2:Y)=(o:Y)/\o≠0
 hP:P+val g0 g1 g2 0=top
 hP2:top<2*P
 hg:0<val g0 g1 g2 0
def A6{a c d:I}{e:Zl}(h:E (Below k w W))(pr:At4 W k a b c d)(f:kZ W e):E (Below k w e):=h.trans (f.mono (qx pr.lt))
section
structure Blk where
 k:I
 o:I
 a:I
 b:I
 c:I
 d:I
structure Blk.at(x:Blk)(w:Zl):Prop where
 c0:w.cell? ⟨x.k,x.o,F⟩=J (uZ (x.a:Int))
 c1:w.cell? ⟨x.k,x.o+1,F⟩=J (uZ (x.b:Int))
 c2:w.cell? ⟨x.k,x.o+2,F⟩=J (uZ (x.c:Int))
 c3:w.cell? ⟨x.k,x.o+3,F⟩=J (uZ (x.d:Int))
 f:∀o,w.frozen? ⟨x.k,o,F⟩=false
structure Kept(w:Zl)(k0:I)(l:G Blk)(W:Zl):Prop where
 bl:Below k0 w W
 le:k0<=W.heap.size
 at':∀x∈l,x.at W
variable {w W w1:Zl}{k0:Nat}{l:List Blk}{x:Blk}
def Blk.at.lt(h:x.at W):x.k<W.heap.size:=vj _ _ h.c0
def Blk.at.call(h:x.at W)(k:kZ W w1):x.at w1:=
 ⟨by rw[k.cell (p:=⟨x.k,x.o,F⟩) h.lt];exact h.c0,by rw[k.cell (p:=⟨x.k,x.o+1,F⟩) h.lt];exact h.c1,by rw[k.cell (p:=⟨x.k,x.o+2,F⟩) h.lt];exact h.c2,by rw[k.cell (p:=⟨x.k,x.o+3,F⟩) h.lt];exact h.c3,
  λo=>by rw[k.frozen (p:=⟨x.k,o,F⟩) h.lt];exact h.f o⟩
def Blk.at.other(h : x.at W)(hj : j ≠ x.k)(v : Zm): x.at (W.setCell ⟨j, i, F⟩ v) :=
  ⟨by rw [yz _ _ _ _ (nI (Z5 hj))]; exact h.c0, by rw [yz _ _ _ _ (nI (Z5 hj))]; exact h.c1,
   by rw [yz _ _ _ _ (nI (Z5 hj))]; exact h.c2, by rw [yz _ _ _ _ (nI (Z5 hj))]; exact h.c3, λo => by rw [AT]; exact h.f o⟩
def Kept.call(h:Kept w k0 l W)(k:kZ W w1):Kept w k0 l w1:=
 ⟨h.bl.trans (k.mono h.le),Zw h.le k.size,λx hx=>(h.at' x hx).call k⟩
def Kept.drew(h:Kept w k0 l W):Kept w k0 l W.drew:=⟨h.bl.drew,h.le,λx hx=>⟨(h.at' x hx).c0,(h.at' x hx).c1,(h.at' x hx).c2,(h.at' x hx).c3,(h.at' x hx).f⟩⟩
def Kept.cl(h:Kept w k0 l W)(k:kZ W' w1)(e:W'=W\/W'=W.drew:=by first|exact Z5 rfl|exact ZW rfl):Kept w k0 l w1:=by
 rcases e with rfl|rfl
 .exact h.call k
 exact h.drew.call k
def Kept.undrew(h:Kept w k0 l W.drew):Kept w k0 l W:=
 ⟨⟨h.bl.os,h.bl.tape,h.bl.output,h.bl.size,h.bl.block⟩,h.le,λx hx=>⟨(h.at' x hx).c0,(h.at' x hx).c1,(h.at' x hx).c2,(h.at' x hx).c3,(h.at' x hx).f⟩⟩
def Kept.alloc(h:Kept w k0 l W)(o:Obj):Kept w k0 l (W.alloc o):=h.call (aD o)
def Kept.set(h:Kept w k0 l W)(k:k0<=j)(hl:∀x∈l,j≠x.k)(v:Zm):Kept w k0 l (W.setCell ⟨j,i,F⟩ v):=
 ⟨h.bl.setCell (p:=⟨j,i,F⟩) k v,by simpa using h.le,λx hx=>(h.at' x hx).other (hl x hx) v⟩
def Kept.set4(h:Kept w k0 l W)(k:k0<=j)(hl:∀x∈l,j≠x.k)(p q r s:Zm):Kept w k0 l (Go.Proofs.YtndpeoebngkhmaaGreat.set4 W j p q r s):=
 (((h.set k hl p).set k hl q).set k hl r).set k hl s
def Kept.set4'(h:Kept w k0 l W)(k:k0<=j)(hl:∀x∈l,j≠x.k)(p q r s:Zm):
 Kept w k0 l ((((W.setCell (aZ j) p).setCell ⟨j,1,F⟩ q).setCell ⟨j,2,F⟩ r).setCell ⟨j,3,F⟩ s):=h.set4 k hl p q r s
def Kept.lts(h:Kept w k0 l W):∀x∈l,x.k<W.heap.size:=λx hx=>(h.at' x hx).lt
def Kept.head(h:Kept w k0 (x :: l) W):x.at W:=h.at' x (G.mem_cons_self)
def Kept.tail(h:Kept w k0 (x :: l) W):Kept w k0 l W:=⟨h.bl,h.le,λy k=>h.at' y (G.mem_cons_of_mem _ k)⟩
def At4.blk{a c d:I}(h:At4 W k a b c d):(Blk.mk k 0 a b c d).at W:=⟨h.c0,h.c1,h.c2,h.c3,h.f⟩
def Blk.at.at4{a c d:I}(h:(Blk.mk k 0 a b c d).at W):At4 W k a b c d:=⟨h.c0,h.c1,h.c2,h.c3,h.f⟩
def Kept.mk1(k:Below k0 w W)(hl:k0<=W.heap.size):Kept w k0 [] W:=⟨k,hl,λ_ h=>by cases h⟩
def Kept.cons(h:Kept w k0 l W)(hx:x.at W):Kept w k0 (x :: l) W:=
 ⟨h.bl,h.le,λy k=>by rcases fT.1 k with rfl|b;exact hx;exact h.at' y b⟩
def Kept.put{a c d:I}(h:Kept w k0 (⟨j,0,a,b,c,d⟩ :: l) W)(k:k0<=j)(hl:∀x∈l,j≠x.k)(x y z t:I):
 Kept w k0 (⟨j,0,x,y,z,t⟩ :: l) ((((W.setCell (aZ j) (uZ x)).setCell ⟨j,1,F⟩ (uZ y)).setCell ⟨j,2,F⟩ (uZ z)).setCell ⟨j,3,F⟩ (uZ t)):=
 (h.tail.set4' k hl _ _ _ _).cons (h.head.at4.self4 x y z t).blk
end
def I0(w:Zl)(t0 t1 t2 q:ZR)(a b c d e f g h i j k l m n o p:I):
 Kept w w.heap.size [⟨w.heap.size,0,a,b,c,d⟩,⟨w.heap.size+1,0,e,f,g,h⟩,⟨w.heap.size+1+1,0,i,j,k,l⟩,⟨w.heap.size+1+1+1,0,m,n,o,p⟩]
  ((((w.alloc (.cells #[U a,U b,U c,U d] t0)).alloc (.cells #[U e,U f,U g,U h] t1)).alloc (.cells #[U i,U j,U k,U l] t2)).alloc (.cells #[U m,U n,U o,U p] q)):=by
 refine((((Kept.mk1 (jJ w _ _ _ _) (jJ w _ _ _ _).size).cons ?_).cons ?_).cons ?_).cons ?_
 .exact(At4.made _ q m n o p (by simp)).blk
 .exact((At4.made _ t2 i j k l (by simp)).alloc _).blk
 .exact(((At4.made _ t1 e f g h (by simp)).alloc _).alloc _).blk
 exact((((At4.made _ t0 a b c d Z).alloc _).alloc _).alloc _).blk
def Qc{c m s l:I}(hG:Gap c b k P)(h1:s+top*0=m+n)(d:l+top*0=s+val c b k 0)(hl:l<top):(m+n)%P=s:=by
 have:=hG.hP;rw[<-h1,xe,qg,ZC S]
def Qd{f m s l:I}(hG:Gap f g e P)(u:m<P)(t:n<P)(h1:s+top*k=m+n)(i:l+top*j=s+val f g e 0)(p:k<=1)(v:j<=1)(o:¬(k=0/\j=0))(hs:s<top)(_:l<top):(m+n)%P=l:=by
 have r:=hG.hP;have q:=hG.hP2;have c:k=0\/k=1:=S;have d:j=0\/j=1:=S;have:m+n=l+P:=by
  rcases c with h|h<;>rcases d with b|b<;>rw[h]at h1<;>rw[b]at i<;>first|omega|(exfalso;exact o ⟨h,b⟩)
 rw[this,yFH,ZC S]
def or2{a:I}(c:a<=1)(d:b<=1):∃o:I,bits .or .u64 (a:Y) (b:Y)=(o:Y)/\(o=0↔(a=0/\b=0)):=by
 have h1:a=0\/a=1:=S;have k:b=0\/b=1:=S;rcases h1 with rfl|rfl<;>rcases k with rfl|rfl
 .exact⟨0,dK,dC⟩
 .exact⟨1,dK,dC⟩
 .exact⟨1,dK,dC⟩
 exact⟨1,dK,dC⟩
def Nn{m s:I}(k:m<P)(b:n<P)(h1:s+n=m+top*0):(m+P-n)%P=s:=by
 rw[show m+P-n=s+P by omega,yFH,ZC S]
def Np{d m s l:I}(hG:Gap d e b P)(_:m<P)(i:n<P)(h1:s+n=m+top*1)(f:l+val d e b 0=s+top*j)(o:j<=1)(hl:l<top)(hs:s<top):(m+P-n)%P=l:=by
 have g:=hG.hP;have k:j=0\/j=1:=S;have:m+P-n=l:=by
  rcases k with c|c<;>rw[c]at f<;>omega
 rw[this,ZC S]
def sum_any(g0 g1 g2 P:I)(x y:Zm)(m n:I)(hG:Gap g0 g1 g2 P)(hx:GS x m)(hy:GS y n)(hm:m<P)(hn:n<P)(w:Zl):
 dZ 202 #[.agg #[U g0,U g1,U g2,U 0],x,y] w λe w'=>GS e ((m+n)%P):=by
 obtain⟨a,b,c,d,rfl,ha,hb,hc,hd,em⟩:=id hx;obtain⟨p,q,r,s,rfl,hp,hq,hr,hs,en⟩:=id hy;clear em en ha hb hc hd hp hq hr hs;go_enter func202,ntmps202;go_wp2_with fail
 have l:=I0 w 153 151 151 151 g0 g1 g2 0 a b c d p q r s 0 0 0 0;simp only[px]at l;generalize pn _ _=W0 at l⊢;generalize h3:w.heap.size+1+1+1=k3 at l⊢;generalize h2:w.heap.size+1+1=k2 at l⊢;generalize h1:w.heap.size+1=k1 at l⊢;have Q3:E (w.heap.size<=k3):=by unfold E;omega
 generalize h0:w.heap.size=k0 at l Q3⊢;have H0:E (w.heap.size=k0):=h0;have h5:k0≠k3:=S;clear h0 h1 h2 h3;apply(t9 _ _ _ _ hx hy _).mono;rintro e w1 ⟨v,rfl,h6,v2,t,k,rfl,⟨Q,b1,c1,O,rfl,z,g,N,L,W⟩,hk,X⟩;have HE:E (val Q b1 c1 O+top*k=m+n):=by unfold E;rw[<-W];exact X
 clear W X;replace l:=l.call h6;have f:=(l.alloc (.cells #[U Q,U b1,U c1,U O] 151)).cons (At4.made w1 151 Q b1 c1 O Z).blk;have m0:=qh l.head.lt;have m3:=qh l.tail.tail.tail.head.lt;let⟨h8,k9,k8,k5,pf⟩:=f.tail.head.at4
 have z0:=f.tail.head.lt;go_wp2_with fail
 apply(t9 _ _ _ _ (Four.mk z g N L Z) (Four.mk hG.h0 hG.h1 hG.h2 dC Z) _).mono;rintro e w2 ⟨v,rfl,h4,v3,t2,j,rfl,⟨a2,b2,c2,V,rfl,M,i,C,K,W⟩,hj,X⟩;have T:E (val a2 b2 c2 V+top*j=val Q b1 c1 O+val g0 g1 g2 0):=by unfold E;rw[<-W];exact X
 replace f:=f.call h4;have HG:=mk1 (hG);have HM:=mk2 hm hn;clear hG hm hn hx hy m0 h5;generalize w1.heap.size=k4 at f m3⊢;let⟨hg,hi,hw,ht,sf⟩:=f.head.at4
 let⟨h9,k6,hu,k7,rf⟩:=f.tail.tail.tail.tail.head.at4
 have z4:=f.head.lt;have z3:=f.tail.tail.tail.tail.head.lt;let⟨o,ho,A⟩:=or2 hk hj
 by_cases hz:k=0/\j=0
 .obtain⟨rfl,rfl⟩:=hz;obtain rfl:o=0:=A.2 ⟨Z,Z⟩;clear A;replace ho:bits .or .u64 0 0=0:=ho;go_wp2;have u:=(f.tail.tail.tail.tail.head.at4.self4 Q b1 c1 O).alloc (.cells #[U a2,U b2,U c2,U V] 151);unfold set4 at u;refine Zx (by simp[results,Tryz.results202,go_sem,u.c0,u.c1,u.c2,u.c3];rfl) Z ?_;refine⟨_,Z,?_,Four.mk z g N L (Qc HG HE T (jV M i C K))⟩;rw[H0.out];exact(aH f.bl Q3).alloc (by simpa[set4]using f.le) _
 have h7:¬o=0:=λh=>hz (A.1 h)
 go_wp2;have u:=(f.tail.tail.tail.tail.head.at4.self4 a2 b2 c2 V).alloc (.cells #[U a2,U b2,U c2,U V] 151);unfold set4 at u;refine Zx (by simp[results,Tryz.results202,go_sem,u.c0,u.c1,u.c2,u.c3];rfl) Z ?_;refine⟨_,Z,?_,Four.mk M i C K (Qd HG HM.1 HM.2 HE T hk hj hz (jV z g N L) (jV M i C K))⟩;rw[H0.out];exact(aH f.bl Q3).alloc (by simpa[set4]using f.le) _
def qC(g0 g1 g2 P:I)(x y:Zm)(m n:I)(hG:Gap g0 g1 g2 P)(hx:GS x m)(hy:GS y n)(hm:m<P)(hn:n<P)(w:Zl):
 dZ 203 #[.agg #[U g0,U g1,U g2,U 0],x,y] w λe w'=>GS e ((m+P-n)%P):=by
 obtain⟨a,b,c,d,rfl,ha,hb,hc,hd,em⟩:=id hx;obtain⟨p,q,r,s,rfl,hp,hq,hr,hs,en⟩:=id hy;clear em en ha hb hc hd hp hq hr hs;go_enter func203,ntmps203;go_wp2_with fail
 have g:=I0 w 153 151 151 151 g0 g1 g2 0 a b c d p q r s 0 0 0 0;simp only[px]at g;generalize pn _ _=W0 at g⊢;generalize h3:w.heap.size+1+1+1=k3 at g⊢;generalize h2:w.heap.size+1+1=k2 at g⊢;generalize h1:w.heap.size+1=k1 at g⊢;have Q3:E (w.heap.size<=k3):=by unfold E;omega
 generalize h0:w.heap.size=k0 at g Q3⊢;have H0:=mk1 (h0);apply(wF _ _ _ _ hx hy _).mono;rintro e w1 ⟨v,rfl,h7,v2,t,k,rfl,⟨K,b1,c1,C,rfl,u,i,A,z,es⟩,hk,he⟩;have HE:E (val K b1 c1 C+n=m+top*k):=by unfold E;rw[<-es];exact he
 replace g:=g.call h7;have f:=(g.alloc (.cells #[U K,U b1,U c1,U C] 151)).cons (At4.made w1 151 K b1 c1 C Z).blk;have m0:=qh g.head.lt;have m3:=qh g.tail.tail.tail.head.lt;have X:=mk1 (hG);have W:=mk2 hm hn;have Q4:=mk1 (g.le);have h4:k=0\/k=1:=S;let⟨L,Q,M,T,rf⟩:=g.tail.tail.tail.head.at4
 have z3:=g.tail.tail.tail.head.lt;rcases h4 with rfl|rfl
 .clear f;go_wp2;have l:=(g.tail.tail.tail.head.at4.self4 K b1 c1 C).alloc (.cells #[U K,U b1,U c1,U C] 151);unfold set4 at l;refine Zx (by simp[results,Tryz.results203,go_sem,l.c0,l.c1,l.c2,l.c3];rfl) Z ?_;refine⟨_,Z,?_,Four.mk u i A z (Nn W.1 W.2 HE)⟩;rw[H0.out];exact(aH g.bl Q3).alloc (by simpa[set4]using g.le) _
 clear g L Q M T rf z3;let⟨h8,hz,hw,hu,pf⟩:=f.tail.head.at4
 have z0:=f.tail.head.lt;go_wp2_with fail
 apply(wF _ _ _ _ (Four.mk u i A z Z) (Four.mk X.h0 X.h1 X.h2 dC Z) _).mono;rintro e w2 ⟨v,rfl,h5,v3,t2,j,rfl,⟨a2,b2,c2,d2,rfl,V,o,N,O,es⟩,hj,he⟩;have h6:E (val a2 b2 c2 d2+val g0 g1 g2 0=val K b1 c1 C+top*j):=by unfold E;rw[<-es];exact he
 replace f:=f.call h5;let⟨h9,hg,ht,hi,sf⟩:=f.head.at4
 let⟨L,Q,M,T,rf⟩:=f.tail.tail.tail.tail.head.at4
 have z4:=f.head.lt;have z3:=f.tail.tail.tail.tail.head.lt;go_wp2;have l:=(f.tail.tail.tail.tail.head.at4.other4 m3.symm (U a2) (U b2) (U c2) (U d2)).self4 a2 b2 c2 d2;unfold set4 at l;refine Zx (by simp[results,Tryz.results203,go_sem,l.c0,l.c1,l.c2,l.c3];rfl) Z ?_;refine⟨_,Z,?_,Four.mk V o N O (Np X W.1 W.2 HE h6 hj (jV V o N O) (jV u i A z))⟩;rw[H0.out];exact aH (aH f.bl Q4) Q3
def Mr{a c d m f s0 t0 u0:I}(j:m=val a b c d)
 (l:f+18446744073709551616*g=a*n+val 0 0 0 0)
 (p:s0+18446744073709551616*k=b*n+g)
 (o:t0+18446744073709551616*i=c*n+k)
 (e3:u0+18446744073709551616*e=d*n+i) :
 val f s0 t0 u0+top*e=m*n:=by
 have l:val a b c d*n=val (a*n) (b*n) (c*n) (d*n):=by
  rw[ax,CU,ax n a,ax n b,ax n c,ax n d]
 rw[j,l];unfold val at *;unfold top;omega
def pC(g0 g1 g2 P:I)(x y:Zm)(m n:I)(hG:Gap g0 g1 g2 P)(hx:GS x m)(hy:GS y n)(w:Zl):
 ae prog 201 #[.agg #[.int .u64 g0,.int .u64 g1,.int .u64 g2,.int .u64 0],x,y] w (Ret λe w'=>Below w.heap.size w w'/\GS e (m*n%P)):=by
 obtain⟨a,b,c,d,rfl,ha,hb,hc,hd,em⟩:=hx;obtain⟨p,q,r,s,rfl,hp,hq,hr,hs,en⟩:=id hy;have HM:E (m=val a b c d):=em;clear em en;go_enter func201,ntmps201;go_wp2_with fail
 have C:=I0 w 153 151 151 151 g0 g1 g2 0 a b c d p q r s 0 0 0 0;simp only[px]at C;have PR:=C.head.at4;have X:=C.tail.head.at4;have Y:=C.tail.tail.head.at4;have f:=C.tail.tail.tail.head.at4;have BL:E (Below w.heap.size w _):=C.bl;clear C;generalize pn _ _=w1 at X Y PR f BL⊢;generalize h3:w.heap.size+1+1+1=k3 at f⊢;generalize h2:w.heap.size+1+1=k4 at Y⊢;generalize h1:w.heap.size+1=k1 at X⊢;have Q3:E (w.heap.size<=k3):=by unfold E;omega
 generalize h0:w.heap.size=M at PR BL Q3⊢;have kn:M≠k3:=S;have kr:k1≠k3:=S;have H0:E (w.heap.size=M):=h0;clear h0 h1 h2 h3;refine(lJ a _ _ _ _ ha hy (Four.mk (a:=0) (b:=0) (c:=0) (d:=0) dC dC dC dC Z) _).mono ?_;rintro e w2 ⟨v,rfl,i,l0,v2,t0,rfl,hn,⟨a0,b0,c0,d0,rfl,kf,k2,k9,ke,u⟩,z⟩;have kc:E (l0+18446744073709551616*val a0 b0 c0 d0=a*n+val 0 0 0 0):=by unfold E;rw[<-u];exact z
 clear z u;replace BL:E (Below M w w2):=A6 BL PR i;replace X:=X.call i;replace Y:=Y.call i;replace f:=f.call i;replace PR:=PR.call i;obtain⟨hk,hj,hg,h6,xf⟩:=id X;have z1:=X.lt;obtain⟨h8,V,h7,h4,yf⟩:=id Y;have z4:=Y.lt;obtain⟨j,o,l,t,rf⟩:=id f;have z3:=f.lt;obtain⟨A,N,L,K,pf⟩:=id PR;have z0:=PR.lt;go_wp2_with fail
 refine(lJ b _ _ _ _ hb hy (Four.mk kf k2 k9 ke Z) _).mono ?_;rintro e w3 ⟨v,rfl,g,l1,v3,t1,rfl,hw,⟨a1,b1,c1,d1,rfl,hm,ki,kj,kd,u⟩,z⟩;have hu:E (l1+18446744073709551616*val a1 b1 c1 d1=b*n+val a0 b0 c0 d0):=by unfold E;rw[<-u];exact z
 have O:=qh PR.lt;have j1:=qh X.lt;have j3:=qh f.lt;have j4:=qh Y.lt;have J0:=mk1 (qx PR.lt);have T:=(At4.made w2 151 a0 b0 c0 d0 Z).call g;replace BL:E (Below M w w3):=A6 (W:=w2.alloc (.cells #[.int .u64 a0,.int .u64 b0,.int .u64 c0,.int .u64 d0] 151)) (BL.alloc (qx PR.lt) _) (PR.alloc _) g;replace X:=(X.alloc _).call g;replace Y:=(Y.alloc _).call g;replace f:=(f.alloc _).call g;replace PR:=(PR.alloc _).call g;obtain⟨hk,hj,hg,h6,xf⟩:=id X;have z1:=X.lt;obtain⟨h8,V,h7,h4,yf⟩:=id Y;have z4:=Y.lt;obtain⟨j,o,l,t,rf⟩:=id f;have z3:=f.lt;obtain⟨A,N,L,K,pf⟩:=id PR;have z0:=PR.lt;obtain⟨h9,h5,hi,Q,tf⟩:=id T;have z5:=T.lt;go_wp2_with fail
 refine(lJ c _ _ _ _ hc hy (Four.mk hm ki kj kd Z) _).mono ?_;rintro e w4 ⟨v,rfl,k,l2,v4,t4,rfl,kb,⟨a2,b2,c2,d2,rfl,kh,i,k5,k8,u⟩,z⟩;have kg:E (l2+18446744073709551616*val a2 b2 c2 d2=c*n+val a1 b1 c1 d1):=by unfold E;rw[<-u];exact z
 replace BL:E (Below M w w4):=A6 (aH BL.out J0.out) (PR.other4 O.symm _ _ _ _) k;replace X:=(X.other4 j1.symm _ _ _ _).call k;replace Y:=(Y.other4 j4.symm _ _ _ _).call k;replace f:=(f.other4 j3.symm _ _ _ _).call k;replace PR:=(PR.other4 O.symm _ _ _ _).call k;replace T:=(T.self4 a1 b1 c1 d1).call k;obtain⟨hk,hj,hg,h6,xf⟩:=id X;have z1:=X.lt;obtain⟨h8,V,h7,h4,yf⟩:=id Y;have z4:=Y.lt;obtain⟨j,o,l,t,rf⟩:=id f;have z3:=f.lt;obtain⟨A,N,L,K,pf⟩:=id PR;have z0:=PR.lt;obtain⟨h9,h5,hi,Q,tf⟩:=id T;have z5:=T.lt;go_wp2_with fail
 refine(lJ d _ _ _ _ hd hy (Four.mk kh i k5 k8 Z) _).mono ?_;rintro e w5 ⟨v,rfl,k,l3,v4,t4,rfl,k6,⟨a3,b3,c3,d3,rfl,hz,g,k7,ht,u⟩,z⟩;have ka:E (l3+18446744073709551616*val a3 b3 c3 d3=d*n+val a2 b2 c2 d2):=by unfold E;rw[<-u];exact z
 replace BL:E (Below M w w5):=A6 (aH BL.out J0.out) (PR.other4 O.symm _ _ _ _) k;replace X:=(X.other4 j1.symm _ _ _ _).call k;replace Y:=(Y.other4 j4.symm _ _ _ _).call k;replace f:=(f.other4 j3.symm _ _ _ _).call k;replace PR:=(PR.other4 O.symm _ _ _ _).call k;replace T:=(T.self4 a2 b2 c2 d2).call k;obtain⟨j,o,l,t,rf⟩:=id f;have z3:=f.lt;obtain⟨A,N,L,K,pf⟩:=id PR;have z0:=PR.lt;obtain⟨h9,h5,hi,Q,tf⟩:=id T;have z5:=T.lt;go_wp2_with fail
 refine(AA g0 g1 g2 _ _ _ _ P hG.h0 hG.h1 hG.h2 hG.hor hG.hP hG.hP2 (Four.mk hn hw kb k6 Z) (Four.mk hz g k7 ht Z) _).mono ?_;rintro e w6 ⟨v,rfl,k,hv⟩;rw[Mr HM.out kc.out hu.out kg.out ka.out]at hv;replace BL:E (Below M w w6):=A6 (aH BL.out J0.out) (PR.other4 O.symm _ _ _ _) k;replace f:=(f.other4 j3.symm _ _ _ _).call k;replace PR:=(PR.other4 O.symm _ _ _ _).call k;obtain⟨a7,b7,c7,d7,rfl,kl,kp,kk,ko,km⟩:=id hv;have HV:=mk1 (hv);obtain⟨j,o,l,t,rf⟩:=id f;have z3:=f.lt;go_wp2;have RF:=f.self4 a7 b7 c7 d7;unfold set4 at RF;refine Zx (by simp[results,Tryz.results201,go_sem,RF.c0,RF.c1,RF.c2,RF.c3];rfl) Z ?_;refine⟨_,Z,?_,HV.out⟩;rw[H0.out];exact aH BL.out Q3.out
def Ct{f a c d q s:I}(h:Kept w k [⟨k,0,j,i,g,0⟩,⟨e,0,a,b,c,d⟩,⟨f,0,p,q,r,s⟩] W):W.cell? ⟨k,0,F⟩=J (U j)/\W.cell? ⟨k,1,F⟩=J (U i)/\W.cell? ⟨k,2,F⟩=J (U g)/\W.cell? ⟨k,3,F⟩=J (U 0)/\W.cell? ⟨e,0,F⟩=J (U a)/\W.cell? ⟨e,1,F⟩=J (U b)/\W.cell? ⟨e,2,F⟩=J (U c)/\W.cell? ⟨e,3,F⟩=J (U d)/\W.cell? ⟨f,0,F⟩=J (U p)/\W.cell? ⟨f,1,F⟩=J (U q)/\W.cell? ⟨f,2,F⟩=J (U r)/\W.cell? ⟨f,3,F⟩=J (U s)/\Kept w k [⟨k,0,j,i,g,0⟩,⟨e,0,a,b,c,d⟩,⟨f,0,p,q,r,s⟩] W:=
 ⟨h.head.c0,h.head.c1,h.head.c2,h.head.c3,h.tail.head.c0,h.tail.head.c1,h.tail.head.c2,h.tail.head.c3,h.tail.tail.head.c0,h.tail.tail.head.c1,h.tail.tail.head.c2,h.tail.tail.head.c3,h⟩
theorem vJ(j l i:I)(x y:Zm)(m n R:I)(hx:GS x m)(X:GS y n)(w:Zl):((∀w,ae prog 202 #[.agg #[.int .u64 j,.int .u64 l,.int .u64 i,.int .u64 0],x,y] w (Ret λe w'=>Below w.heap.size w w'/\GS e R))->ae prog 163 #[.agg #[.int .u64 j,.int .u64 l,.int .u64 i,.int .u64 0],x,y] w (Ret λe w'=>Below w.heap.size w w'/\GS e R))/\((∀w,ae prog 203 #[.agg #[.int .u64 j,.int .u64 l,.int .u64 i,.int .u64 0],x,y] w (Ret λe w'=>Below w.heap.size w w'/\GS e R))->ae prog 195 #[.agg #[.int .u64 j,.int .u64 l,.int .u64 i,.int .u64 0],x,y] w (Ret λe w'=>Below w.heap.size w w'/\GS e R))/\((∀w,ae prog 201 #[.agg #[.int .u64 j,.int .u64 l,.int .u64 i,.int .u64 0],x,y] w (Ret λe w'=>Below w.heap.size w w'/\GS e R))->ae prog 164 #[.agg #[.int .u64 j,.int .u64 l,.int .u64 i,.int .u64 0],x,y] w (Ret λe w'=>Below w.heap.size w w'/\GS e R)):=by
 obtain⟨a,b,c,d,rfl,ha,hb,hc,hd,em⟩:=id hx;obtain⟨p,q,r,s,rfl,hp,hq,hr,hs,en⟩:=id X;have HX:=mk1 (hx);have HY:=mk1 (X);refine⟨λN=>?_,λN=>?_,λN=>?_⟩;all_goals replace N:E _:=N
 all_goals clear em en hx X ha hb hc hd hp hq hr hs
 case' refine_1=>go_enter func163,ntmps163
 case' refine_2=>go_enter func195,ntmps195
 case' refine_3=>go_enter func164,ntmps164
 all_goals
  go_wp2_with fail
  have f:=I0 w 153 81 81 81 j l i 0 a b c d p q r s 0 0 0 0;simp only[px]at f;generalize h3:w.heap.size+1+1+1=k3 at f⊢;generalize h2:w.heap.size+1+1=L at f⊢;generalize h1:w.heap.size+1=K at f⊢;have Q:E (w.heap.size<=k3):=by unfold E;omega
  generalize h0:w.heap.size=A at f Q⊢;have H0:E (w.heap.size=A):=h0;have P:∀x∈([⟨A,0,j,l,i,0⟩,⟨K,0,a,b,c,d⟩,⟨L,0,p,q,r,s⟩]:G Blk),k3≠x.k:=by simp only[fT,ZJ,or_false];rintro x (rfl|rfl|rfl)<;>simp only<;>omega
  have g:=(((Kept.mk1 f.bl f.le).cons f.tail.tail.head).cons f.tail.head).cons f.head;have T3:=f.tail.tail.tail.head.at4;let⟨t,z,u,o,V⟩:=id T3
  have T:=T3.lt;go_region_held3 (λw'=>w'.cell? ⟨A,0,F⟩=J (.int .u64 j)/\w'.cell? ⟨A,1,F⟩=J (.int .u64 l)/\w'.cell? ⟨A,2,F⟩=J (.int .u64 i)/\w'.cell? ⟨A,3,F⟩=J (.int .u64 0)/\w'.cell? ⟨K,0,F⟩=J (.int .u64 a)/\w'.cell? ⟨K,1,F⟩=J (.int .u64 b)/\w'.cell? ⟨K,2,F⟩=J (.int .u64 c)/\w'.cell? ⟨K,3,F⟩=J (.int .u64 d)/\w'.cell? ⟨L,0,F⟩=J (.int .u64 p)/\w'.cell? ⟨L,1,F⟩=J (.int .u64 q)/\w'.cell? ⟨L,2,F⟩=J (.int .u64 r)/\w'.cell? ⟨L,3,F⟩=J (.int .u64 s)/\Kept w A [⟨A,0,j,l,i,0⟩,⟨K,0,a,b,c,d⟩,⟨L,0,p,q,r,s⟩] w') (first|exact Ct g|exact Ct g.drew|exact Ct (g.set4' Q P _ _ _ _)|exact Ct (g.set4' Q P _ _ _ _).drew) (first|(go_at_call_of 148 (ZM #[gM .u64 a,gM .u64 b,gM .u64 c,gM .u64 d]);apply(kY HX).mono;rintro e W ⟨v,rfl,k,rfl⟩;replace g:=g.cl k;replace T3:=T3.cl k;clear k;let⟨t,z,u,o,V⟩:=id T3;have T:=T3.lt)|(go_at_call_of 148 (ZM #[gM .u64 p,gM .u64 q,gM .u64 r,gM .u64 s]);apply(kY HY).mono;rintro e W ⟨v,rfl,k,rfl⟩;replace g:=g.cl k;replace T3:=T3.cl k;clear k;let⟨t,z,u,o,V⟩:=id T3;have T:=T3.lt)|((first|go_at_call 202|go_at_call 203|go_at_call 201);apply(N _).mono;rintro e W ⟨v,rfl,k,C⟩;obtain⟨a',b',c',d',rfl,h5,h7,h6,h8,h4⟩:=id C;clear h4;have O:E (GS _ _):=C;clear C;replace g:=g.cl k;replace T3:=T3.cl k;clear k;let⟨t,z,u,o,V⟩:=id T3;have T:=T3.lt)|(go_at_call 206;apply(kV O).mono;rintro e W ⟨v,rfl,k,rfl⟩;replace g:=g.cl k;replace T3:=T3.cl k;clear k;let⟨t,z,u,o,V⟩:=id T3;have T:=T3.lt))
  all_goals (try go_wp2)
  all_goals (have M:=T3.self4 a' b' c' d')
  all_goals unfold set4 at M
  all_goals (refine Zx (v:=(.agg #[.int .u64 a',.int .u64 b',.int .u64 c',.int .u64 d'])) ?_ Z ?_)
  all_goals first|(refine⟨_,Z,?_,O⟩;rw[H0.out];exact aH g.bl Q)|(simp[results,Tryz.results163,Tryz.results195,Tryz.results164,go_sem,M.c0,M.c1,M.c2,M.c3];done)|fail
def Fg{c m:I}{x y:Zm}(hG:Gap c b k P)(hx:GS x m)(d:GS y n)(f:m<P)(g:n<P):
 dZ 163 #[.agg #[U c,U b,U k,U 0],x,y] w λe w'=>GS e ((m+n)%P):=
 (vJ c b k x y m n _ hx d w).1 (λw=>sum_any c b k P _ _ m n hG hx d f g w)
def wT{c m:I}{x y:Zm}(hG:Gap c b k P)(hx:GS x m)(d:GS y n)(f:m<P)(g:n<P):
 dZ 195 #[.agg #[U c,U b,U k,U 0],x,y] w λe w'=>GS e ((m+P-n)%P):=
 (vJ c b k x y m n _ hx d w).2.1 (λw=>qC c b k P _ _ m n hG hx d f g w)
def rE{c m:I}{x y:Zm}(hG:Gap c b k P)(hx:GS x m)(d:GS y n):
 dZ 164 #[.agg #[U c,U b,U k,U 0],x,y] w λe w'=>GS e (m*n%P):=
 (vJ c b k x y m n _ hx d w).2.2 (λw=>pC c b k P _ _ m n hG hx d w)
def Ox(m i s:I):m/2^i%2^(s+1)=2*(m/2^(i+1)%2^s)+m/2^i%2:=by
 have e:m/2^(i+1)=m/2^i/2:=by rw[oB,yCo]
 rw[e,oB,ax (2^s),I.mod_mul];omega
def low_bit(y z r:I)(c:r<64)(b:z=y%18446744073709551616):z/2^r%2=y/2^r%2:=by
 have e:(18446744073709551616:I)=2^r*(2*2^(63-r)):=by
  rw[<-uj,<-oB,<-rn,show r+1+(63-r)=64 by omega]
 have d:y/2^r=2*(2^(63-r)*(y/18446744073709551616))+z/2^r:=by
  have k:y=2^r*(2*(2^(63-r)*(y/18446744073709551616)))+z:=by
   have:=yF2 y 18446744073709551616;rw[b];rw[e]at this⊢;rw[uj,uj]at this;exact this.symm
  conv=>lhs;rw[k]
  rw[I.mul_add_div (rj dC)]
 omega
def wd(a b c d q:I):I:=if q=0 then a else if q=1 then b else if q=2 then c else d
def Ly{q a c d:I}(k:a<2^64)(e:b<2^64)(f:c<2^64)(hd:d<2^64):wd a b c d q<2^64:=by
 unfold wd;split;exact k;split;exact e;split;exact f;exact hd
def Lz{a c d:I}(q:I)(k:q<4)(e:a<2^64)(f:b<2^64)(g:c<2^64)(hd:d<2^64):
 wd a b c d q=val a b c d/2^(64*q)%2^64:=by
 have h:q=0\/q=1\/q=2\/q=3:=S;rcases h with rfl|rfl|rfl|rfl
 .show a=val a b c d/1%_;unfold val;omega
 .show b=val a b c d/2^64%_;unfold val;omega
 .show c=val a b c d/2^128%_;unfold val;omega
 show d=val a b c d/2^192%_;unfold val;omega
def Fp{a c d:I}(g:i<256)(k:a<2^64)(e:b<2^64)(f:c<2^64)(hd:d<2^64):
 wd a b c d (i/64)/2^(i%64)%2=val a b c d/2^i%2:=by
 rw[low_bit _ _ (i%64) S (Lz (i/64) S k e f hd),yCo,<-rn,show 64*(i/64)+i%64=i by omega]
def H9(a b c d q x:I)(k:q<4):val (if q=0 then x else a) (if q=1 then x else b) (if q=2 then x else c) (if q=3 then x else d)+2^(64*q)*wd a b c d q=val a b c d+2^(64*q)*x:=by
 have h:q=0\/q=1\/q=2\/q=3:=S;rcases h with rfl|rfl|rfl|rfl<;>simp[wd,val]<;>omega
def Em(a P k:I):a^k%P*(a^k%P)%P=a^(2*k)%P:=by
 rw[<-tn,<-rn,I.two_mul]
def CO(a P k:I):a^k%P*a%P=a^(k+1)%P:=by
 rw[oB,tn,yEF,<-tn]
def C9(e i:I):e/2^i=2*(e/2^(i+1))+e/2^i%2:=by
 rw[oB,<-yCo];omega
def Uf{M q:I}(d:q=k/8)(e:r=k%8):M*256^(k+1)/2^(64*q)%2^64=256^(r+1)*(M%256^(7-r)):=by
 have b:256^(k+1)=2^(64*q)*256^(r+1):=by
  rw[show(2:I)^(64*q)=256^(8*q) by rw[show 64*q=8*(8*q) by omega,yDM],<-rn,show 8*q+(r+1)=k+1 by omega]
 have c:(2^64:I)=256^(r+1)*256^(7-r):=by
  rw[<-rn,show r+1+(7-r)=8 by omega]
 rw[b,I.mul_left_comm,I.mul_div_cancel_left _ (rj dC),c,ax M,I.mul_mod_mul_left]
def Wh{y x:I}(d:r<8)(hx:x<256)(k:y<256^(7-r)):(256^(r+1)*y) ||| (x*2^(8*r))=256^(r+1)*y+x*2^(8*r)/\256^(r+1)*y+x*2^(8*r)<2^64:=by
 have e:(256:I)^(r+1)=2^(8*(r+1)):=by rw[yDM]
 have h1:x*2^(8*r)<2^(8*(r+1)):=by
  rw[show 8*(r+1)=8+8*r by omega,rn];exact I.mul_lt_mul_of_pos_right S (rj dC)
 have c:(2^64:I)=256^(r+1)*256^(7-r):=by
  rw[<-rn,show r+1+(7-r)=8 by omega]
 refine⟨?_,?_⟩
 .rw[e];exact(yDq h1 y).symm
 have b:256^(r+1)*(y+1)<=256^(r+1)*256^(7-r):=I.mul_le_mul_left _ k;rw[<-c,te,ri]at b;rw[<-e]at h1;omega
def Gi(a b c d:I):
 val (a/4+b*4611686018427387904%2^64) (b/4+c*4611686018427387904%2^64) (c/4+d*4611686018427387904%2^64) (d/4)=val a b c d/4:=by
 unfold val;omega
def At4.wd{a c d:I}(h:At4 w k a b c d)(q:I)(f:q<4):w.cell? ⟨k,q,F⟩=J (uZ (wd a b c d q:Int)):=by
 have e:q=0\/q=1\/q=2\/q=3:=S;rcases e with rfl|rfl|rfl|rfl
 .exact h.c0
 .exact h.c1
 .exact h.c2
 exact h.c3
def yS(h:n<9223372036854775808):ZN.wrap (n:Y)=(n:Y):=by rw[pk];omega
def or_bit(t:I)(d:b<4294967296)(k:t<2):bits .or .i64 ((2*b:I):Y) (t:Y)=((2*b+t:I):Y):=by
 rw[(bits_nat .i64 40 dC (λn c h1=>by rw[pk];omega) (2*b) t S S).2];have:=yDq (i:=1) (b:=t) S b;rw[show 2^1*b=2*b from Z]at this;rw[<-this]
def and_one{v:I}(hv:v<2^64):bits .and .u64 (v:Y) 1=((v%2:I):Y):=by
 have:=bits_and_u64_nat v 1 hv S;rw[show v &&& 1=v%2 from I.and_one_is_mod v]at this;exact this
def A7{m f c:I}(k:m<top)(h:g=c\/f+g=256):m/2^(f+g)%2^(c-g)=0:=by
 rcases h with rfl|h
 .rw[I.sub_self,rx,yFF]
 rw[h,qv (by exact k),yp]
def Ch{m f c:I}(k:0<g)(b:g<=c):m/2^(f+(g-1))%2^(c-(g-1))=2*(m/2^(f+g)%2^(c-g))+m/2^(f+(g-1))%2:=by
 rw[show c-(g-1)=c-g+1 by omega,Ox,show f+(g-1)+1=f+g by omega]
def Fl(x:Zm)(m f c:I)(hx:GS x m)(hf:f<=256)(hc:c<=32)(w:Zl):
 eZ 200 #[x,iZ f,iZ c] w (iZ ((m/2^f%2^c:I):Y)):=by
 obtain⟨n,x1,x2,o,rfl,V,L,a,z,em⟩:=id hx;have k:=mk5 V L a z em;have W:=mk1 ((mk1 hx).lt);obtain⟨R,hR⟩:=vH (m/2^f%2^c);have HR:=mk1 (hR);rw[hR];by_cases h2:(f:Y)+(c:Y)<=256
 .have A:¬(256:Y)<(f:Y)+(c:Y):=S;go_enter func200,ntmps200;go_wp2;have X:=At4.made w 81 n x1 x2 o Z;have BL:=mk1 (aD (w:=w) (.cells #[U n,U x1,U x2,U o] 81));generalize pn _ _=y at X BL⊢;go_loopg [7,8] c (λgk s7 s8 wr=>gk<=c/\f+gk<=256/\s7=iZ ((m/2^(f+gk)%2^(c-gk):I):Y)/\s8=iZ ((f:Y)+(gk:Y)-1)/\y=wr)
  case atStart=>exact⟨S,S,by rw[A7 W.out (Z5 Z)];rfl,by congr 1<;>omega,Z⟩
  case round =>
   obtain⟨p,M,rfl,rfl,rfl⟩:=hrel;by_cases N:gk=0
   .subst N;have K:¬(f:Y)<=(f:Y)+((0:I):Y)-1:=S;rw[qg,wt,HR.out];go_wp2;go_ret;exact⟨_,Z,BL,Z⟩
   .obtain⟨i,u⟩:=vH (f+(gk-1));have Q:(f:Y)+(gk:Y)-1=(i:Y):=S;have K:(f:Y)<=(i:Y):=S;have T:=X.wd (i/64) S;have j:wd n x1 x2 o (i/64)<2^64:=Ly k.1 k.2.1 k.2.2.1 k.2.2.2.1;have b:wd n x1 x2 o (i/64)/2^(i%64)%2=m/2^i%2:=by rw[k.2.2.2.2];exact Fp (i:=i) S k.1 k.2.1 k.2.2.1 k.2.2.2.1
    have O:(i:Y).tdiv 64=((i/64:I):Y):=by rw[Y.tdiv_eq_ediv_of_nonneg S];omega
    have i3:(i:Y).tmod 64=((i%64:I):Y):=by rw[Y.tmod_eq_emod_of_nonneg S];omega
    have i4:(i/64:I)<4:=S;generalize wd n x1 x2 o (i/64)=v at T j b;have l:bits .and .u64 ((v:Y)/2^(i%64)) 1=((m/2^i%2:I):Y):=by
     have:=and_one (v:=(v/2^(i%64))) (yDv (yEu _ _) j);rw[b]at this;rw[<-this,yDH,xL];rfl
    obtain⟨t,r⟩:=vH (m/2^i%2);have q:=Ch (m:=m) (f:=f) (g:=gk) (c:=c) S p;rw[u,r]at q;have d:m/2^(f+gk)%2^(c-gk)<4294967296:=Zn (gD _ (rj dC)) (show 2^(c-gk)<=2^32 from qp dC S);rw[r]at l;generalize m/2^(f+gk)%2^(c-gk)=B at q d⊢;have hor:=or_bit (b:=B) t d S;have P:ZN.wrap ((B:Y)*2)=((2*B:I):Y):=by rw[show(B:Y)*2=((2*B:I):Y) by omega];exact yS S
    have C:ZN.wrap (t:Y)=(t:Y):=yS S;have s:=mk1 (u);have zx:=X.lt;rw[Q];go_wp2;go_roundg (gk-1)
    case measure=>omega
    case rel =>
     refine⟨S,S,?_,?_,Z⟩
     .rw[s.out,(mk1 q).out,<-hor,sg];rfl
     .congr 1;have:=s;omega
 .have h0:(256:Y)<(f:Y)+(c:Y):=S;go_enter func200,ntmps200;go_wp2;have X:=At4.made w 81 n x1 x2 o Z;have BL:=mk1 (aD (w:=w) (.cells #[U n,U x1,U x2,U o] 81));generalize pn _ _=y at X BL⊢;go_loopg [7,8] (256-f) (λgk s7 s8 wr=>gk<=c/\f+gk<=256/\s7=iZ ((m/2^(f+gk)%2^(c-gk):I):Y)/\s8=iZ ((f:Y)+(gk:Y)-1)/\y=wr)
  case atStart=>exact⟨S,S,by rw[A7 W.out (ZW S)];rfl,by congr 1<;>omega,Z⟩
  case round =>
   obtain⟨p,M,rfl,rfl,rfl⟩:=hrel;by_cases N:gk=0
   .subst N;have K:¬(f:Y)<=(f:Y)+((0:I):Y)-1:=S;rw[qg,wt,HR.out];go_wp2;go_ret;exact⟨_,Z,BL,Z⟩
   .obtain⟨i,u⟩:=vH (f+(gk-1));have Q:(f:Y)+(gk:Y)-1=(i:Y):=S;have K:(f:Y)<=(i:Y):=S;have C:i<256:=S;have T:=X.wd (i/64) S;have j:wd n x1 x2 o (i/64)<2^64:=Ly k.1 k.2.1 k.2.2.1 k.2.2.2.1;have b:wd n x1 x2 o (i/64)/2^(i%64)%2=m/2^i%2:=by rw[k.2.2.2.2];exact Fp (i:=i) C k.1 k.2.1 k.2.2.1 k.2.2.2.1
    generalize wd n x1 x2 o (i/64)=v at T j b;have A:v/2^(i%64)<2^64:=yDv (yEu _ _) j;have l:bits .and .u64 ((v:Y)/2^(i%64)) 1=((m/2^i%2:I):Y):=by
     have:=and_one (v:=(v/2^(i%64))) A;rw[b]at this;rw[<-this,yDH,xL];rfl
    obtain⟨t,r⟩:=vH (m/2^i%2);have O:t<2:=S;have q:=Ch (m:=m) (f:=f) (g:=gk) (c:=c) S p;rw[u,r]at q;have d:m/2^(f+gk)%2^(c-gk)<4294967296:=Zn (gD _ (rj dC)) (show 2^(c-gk)<=2^32 from qp dC S);rw[r]at l;generalize m/2^(f+gk)%2^(c-gk)=B at q d⊢;have P:ZN.wrap ((B:Y)*2)=((2*B:I):Y):=by rw[show(B:Y)*2=((2*B:I):Y) by omega];exact yS S
    have HN:=mk1 (q);have s:=mk1 (u);have zx:=X.lt;rw[Q];go_wp2;go_roundg (gk-1)
    case measure=>omega
    case rel =>
     refine⟨S,S,?_,?_,Z⟩
     .rw[s.out,HN.out,<-(or_bit (b:=B) t d O),sg];rfl
     .congr 1;have:=s;omega
section
def tbN(f:I->I):I->G Zm
 | 0=>[]
 | n+1=>tbN f n++wn (f n)
def iF(f:I->I):∀n,(tbN f n).length=4*n
 | 0=>rfl
 | n+1=>by
  show(tbN f n++wn _).length=_;rw[G.length_append,iF f n];rfl
def zA(f:I->I){a b:I}(k:b<4):∀n,a<n->(tbN f n)[4*a+b]? = (wn (f a))[b]?
 | n+1,ha=>by
  show(tbN f n++wn _)[4*a+b]? = _;by_cases h:a<n
  .rw[G.getElem?_append_left (by rw[iF];omega)];exact zA f k n h
  obtain rfl:a=n:=S;rw[G.getElem?_append_right (by rw[iF];omega),iF,I.add_sub_cancel_left]
def Fz{f g:I->I}:∀n,(∀j,j<n->f j=g j)->tbN f n=tbN g n
 | 0,_=>rfl
 | n+1,h=>by
  show tbN f n++wn (f n)=tbN g n++wn (g n);rw[Fz n λj k=>h j S,h n S]
def up(f:I->I)(i v j:I):I:=if j=i then v else f j
section
variable {W:Zl}{k a i v:Nat}{f:Nat->Nat}
def Pl(h:W.rangeAt k 0 (tbN f 16))(c:a<16):W.rangeAt k (4*a) (wn (f a)):=λj u b=>by
 have:=h (4*a+j) u (by rw[zA f (Zz.1 b).1 16 c];exact b);rw[Zs]at this;exact this
def Rz(h:Row W k (tbN f 16))(b:i<16):W.there k (4*i) 4:=λj c=>by
 have:=h.2.2 (4*i+j) (by rw[iF];omega);rw[Zs]at this;exact this
def Td(h:Row W k (tbN f 16))(d:i<16):Row (W.setCells k (4*i) (wn v)) k (tbN (up f i v) 16):=by
 refine⟨by rw[setCells_size];exact h.1,λj u c=>?_,by have:=ym h.2.2 k (4*i) (wn v);rw[iF]at this⊢;exact this⟩;have hl:=(Zz.1 c).1;rw[iF]at hl;have e:4*(j/4)+j%4=j:=S;rw[<-e,zA _ S 16 S]at c;rw[Zs,<-e];by_cases b:j/4=i
 .rw[show up f i v (j/4)=v from GD b]at c;rw[b];exact yj W k (4*i) (wn v) (Rz h d) _ u c
 rw[show up f i v (j/4)=f (j/4) from Id b]at c;exact su (Pl h.2.1 S) k (4*i) (wn v) (ZW (show 4*(j/4)+4<=4*i\/4*i+4<=4*(j/4) by omega)) _ u c
end
def gC(a b c:I):G Zm:=[U a,U b,U c,U 0]
def XC(a b c:I)(w:Zl):(aj 153 (.agg (gC a b c).toArray)).run prog w=.ok (jZ w.heap.size) (w.alloc (.cells (gC a b c).toArray 153)):=kR
def Sz(n:I)(w:Zl):(aj 81 (nv n)).run prog w=.ok (jZ w.heap.size) (w.alloc (.cells (wn n).toArray 81)):=kR
def QB(c:i<16)(w:Zl):(Instr.indexAt 284 (jZ k) (iZ i)).run prog w=.ok (oZ k (4*i)) w:=by
 have h1:¬(i:Y)<0:=S;have b:(i:Y)<16:=S;go_simp
def uPr:yZ 153:=yQ
def iPr:gZ 153 4:=gQ
def uNu:yZ 81:=yQ
def iNu:gZ 81 4:=gQ
def uWo:yZ 151:=yQ
def iWo:gZ 151 4:=gQ
def iTb{f:I->I}:(prog.info? 284).map (·.size)=J (tbN f 16).length:=by rw[iF];kernel_rfl
def TU(m q P:I):(m^q%P)*(m^q%P)%P=m^(q*2)%P:=by rw[<-tn,<-rn,I.mul_two]
def pwT(m P i j:I):I:=if j<i then m^j%P else 0
def BP(u z t P:I)(x y:Zm)(m n:I)(hQ:Gap u z t P)(hx:GS x m)(hy:GS y n)(w:Zl):
 ae prog 205 #[.agg #[U u,U z,U t,U 0],x,y] w (rZ w λe w'=>GS e (m^n%P)):=by
 have hP:=hQ.hP2;have kc:=hQ.hP;have ht:3<top:=dC;have hn:=hy.lt;have V:=mk1 (λi=>Zn (gD (m^i) (show 0<P by omega)) (show P<=top by omega));have H1:E (1=m^0%P):=(ZC (show 1<P by omega)).symm;obtain⟨gp,p⟩:=hE (ZM (gC u z t).toArray);have h5:E (∀(i j:I) W,i<top->j<top->ae prog 201 #[gp,nv i,nv j] W (rZ W λe w'=>e=nv (i*j%P))):=λi j W hi hj=>by
  rw[<-p.out];exact(pC u z t P _ _ i j hQ (fN hi) (fN hj) W).mono λe w' ⟨v,h1,A,k⟩=>⟨v,h1,A,k.nv⟩
 have hr:E (∀W,ae prog 148 #[nv m] W (rZ W λe w'=>e=nv m)):=λW=>kY (m:=m) (fN hx.lt) (w:=W)
 have k8:E (∀(i:I) W,i<top->ae prog 206 #[nv i] W (rZ W λe w'=>e=nv i)):=λi W hi=>kV (m:=i) (fN hi) (w:=W)
 have hw:E (∀(f:I) W,f<=256->ae prog 200 #[nv n,iZ f,iZ 4] W (rZ W λe w'=>e=iZ ((n/2^f%2^4:I):Y))):=λf W hf=>Fl _ n f 4 (fN hy.lt) hf dC W
 have HX:E (m<top):=hx.lt;obtain rfl:=hx.nv;obtain rfl:=hy.nv;clear hx hy hQ hP kc ht;refine hG w.heap.size λk3 hc=>?_
 refine hG (w.alloc (.cells (gC u z t).toArray 153)) λw1 h6=>?_
 refine hG w1.heap.size λk4 hp=>?_
 refine hG (w1.alloc (.cells (wn m).toArray 81)) λw2 h4=>?_
 refine hG w2.heap.size λk5 ha=>?_
 refine hG (w2.alloc (.cells (wn n).toArray 81)) λw3 g=>?_
 refine hG w3.heap.size λO h7=>?_
 refine hG (w3.alloc (.cells (wn 0).toArray 81)) λw4 T=>?_
 refine hG w4.heap.size λo X=>?_
 refine hG (w4.alloc (.cells (tbN (λ_=>0) 16).toArray 284)) λw5 h8=>?_
 refine hG (w5.setCells o 0 (tbN (up (λ_=>0) 0 1) 16)) λw6 Q=>?_
 have B1:=XC u z t w;have B2:=Sz m w1;have B3:=Sz n w2;rw[hc.out,h6.out,p.out]at B1;rw[hp.out,h4.out]at B2;rw[ha.out,g.out]at B3;have K5:=mk1 ((((((Mp.start w).new hc h6).new hp h4).new ha g).new h7 T).new X h8);have e6:tbN (up (λ_=>0) 0 1) 16=tbN (pwT m P 1) 16:=Fz 16 λj _=>by
  unfold up pwT;by_cases h:j=0
  .subst h;rw[GD Z,GD dC];exact H1.out
  .rw[Id h,Id S]
 have K6:E (Mp w w6 [(k3,gC u z t),(k4,wn m),(k5,wn n),(O,wn 0),(o,tbN (pwT m P 1) 16)] []):=by
  have:=K5.out.put 4 Q;rw[e6]at this;exact this
 obtain⟨vt,he⟩:=hE (ZM (tbN (up (λ_=>0) 0 1) 16).toArray);obtain⟨vm,L⟩:=hE (nv m);obtain⟨vn,hk⟩:=hE (nv n);rw[L.out]at B2 hr;rw[hk.out]at B3 hw;rw[show ZM #[U u,U z,U t,U 0]=gp from p.out,L.out,hk.out];go_enter func205,ntmps205;refine PW.bg [] ?_;refine PW.ns B1 ?_;refine PW.ns B2 ?_;refine PW.ns B3 ?_;refine PW.al h7 T ?_;refine PW.dn ?_;refine PW.bg [.agg (wn 1).toArray,.agg (tbN (up (λ_=>0) 0 1) 16).toArray] ?_;rw[he.out];refine PW.al X h8 ?_;refine PW.st Q he (K5.out.th 4) iTb kR ?_;refine PW.dn ?_;clear K5 h6 h4 g T h8 Q B1 B2 B3 hc hp ha h7 X he e6;refine Zq<|PW.rg [iZ 1] ?_
 refine ay ?_;go_loopg [8] 15 (λgk s8 wr=>∃i:I,i+gk=16/\1<=i/\s8=iZ i/\E (Mp w wr [(k3,gC u z t),(k4,wn m),(k5,wn n),(O,wn 0),(o,tbN (pwT m P i) 16)] []))
 case atStart=>exact⟨1,Z,dC,Z,K6⟩
 case round =>
  clear K6;obtain⟨i,kg,ke,rfl,K⟩:=hrel;refine Zq<|PW.rg [.bool (decide ((i:Y)<16))] ?_
  by_cases hi:i<16
  .have hq:(i:Y)<16:=S;rw[decide_eq_true hq];have M:ZN.wrap ((i:Y)-1)=((i-1:I):Y):=by rw[pk];omega
   have k2:ZN.wrap ((i:Y)+1)=((i+1:I):Y):=by rw[pk];omega
   have ep:pwT m P (i-1+1) (i-1)=m^(i-1)%P:=GD S;rw[show i-1+1=i by omega]at ep;have eq:m^(i-1)%P*m%P=m^i%P:=by
    rw[yF0,<-oB];show m^(i-1+1)%P=_;rw[show i-1+1=i by omega]
   have C:=h5.out (m^(i-1)%P) m;rw[eq,L.out]at C;obtain⟨va,r⟩:=hE (nv (m^(i-1)%P));obtain⟨vr,k⟩:=hE (nv (m^i%P));rw[r.out,k.out]at C;have HT:E (∀W,kZ wr W->W.rangeAt o (4*(i-1)) (wn (m^(i-1)%P))):=λW b=>by
    have:=Pl ((K.out.at_ 4).below b).2.1 (show i-1<16 by omega);rw[ep]at this;exact this
   refine Z6 rfl<|wp_skip<|Zq<|ay<|AW.begin 10 10 ?_
   refine AW.mv 0 ?_;refine AW.ro 1 (λW b=>((K.out.at_ 0).below b).2.1) p uPr iPr ?_;refine AW.mv 2 ?_;refine AW.va 3 (iZ (ZN.wrap ((i:Y)-1))) ?_;rw[M];refine AW.iv 4 (QB (k:=o) (i:=(i-1)) S) ?_;refine AW.ro 5 HT.out r uWo iWo ?_;refine AW.ro 6 (λW b=>((K.out.at_ 1).below b).2.1) L uNu iNu ?_;refine AW.gi 7 (λ_=>hr.out _) λW1 _=>?_
   refine AW.gi 8 (λ_=>C _ (V.out _) HX.out) λW2 _=>?_
   refine AW.ns 9 (QB (k:=o) (i:=i) hi W2) (ZF _ _) ?_;refine AW.fi (us:=wn (m^i%P)) k aK iWo (λb=>?_);have l:=K.out.grow b;have e7:tbN (up (pwT m P i) i (m^i%P)) 16=tbN (pwT m P (i+1)) 16:=Fz 16 λj _=>by
    unfold up pwT;by_cases h:j=i
    .rw[GD h,GD S,h]
    .rw[Id h];by_cases A:j<i
     .rw[GD A,GD S]
     .rw[Id A,Id S]
   obtain⟨W3,A⟩:=hE (W2.setCells o (4*i) (wn (m^i%P)));have R3:=Td (v:=m^i%P) (l.at_ 4) hi;rw[e7]at R3;have N:=mk1 (l.upd 4 A R3);rw[A.out];refine⟨Rz (l.at_ 4) hi,?_⟩;clear K l R3 b HT;refine PW.bb [iZ (ZN.wrap ((i:Y)+1))] ?_;rw[k2];go_wp2;go_roundg (gk-1)
   case measure=>omega
   case rel=>exact⟨i+1,S,S,Z,N⟩
  .have hq:¬(i:Y)<16:=S;obtain rfl:i=16:=S;have e0:pwT m P 16 0=m^0%P:=rfl;obtain⟨v0,k1⟩:=hE (nv (m^0%P));refine hG wr.heap.size λk9 hg=>?_
   refine hG (wr.alloc (.cells (wn 0).toArray 151)) λw7 hm=>?_
   refine hG (w7.setCells k9 0 (wn (m^0%P))) λw8 h9=>?_
   have T0:=Pl (a:=0) (K.out.at_ 4).2.1 dC;rw[e0]at T0;have K7:=mk1 (K.out.new hg hm);have K8:E (Mp w w8 [(k3,gC u z t),(k4,wn m),(k5,wn n),(O,wn 0),(o,tbN (pwT m P 16) 16),(k9,wn (m^(n/2^(4*64))%P))] []):=by
    rw[qv (show n<2^(4*64) from hn)];exact K7.out.put 5 h9
   refine Z2 rfl<|wp_exit<|PW.bg (P:=prog) [] ?_
   refine PW.ns (QB (k:=o) (i:=0) dC wr) ?_;refine PW.ro T0 k1 uWo iWo ?_;refine PW.al hg hm ?_;refine PW.st h9 k1 (K7.out.th 5) iWo aK ?_;refine PW.dn ?_;clear K K7 T0 hm h9 hg;refine Zq<|PW.rg [iZ 252] ?_
   refine ay ?_;go_loopg [10] 64 (λgk s10 wr=>gk<=64/\s10=iZ (4*(gk:Y)-4)/\E (Mp w wr [(k3,gC u z t),(k4,wn m),(k5,wn n),(O,wn 0),(o,tbN (pwT m P 16) 16),(k9,wn (m^(n/2^(4*gk))%P))] []))
   case atStart=>exact⟨Zo _,Z,K8⟩
   case round =>
    clear K8;obtain⟨kf,rfl,K⟩:=hrel;refine Zq<|PW.rg [.bool (decide ((0:Y)<=4*(gk:Y)-4))] ?_
    by_cases h0:0<gk
    .obtain⟨c,rfl⟩:∃c,gk=c+1:=⟨gk-1,S⟩
     rw[decide_eq_true (show(0:Y)<=4*((c+1:I):Y)-4 by omega)];have es:4*((c+1:I):Y)-4=((4*c:I):Y):=S;rw[es];have ka:ZN.wrap (((4*c:I):Y)-4)=4*(c:Y)-4:=by rw[pk];omega
     have ed:n/2^(4*c)=n/2^(4*(c+1))*2^4+n/2^(4*c)%2^4:=by
      rw[show n/2^(4*(c+1))=n/2^(4*c)/2^4 by rw[yCo,<-rn];rfl];omega
     have hd:n/2^(4*c)%2^4<16:=gD _ dC;have hu:=hw.out (4*c);generalize n/2^(4*c)%2^4=d at ed hd hu;generalize n/2^(4*(c+1))=q at ed K;have KQ:E (Mp w wr [(k3,gC u z t),(k4,wn m),(k5,wn n),(O,wn 0),(o,tbN (pwT m P 16) 16),(k9,wn (m^(q*2^0)%P))] []):=by rw[rx,ri];exact K
     refine Z6 rfl<|wp_skip<|Zq<|ay<|Zq<|PW.rg [iZ 0] ?_
     refine ay ?_;clear K;go_loopg [33] 4 (λgk s33 wr=>∃s:I,s+gk=4/\s33=iZ s/\E (Mp w wr [(k3,gC u z t),(k4,wn m),(k5,wn n),(O,wn 0),(o,tbN (pwT m P 16) 16),(k9,wn (m^(q*2^s)%P))] []))
     case atStart=>exact⟨0,Z,Z,KQ⟩
     case round =>
      clear KQ;obtain⟨s,kd,rfl,K⟩:=hrel;refine PW.rg [.bool (decide ((s:Y)<4))] ?_;by_cases hs:s<4
      .have hz:(s:Y)<4:=S;rw[decide_eq_true hz];have kb:ZN.wrap ((s:Y)+1)=((s+1:I):Y):=by rw[pk];omega
       have C:=h5.out (m^(q*2^s)%P) (m^(q*2^s)%P) wr (V.out _) (V.out _);rw[TU,uj,<-oB]at C;obtain⟨vq,r⟩:=hE (nv (m^(q*2^s)%P));obtain⟨vr,k⟩:=hE (nv (m^(q*2^s.succ)%P));rw[r.out,k.out]at C;refine Zq<|Z6 rfl<|wp_skip<|Zq<|ay<|PW.bb [] ?_
       refine PW.ro (K.out.at_ 0).2.1 p uPr iPr ?_;refine PW.ro (K.out.at_ 5).2.1 r uWo iWo ?_;refine PW.ro (K.out.at_ 5).2.1 r uWo iWo ?_;refine PW.gi C λw2 M=>?_
       have l:=mk1 (K.out.grow M);refine hG (w2.setCells k9 0 (wn (m^(q*2^s.succ)%P))) λw3 g=>?_
       have N:=mk1 (l.out.put 5 g);refine PW.st g k (l.out.th 5) iWo aK ?_;refine PW.dn ?_;clear K l M;refine PW.bb [iZ (ZN.wrap ((s:Y)+1))] ?_;rw[kb];go_wp2;go_roundg (gk-1)
       case measure=>omega
       case rel=>exact⟨s+1,S,Z,N⟩
      .have hz:¬(s:Y)<4:=S;obtain rfl:s=4:=S;have ep:pwT m P 16 d=m^d%P:=GD hd;have em:m^(q*2^4)%P*(m^d%P)%P=m^(n/2^(4*c))%P:=by rw[<-tn,<-rn,<-ed]
       have C:=h5.out (m^(q*2^4)%P) (m^d%P);obtain⟨vq,r⟩:=hE (nv (m^(q*2^4)%P));obtain⟨vd,k0⟩:=hE (nv (m^d%P));obtain⟨vr,k⟩:=hE (nv (m^(n/2^(4*c))%P));rw[em,r.out,k0.out,k.out]at C;have HT:E (∀W,kZ wr W->W.rangeAt o (4*d) (wn (m^d%P))):=λW b=>by
        have:=Pl ((K.out.at_ 4).below b).2.1 hd;rw[ep]at this;exact this
       refine Zq<|Z2 rfl<|wp_exit<|AW.begin (P:=prog) 8 8 ?_
       refine AW.ro 0 (λW b=>((K.out.at_ 0).below b).2.1) p uPr iPr ?_;refine AW.ro 1 (λW b=>((K.out.at_ 5).below b).2.1) r uWo iWo ?_;refine AW.ro 2 (λW b=>((K.out.at_ 2).below b).2.1) hk uNu iNu ?_;refine AW.mv 3 ?_;refine AW.gi 4 (λ_=>hu _ S) λW1 _=>?_
       refine AW.iv 5 (QB (k:=o) (i:=d) hd) ?_;refine AW.ro 6 HT.out k0 uWo iWo ?_;refine AW.gi 7 (λ_=>C _ (V.out _) (V.out _)) λW2 _=>?_
       refine AW.fi (us:=wn (m^(n/2^(4*c))%P)) k aK iWo (λb=>?_);have l:=K.out.grow b;obtain⟨W3,A⟩:=hE (W2.setCells k9 0 (wn (m^(n/2^(4*c))%P)));have N:=mk1 (l.put 5 A);rw[A.out];refine⟨l.th 5,?_⟩;clear K l b HT;refine PW.bb [iZ (ZN.wrap (((4*c:I):Y)-4))] ?_;rw[ka];go_wp2;go_roundg c
       case measure=>omega
       case rel=>exact⟨S,Z,N⟩
    .obtain rfl:gk=0:=S;obtain⟨vr,k⟩:=hE (nv (m^(n/2^(4*0))%P));have en:m^(n/2^(4*0))%P=m^n%P:=by rw[xe,rx,I.div_one]
     have b:=k8.out _ wr (V.out (n/2^(4*0)));rw[k.out]at b;refine Z2 rfl<|wp_exit<|PW.bg (P:=prog) [] ?_
     refine PW.ro (K.out.at_ 5).2.1 k uWo iWo ?_;refine PW.gi b λw2 M=>?_
     have l:=mk1 (K.out.grow M);refine hG (w2.setCells O 0 (wn (m^(n/2^(4*0))%P))) λw3 g=>?_
     have N:=mk1 (l.out.put 3 g);refine PW.st g k (l.out.th 3) iNu aK ?_;refine PW.dn ?_;refine wp_ret<|Zx (aG 6 (T:=81) Z (show Row w3 O (wn (m^(n/2^(4*0))%P)) from N.out.at_ 3) Z uNu iNu) Z ?_
     exact⟨_,Z,N.out.bl,en ▸ fN (V.out _)⟩
end
def p1:I:=115792089237316195423570985008687907852837564279074904382605163141518161494337
def TK(w:Zl):
 eZ 67 #[iZ 0] w (.agg #[U 18446744069414583343,U 18446744073709551615,U 18446744073709551615,U 18446744073709551615,U 4294968273,U 0,U 0,U 0]):=by
 let⟨s0,n,a0,f,c,q⟩:=Cx 0 4294968273 dC dC
 let⟨s1,m,l,g,b,t⟩:=mC 0 0 dC dC c
 let⟨s2,o,a2,i,k,s⟩:=mC 0 0 dC dC b
 let⟨s3,p,r,d,j,e3⟩:=mC 0 0 dC dC k
 have c:n=1:=S;have b:m=1:=S;have k:o=1:=S;have j:p=1:=S;have f:s0=18446744069414583343:=S;have g:s1=18446744073709551615:=S;have i:s2=18446744073709551615:=S;have d:s3=18446744073709551615:=S;subst c b k j f g i d;replace l:∀w,(callFunc 139 #[U 0,U 0,U 1]).run prog w=.ok (.value (.tuple #[U 18446744073709551615,U 1])) w:=l;replace a0:∀w,(callFunc 139 #[U 0,U 4294968273,U 0]).run prog w=.ok (.value (.tuple #[U 18446744069414583343,U 1])) w:=a0;go_enter func67,ntmps67;go_wp2;refine yi 5 ?_;rw[ZY];go_wp2_with (simp only[a0])
 rw[ZY];go_wp2_with (simp only[l])
 rw[ZY];go_wp2_with (simp only[l])
 rw[ZY];go_wp2_with (simp only[l])
 rw[ZY];go_wp2
 refine Zx (by simp[results,Tryz.results67,go_sem];rfl) Z ?_;exact⟨_,Z,below3 _ _ _,Z⟩
def TJ(w:Zl):
 eZ 67 #[iZ 1] w (.agg #[U 13822214165235122497,U 13451932020343611451,U 18446744073709551614,U 18446744073709551615,U 4624529908474429119,U 4994812053365940164,U 1,U 0]):=by
 let⟨s0,o,a0,f,c,r⟩:=Cx 0 4624529908474429119 dC dC
 let⟨s1,n,m,g,b,t⟩:=mC 0 4994812053365940164 dC dC c
 let⟨s2,p,a2,i,k,s⟩:=mC 0 1 dC dC b
 let⟨s3,q,l,d,j,e3⟩:=mC 0 0 dC dC k
 have c:o=1:=S;have b:n=1:=S;have k:p=1:=S;have j:q=1:=S;have f:s0=13822214165235122497:=S;have g:s1=13451932020343611451:=S;have i:s2=18446744073709551614:=S;have d:s3=18446744073709551615:=S;subst c b k j f g i d;replace a0:∀w,(callFunc 139 #[U 0,U 4624529908474429119,U 0]).run prog w=.ok (.value (.tuple #[U 13822214165235122497,U 1])) w:=a0;replace m:∀w,(callFunc 139 #[U 0,U 4994812053365940164,U 1]).run prog w=.ok (.value (.tuple #[U 13451932020343611451,U 1])) w:=m;replace a2:∀w,(callFunc 139 #[U 0,U 1,U 1]).run prog w=.ok (.value (.tuple #[U 18446744073709551614,U 1])) w:=a2;replace l:∀w,(callFunc 139 #[U 0,U 0,U 1]).run prog w=.ok (.value (.tuple #[U 18446744073709551615,U 1])) w:=l;go_enter func67,ntmps67;go_wp2;refine yi 5 ?_;rw[ZY];go_wp2_with (simp only[a0])
 rw[ZY];go_wp2_with (simp only[m])
 rw[ZY];go_wp2_with (simp only[a2])
 rw[ZY];go_wp2_with (simp only[l])
 rw[ZY];go_wp2
 refine Zx (by simp[results,Tryz.results67,go_sem];rfl) Z ?_;exact⟨_,Z,below3 _ _ _,Z⟩
def gv0:Zm:=.agg #[U 4294968273,U 0,U 0,U 0]
def gv1:Zm:=.agg #[U 4624529908474429119,U 4994812053365940164,U 1,U 0]
def YO:Gap 4624529908474429119 4994812053365940164 1 p1:=⟨dC,dC,dC,ZW ⟨4994812053365940165,dK,dC⟩,dK,dK,dK⟩
def xT:
 cZ 93 #[] w λe w'=>e=.returned (.agg #[U 4294968273,U 0,U 0,U 0])/\w'=w.alloc (.cells #[U 4294968273,U 0,U 0,U 0] 153):=by
 go_enter func93,ntmps93;go_wp2;refine Zx (by simp[results,Tryz.results93,go_sem];rfl) Z ?_;exact⟨Z,Z⟩
def E9:
 cZ 84 #[] w λe w'=>e=.returned (.agg #[U 4624529908474429119,U 4994812053365940164,U 1,U 0])/\w'=w.alloc (.cells #[U 4624529908474429119,U 4994812053365940164,U 1,U 0] 153):=by
 go_enter func84,ntmps84;go_wp2;refine Zx (by simp[results,Tryz.results84,go_sem];rfl) Z ?_;exact⟨Z,Z⟩
section
abbrev Bs:=R Fk
def ub(x:Fk):Y:=(x.toNat:Y)
def encB(x:Fk):Zm:=.int .u8 (ub x)
abbrev LB:=G (I × Bs)
abbrev hZ(w:Zl)(b o:I)(d:Bs):Prop:=Go.Sort.Holds encB w b o d
structure Only(b off n:I)(w w':Zl):Prop where
 os:w'.os=w.os
 tape:w'.tape=w.tape
 output:w'.output=w.output
 size:w.heap.size<=w'.heap.size
 block:∀k,k<w.heap.size->k≠b->w'.heap[k]? = w.heap[k]?
 cell:∀o,(o<off\/off+n<=o)->w'.cell? ⟨b,o,F⟩=w.cell? ⟨b,o,F⟩
 froz:∀o,w'.frozen? ⟨b,o,F⟩=w.frozen? ⟨b,o,F⟩
variable {b off n:Nat}{w w1 w2:Zl}
def Only.refl(b off n:I)(w:Zl):Only b off n w w:=⟨Z,Z,Z,Zo _,λ_ _ _=>rfl,λ_ _=>rfl,λ_=>rfl⟩
def Only.trans(h:Only b off n w w1)(k:Only b off n w1 w2):Only b off n w w2:=
 ⟨k.os.trans h.os,k.tape.trans h.tape,k.output.trans h.output,Zw h.size k.size,
  λi c d=>(k.block i (Zn c h.size) d).trans (h.block i c d),
  λo ho=>(k.cell o ho).trans (h.cell o ho),λo=>(k.froz o).trans (h.froz o)⟩
def Only.setCell(h:Only b off n w w1)(h1:off<=o)(f:o<off+n)(v:Zm):Only b off n w (w1.setCell ⟨b,o,F⟩ v):=by
 refine h.trans ⟨Z,Z,Z,by simp,λk _ d=>yDn _ _ _ _ d,λc ho=>?_,λc=>by simp⟩;exact yz _ _ _ _ (by intro e;simp only[yFW.injEq,and_true,true_and]at e;omega)
def Only.below(h:Only b off n w w1){B:I}(d:B<=w.heap.size)(e:B<=b):Below B w w1:=
 ⟨h.os,h.tape,h.output,h.size,λk c=>h.block k S S⟩
section
variable {α:Type}[Inhabited α]{enc:α->Zm}{d:Array α}
def Holds.lt(h:FE enc w b off d)(hd:0<d.size):b<w.heap.size:=vj _ _ (h 0 hd).1
def Holds.same(h:FE enc w b o d)(k:Only b off n w w1)(hd:o+d.size<=off\/off+n<=o):FE enc w1 b o d:=by
 intro j c;rw[k.cell _ S,k.froz];exact h j c
def Holds.below{B:I}(h:FE enc w b off d)(k:Below B w w1)(c:b<B):FE enc w1 b off d:=by
 intro j e;rw[k.cell (p:=⟨b,off+j,F⟩) c,k.frozen (p:=⟨b,off+j,F⟩) c];exact h j e
def Holds.drewN(h:FE enc w b off d)(q:I):FE enc (w.drewN q) b off d:=h
def Holds.set(h:FE enc w b off d)(c:i<d.size)(x:α):FE enc (w.setCell ⟨b,off+i,F⟩ (enc x)) b off (d.setIfInBounds i x):=by
 intro j k;rw[Array.size_setIfInBounds]at k;rw[AT];by_cases e:j=i
 .subst e;rw[getElem!_set_same d j x c];exact⟨yDy _ _ _ (h j k).1,(h j k).2⟩
 rw[getElem!_set_other d i j x e,yz _ _ _ _ (by intro e';simp only[yFW.injEq,and_true,true_and]at e';omega)];exact h j k
def Holds.new(w:Zl)(t:ZR)(d:Array α):FE enc (w.alloc (.cells (d.map enc) t)) w.heap.size 0 d:=by
 intro j k;rw[oX,xn];refine⟨?_,Z⟩;simp only[Zs,Array.getElem?_map,Array.getElem?_eq_getElem k,GJ.map_some,getElem!_pos d j k]
def Holds.made(w:Zl)(t:ZR)(n:I)(x:α):FE enc (w.alloc (.cells (madeCells #[enc x] n) t)) w.heap.size 0 (ZA n x):=by
 intro j k;rw[ZL]at k;rw[oX,xn];refine⟨?_,Z⟩;rw[getElem!_pos _ j (by simpa using k),xh];simp[madeCells,k,yFF]
end
section
variable {w w1:Zl}{b o n:Nat}
def heap_setCells(b:I){k:I}(c:k≠b):∀(vs:G Zm) (p:I) (w:Zl),(w.setCells b p vs).heap[k]? = w.heap[k]?
 | [],_,_=>rfl
 | v :: r,p,w=>by rw[World.setCells,heap_setCells b c r (p+1) _,yDn _ _ _ _ c]
def Holds.setCells{bs r:Bs}(h:hZ w b o bs)(vs:G Zm)(p:I)(e:r.size=bs.size)(f:p+vs.length<=bs.size)
 (h1:∀j (k:j<vs.length),vs[j]=encB r[p+j]!) (c:∀j,j<bs.size->j<p\/p+vs.length<=j->r[j]! = bs[j]!):hZ (w.setCells b (o+p) vs) b o r:=by
 intro j k;rw[e]at k;rw[World.frozen?_setCells];refine⟨?_,(h j k).2⟩;by_cases d:j<p\/p+vs.length<=j
 .rw[World.cell?_setCells_out b vs (o+p) w ⟨b,o+j,F⟩ (λ_ _=>by simp only;omega),c j k d];exact(h j k).1
 have c:j-p<vs.length:=S;have:=World.cell?_setCells_in b vs (o+p) w (λi g=>by
  have:=(h (p+i) S).1;rw[<-tz]at this;rw[this];rfl) (j-p) c
 rw[show o+p+(j-p)=o+j by omega]at this;rw[this,h1 (j-p) c,show p+(j-p)=j by omega]
def app_front(a r:Bs)(j:I)(k:j<a.size):(a++r)[j]! = a[j]:=by
 have h:j<(a++r).size:=by rw[pq];omega
 rw[getElem!_pos (a++r) j h,R.getElem_append_left k]
def app_back(a r:Bs)(j:I)(h1:a.size<=j)(k:j<a.size+r.size):(a++r)[j]! = r[j-a.size]!:=by
 have h:j<(a++r).size:=by rw[pq];omega
 rw[getElem!_pos (a++r) j h,R.getElem_append_right h1,getElem!_pos r (j-a.size) S]
def rep_at(n j:I)(h:j<n):(ZA n (0:Fk))[j]! = 0:=by
 have k:j<(ZA n (0:Fk)).size:=by rw[ZL];exact h
 rw[getElem!_pos (ZA n (0:Fk)) j k,xh]
def conv_str(P:ai)(src k e:ZR)(hs:P.underlying src=J (.slice e))(l:P.underlying e=J (.int .u8))(hd:P.underlying k=J .string)
 (w:Zl) (b o n cap:I) (bs:Bs) (p:hZ w b o bs) (g:bs.size=n):(convert src k (qZ b o n cap)).run P w=.ok (.string ⟨bs⟩) w:=by
 have h:=run_convert_bytes_back (P:=P) w src k e ⟨b,o,F⟩ cap bs.toList hs l hd (λj m=>by
  have c:j<bs.size:=by simpa using m
  have f:=(p j c).1;rw[getElem!_pos bs j c]at f;have i:(⟨b,o,F⟩:Addr).add j=⟨b,o+j,F⟩:=by
   unfold Addr.add;by_cases d:j=0
   .subst d;rfl
   rw[Id d]
  rw[i,f];simp[encB,ub])
 simpa[g]using h
end
section
def slice22:prog.underlying 22=J (.slice 5):=kR
def info5:(prog.info? 5).map (λi=>(i.zero,i.size,i.bytes))=J (J (.int .u8 0),1,1):=kR
def int5:prog.underlying 5=J (.int .u8):=kR
def str9:prog.underlying 9=J .string:=kR
end
end
def be8(x:I):Bs:=#[ZG (x/72057594037927936),ZG (x/281474976710656),ZG (x/1099511627776),ZG (x/4294967296),ZG (x/16777216),ZG (x/65536),ZG (x/256),ZG x]
def be32(a b c d:I):Bs:=be8 d++be8 c++be8 b++be8 a
def tB(x:I):ub (ZG x)=((x%256:I):Y):=by
 rw[ub,Fk.toNat_ofNat']
def byte_at{x:I}:(gM .u8 ((x:Y)/(k:Y)%256))=encB (ZG (x/k)):=by
 rw[encB,tB,yFT,yDH];rfl
def Oq{x:I}(hx:x<2^64):(gM .u8 ((x:Y)/72057594037927936))=encB (ZG (x/72057594037927936)):=by
 rw[encB,tB];exact congrArg (gM .u8) S
def Yp{bs:Bs}{v0 v1 v2 k d c b e:Fk}(hs:bs.size=8):
 (((((((bs.setIfInBounds 0 v0).setIfInBounds 1 v1).setIfInBounds 2 v2).setIfInBounds 3 k).setIfInBounds 4 d).setIfInBounds 5 c).setIfInBounds 6 b).setIfInBounds 7 e=#[v0,v1,v2,k,d,c,b,e]:=by
 let⟨l⟩:=bs
 match l,hs with
 | [_,_,_,_,_,_,_,_],_=>simp
def lP(g o n cap x:I)(bs:Bs)(w:Zl)(y:8<=n)(C:n<=cap)(b:cap<=1048576)(hx:x<2^64)(hs:bs.size=8)(k:hZ w g o bs):
 cZ 166 #[qZ g o n cap,U x] w λe w'=>e=.returned (.tuple #[])/\Only g o 8 w w'/\hZ w' g o (be8 x):=by
 obtain⟨p,j⟩:=k 0 S;obtain⟨c1,f1⟩:=k 1 S;obtain⟨c2,f2⟩:=k 2 S;obtain⟨t,f3⟩:=k 3 S;obtain⟨A,z⟩:=k 4 S;obtain⟨u,s⟩:=k 5 S;obtain⟨a,v⟩:=k 6 S;obtain⟨r,q⟩:=k 7 S;rw[qg]at p j;go_enter func166,ntmps166;go_wp2;have v0:(gM .u8 ((x:Y)/72057594037927936))=encB (ZG (x/72057594037927936)):=Oq (x:=x) hx;have v1:(gM .u8 ((x:Y)/281474976710656%256))=encB (ZG (x/281474976710656)):=byte_at (x:=x) (k:=281474976710656);have v2:(gM .u8 ((x:Y)/1099511627776%256))=encB (ZG (x/1099511627776)):=byte_at (x:=x) (k:=1099511627776);have c:(gM .u8 ((x:Y)/4294967296%256))=encB (ZG (x/4294967296)):=byte_at (x:=x) (k:=4294967296);have m:(gM .u8 ((x:Y)/16777216%256))=encB (ZG (x/16777216)):=byte_at (x:=x) (k:=16777216);have f:(gM .u8 ((x:Y)/65536%256))=encB (ZG (x/65536)):=byte_at (x:=x) (k:=65536);have d:(gM .u8 ((x:Y)/256%256))=encB (ZG (x/256)):=byte_at (x:=x) (k:=256);have l:(gM .u8 ((x:Y)%256))=encB (ZG x):=by unfold encB;rw[tB,yFT];rfl
 rw[v0,v1,v2,c,m,f,d,l]
 go_end0
 refine⟨Z,?_,?_⟩
 .exact((((((((Only.refl g o 8 w).setCell (o:=o) S S _).setCell (o:=o+1) S S _).setCell (o:=o+2) S S _).setCell (o:=o+3) S S _).setCell (o:=o+4) S S _).setCell (o:=o+5) S S _).setCell (o:=o+6) S S _).setCell (o:=o+7) S S _
 have:=Yp (bs:=bs) hs (v0:=(ZG (x/72057594037927936))) (v1:=(ZG (x/281474976710656))) (v2:=(ZG (x/1099511627776))) (k:=(ZG (x/4294967296))) (d:=(ZG (x/16777216))) (c:=(ZG (x/65536))) (b:=(ZG (x/256))) (e:=(ZG x));rw[be8,<-this];exact Holds.set (Holds.set (Holds.set (Holds.set (Holds.set (Holds.set (Holds.set (Holds.set (mk1 k).out (i:=0) S _) (i:=1) (by simp;omega) _) (i:=2) (by simp;omega) _) (i:=3) (by simp;omega) _) (i:=4) (by simp;omega) _) (i:=5) (by simp;omega) _) (i:=6) (by simp;omega) _) (i:=7) (by simp;omega) _
def cK(x:I):(be8 x).size=8:=rfl
def Ci{a c d:I}:(be32 a b c d).size=32:=by simp only[be32,pq,cK]
def Holds.part{d e:Bs}(h:hZ w g o d)(c:p+e.size<=d.size)(k:∀j,j<e.size->e[j]! = d[p+j]!):hZ w g (o+p) e:=by
 intro j b;rw[k j b,tz];exact h (p+j) S
def Holds.join{a c d:I}(l:hZ w g 0 (be8 d))(h1:hZ w g 8 (be8 c))(i:hZ w g 16 (be8 b))(m:hZ w g 24 (be8 a)):hZ w g 0 (be32 a b c d):=by
 intro j f;rw[Ci]at f;have e:be32 a b c d=be8 d++be8 c++be8 b++be8 a:=rfl;have s1:(be8 d++be8 c).size=16:=by simp only[pq,cK]
 have s2:(be8 d++be8 c++be8 b).size=24:=by simp only[pq,cK]
 by_cases k:j<8
 .have:=l j (by rw[cK];exact k);rw[e,app_front _ _ j S,<-getElem!_pos (be8 d++be8 c++be8 b) j S,app_front _ _ j S,<-getElem!_pos (be8 d++be8 c) j S,app_front _ _ j (by rw[cK];exact k),<-getElem!_pos (be8 d) j (by rw[cK];exact k)];exact this
 by_cases n:j<16
 .have:=h1 (j-8) (by rw[cK];omega);rw[show 8+(j-8)=0+j by omega]at this;rw[e,app_front _ _ j S,<-getElem!_pos (be8 d++be8 c++be8 b) j S,app_front _ _ j S,<-getElem!_pos (be8 d++be8 c) j S,app_back _ _ j (by rw[cK];omega) (by rw[cK,cK];omega),cK];exact this
 by_cases o:j<24
 .have:=i (j-16) (by rw[cK];omega);rw[show 16+(j-16)=0+j by omega]at this;rw[e,app_front _ _ j S,<-getElem!_pos (be8 d++be8 c++be8 b) j S,app_back _ _ j S (by rw[s1,cK];omega),s1];exact this
 have:=m (j-24) (by rw[cK];omega);rw[show 24+(j-24)=0+j by omega]at this;rw[e,app_back _ _ j S (by rw[s2,cK];omega),s2];exact this
def YL(a b c d:I)(w:Zl):(yDK 81 (.agg #[U a,U b,U c,U d]) (iZ 0)).run prog w=.ok (U a) w:=kR
def YK(a b c d:I)(w:Zl):(yDK 81 (.agg #[U a,U b,U c,U d]) (iZ 1)).run prog w=.ok (U b) w:=kR
def YJ(a b c d:I)(w:Zl):(yDK 81 (.agg #[U a,U b,U c,U d]) (iZ 2)).run prog w=.ok (U c) w:=kR
def YI(a b c d:I)(w:Zl):(yDK 81 (.agg #[U a,U b,U c,U d]) (iZ 3)).run prog w=.ok (U d) w:=kR
def qU(p:I)(h:hZ w g 0 (ZA 32 0))(b:p+8<=32):hZ w g p (ZA 8 (0:Fk)):=by
 have:=Holds.part (p:=p) (e:=ZA 8 0) h (by simpa using b) (λj k=>by
  rw[ZL]at k;rw[rep_at 8 j k,rep_at 32 (p+j) S])
 rwa[Zs]at this
def Cr(x:Zm)(m:I)(w:Zl)(hx:GS x m):
 dZ 96 #[x] w λe w'=>∃g a b c d:I,e=sZ g 32 32/\w.heap.size<=g/\x=.agg #[U a,U b,U c,U d]/\hZ w' g 0 (be32 a b c d):=by
 obtain⟨a,b,c,d,rfl,X,N,hc,hd,Q⟩:=hx;clear Q;have V:∀w:Zl,(Instr.makeSlice 22 (iZ 32) (iZ 32)).run prog w=.ok (sZ w.heap.size 32 32) (w.alloc (.cells (madeCells #[.int .u8 0] 32) 5)):=
  run_make_row' (P:=prog) 22 5 (.int .u8 0) 1 slice22 info5 Z .i64 .i64 32 S S
 go_enter func96,ntmps96;go_wp2;refine yi 5 ?_;have f:hZ ((w.alloc (.cells #[U a,U b,U c,U d] 81)).alloc (.cells (madeCells #[.int .u8 0] 32) 5)) (w.heap.size+1) 0 (ZA 32 0):=by
  have:=Holds.made (enc:=encB) (w.alloc (.cells #[U a,U b,U c,U d] 81)) 5 32 0;rw[Zy]at this;exact this
 have o:=below2 w (.cells #[U a,U b,U c,U d] 81) (.cells (madeCells #[.int .u8 0] 32) 5);generalize ((w.alloc (.cells #[U a,U b,U c,U d] 81)).alloc (.cells (madeCells #[.int .u8 0] 32) 5))=W at f o⊢;have p:E (kZ w W):=o;generalize O:w.heap.size+1=g at f⊢;have l:=mk1 (O);have j:=qU 16 f S;have i:=qU 8 f S;have k:=qU 0 f S;have C:=YL a b c d;have A:=YK a b c d;have K:=YJ a b c d;have M:=YI a b c d;rw[ZY];go_wp2_with (simp only[C])
 apply(lP g 24 8 8 a _ _ S S S X (by rw[ZL]) (qU 24 f S)).mono;rintro e w1 ⟨rfl,u,b1⟩;replace j:=Holds.same j u (by simp);replace i:=Holds.same i u (by simp);replace k:=Holds.same k u (by simp);have r:=mk1 (p.trans (u.below p.size (oN l)));go_wp2_with fail
 rw[ZY];go_wp2_with (simp only[A])
 apply(lP g 16 16 16 b _ _ S S S N (by rw[ZL]) j).mono;rintro e w2 ⟨rfl,t,q⟩;replace i:=Holds.same i t (by simp);replace k:=Holds.same k t (by simp);replace b1:=Holds.same b1 t (by simp);have s:=mk1 (r.trans (t.below r.size (oN l)));go_wp2_with fail
 rw[ZY];go_wp2_with (simp only[K])
 apply(lP g 8 24 24 c _ _ S S S hc (by rw[ZL]) i).mono;rintro e w3 ⟨rfl,v,z⟩;replace k:=Holds.same k v (by simp);replace b1:=Holds.same b1 v (by simp);replace q:=Holds.same q v (by simp);have n:=mk1 (s.trans (v.below s.size (oN l)));go_wp2_with fail
 rw[ZY];go_wp2_with (simp only[M])
 apply(lP g 0 32 32 d _ _ S S S hd (by rw[ZL]) k).mono;rintro e w4 ⟨rfl,y,T⟩;replace b1:=Holds.same b1 y (by simp);replace q:=Holds.same q y (by simp);replace z:=Holds.same z y (by simp);have L:=mk1 (n.trans (y.below n.size (oN l)));go_wp2_with fail
 rw[ZY];go_wp2
 go_ret;exact⟨_,Z,L,g,a,b,c,d,Z,oN l,Z,(mk1 (Holds.join T z q b1)).out⟩
end Go.Proofs.YtndpeoebngkhmaaGreat
