import Derived.Deep.LoopGhost
import Derived.Deep.RegionHeld3
import Derived.Deep.CutRange
import Derived.Deep.DeepCutAuto
import Derived.Laws.MakeOwn
import Derived.ChangeKeysEq
import Derived.Deep.AppendSrc
import Derived.Lib.AppendZeros
import Derived.LoopN
import Derived.Deep.RegionWith
import Derived.Test.YtjnchldodncnbaaGreatpr2
set_option linter.unusedVariables false
set_option linter.constructorNameAsVariable false
set_option linter.unusedSimpArgs false
set_option maxRecDepth 1000000
set_option maxHeartbeats 4000000
namespace Go.Proofs.YtjnchldodncnbaaGreat
open _root_.Array renaming getElem?_append_left->Yf,getElem?_eq_getElem->Uj,getElem?_toList->UF,length_toList->TR,mk->YV,replicate->TP,size_append->UA,size_extract->VJ,toArray_toList->XT
open _root_.Bool renaming noConfusion->XQ
open _root_.Classical renaming byContradiction->U5
open _root_.Fin renaming ofNat->Vy
open _root_.Go renaming Addr->V5,Calls->TW,Value->TC,World->TA,bits_or_u64_nat->XW,bodyPost_ret->TM,rounds_succ->Ul,size_madeCells->ZK,undef->VU,wp_block->V3,wp_cond_false->UG,wp_cond_true->UC,wp_exit->Z8,wp_loop_ghost->Yv,wp_loop_rounds->VX,wp_ret->UZ,wp_seq->TI,wp_skip->Vg
open _root_.Go.Act renaming put->Ug
open _root_.Go.Addr renaming add_mid->yBz
open _root_.Go.Builtin renaming append_->Ur
open _root_.Go.Calls renaming quiet_of_same->UQ
open _root_.Go.Exit renaming inBlock->Xl
open _root_.Go.Instr renaming alloc->yAj,indexAt->UP,makeSlice->VI
open _root_.Go.IntKind renaming u64->Uv
open _root_.Go.Lib renaming wpList_append_run->Vi
open _root_.Go.Op renaming eqItems->yAX
open _root_.Go.Value renaming agg->Um,int->UV
open _root_.Go.World renaming alloc->U2,cell?_alloc_new->Us,setCell->Wb,size_alloc->TQ
open _root_.Int renaming natCast_mul->V0,natCast_pow->WC,natCast_zero->Ux,neg_neg->yBP,ofNat_inj->XY,toNat_natCast->YB
open _root_.List renaming cons->Yn,forall_mem_cons->yAh,getElem?_eq_some_iff->T9,getElem?_map->UX,getElem?_toArray->XJ,length_map->Uk,mem_cons->U0,mem_cons_of_mem->Uq,mem_cons_self->Uz,mem_range->U4,not_mem_nil->Ud,range->US,setIfInBounds_toArray->TD,set_cons_succ->TK,set_cons_zero->TL,size_toArray->UH
open _root_.Nat renaming add_mod->XG,add_mul->WE,add_zero->VK,eq_zero_or_pos->yAB,le_of_lt->V6,le_refl->TG,le_trans->TU,left_le_or->ZN,lt_of_lt_of_le->TF,lt_succ_self->Xs,mod_eq_of_lt->Uf,mod_lt->Vm,mul_add->WL,mul_assoc->VV,mul_comm->Ut,mul_le_mul->VR,mul_le_mul_left->WJ,mul_one->Wq,mul_succ->XV,mul_zero->XZ,ne_of_gt->U3,ne_of_lt->Vl,or_lt_two_pow->yAN,pos_of_neZero->XU,right_le_or->ZD,sub_self->Yg,zero_add->TO
open _root_.Option renaming isSome_iff_exists->UT,map_eq_some_iff->TJ,some->Uc
open _root_.Or renaming inl->Ub
open _root_.Prod renaming mk->Vz
open _root_.UInt8 renaming ofNat->TV
open Go.Proofs.Tryz
section
open Go.RowKit Go.Sort
variable {P:Nat}[NeZero P]{N:Nat}
theorem u138:(prog.underlying 194).map (·.isRow)=some true:=kR
theorem i138:(prog.info? 194).map (·.size)=some 257:=kR
theorem Tb:(prog.info? 193).map (·.size)=some 1:=kR
theorem Qr:(prog.underlying 193).map (·.isRow)=some false:=kR
theorem NH(w:TA):(yAj 194 true (.tuple #[])).run prog w=.ok (.pointer (some ⟨w.heap.size,0,none⟩)) (w.alloc (.cells (dg (λ_=>0)).toArray 194)):=kR
theorem JA{n:Nat}(hn:n<top):Gives 145 #[nv n] (dv (fE n)):=by
 intro w;go_enter func145,ntmps145;refine RG.Hl (v0:=nv n) (n:=33) kR kR kR ?_;intro a0 h2 f0;have h0:=RG.St.begin w;have t:RG.M w w.heap.size [] 33 [] [] [(0,.v (nv n))] a0 _:=⟨h0,h2,⟨f0,yB5⟩⟩
 repeat refine TI ?_
 refine t.T [.m 0,.m 1] [(0,wn n),(1,dg (λ_=>0))] [] [wn n,dg (λ_=>0)] [1,2] ⟨RG.mk 0 44,RG.pU 1 rfl rfl _ rfl 194 rfl NH,yB5⟩ ?_;intro Z Y a1 w1 j;repeat refine TI ?_
 refine j.T [.m 2] [(0,dg (λ_=>0))] [] [wn n,dg (λ_=>0),dg (λ_=>0)] [1,2,3] ⟨RG.pU 2 rfl rfl _ rfl 194 rfl NH,yB5⟩ ?_;intro X a2 w2 k;repeat refine TI ?_
 refine k.U [.x (iZ 0)] [1,2,3,4] ⟨RG.st,yB5⟩ ?_;intro r w3 f;repeat refine TI ?_
 refine f.U [.x (iZ 0)] [1,2,3,4,5] ⟨RG.st,yB5⟩ ?_;intro y w4 l;have G:y.tmps[1]? = some (pZ Z):=l.at (s:=(.p 0 0));have B:y.tmps[2]? = some (pZ Y):=l.at (s:=(.p 1 0));have U:y.tmps[3]? = some (pZ X):=l.at (s:=(.p 2 0));have V:y.tmps[4]? = some (iZ 0):=l.at (s:=(.v (iZ 0)));have J:y.tmps[5]? = some (iZ 0):=l.at (s:=(.v (iZ 0)));repeat refine TI ?_
 refine V3 ?_;refine Yv (λm a wr=>∃(d:Nat->Int) (i c:Nat),c<=1/\i<=261/\257<=i+m/\dgo n m d i c=fE n/\RG.Sl a 33/\a.tmps[1]? = some (pZ Z)/\a.tmps[2]? = some (pZ Y)/\a.tmps[3]? = some (pZ X)/\a.tmps[4]? = some (iZ c)/\a.tmps[5]? = some (iZ i)/\RG.St w w.heap.size [] [wn n,dg (λ_=>0),dg d] [Z,Y,X] wr) 257 ⟨λ_=>0,0,0,oM,oM,oM,rfl,l.sl,G,B,U,V,J,l.st⟩ ?_;intro m a wr;rintro⟨d,i,c,hc,h5,hm,hd,sl,x,A,z,f4,f5,u⟩;obtain⟨b,Q⟩:∃b,n/2^i%2=b:=⟨_,rfl⟩
 obtain⟨e,N⟩:∃e,n/2^i%32=e:=⟨_,rfl⟩
 obtain⟨g,M⟩:∃g,e+c=g:=⟨_,rfl⟩
 obtain⟨v,L⟩:∃v:Int,(g:Int)-32*((g/16:Nat):Int)=v:=⟨_,rfl⟩
 generalize Z=O at x A z u;generalize Y=C at x A z u;generalize X=I at x A z u;by_cases q:i<257
 ·have P:Gives 157 #[nv n,iZ i,iZ 1] (iZ b):=by rw[<-Q];exact Ko (c:=1) hn oM oM
  have h1:Gives 157 #[nv n,iZ i,iZ 5] (iZ e):=by rw[<-N];exact Ko (c:=5) hn oM oM
  have h3:∃o,m=o+1:=by
   cases m with
   | zero=>exact absurd hm oM
   | succ o=>exact⟨o,rfl⟩
  obtain⟨o,rfl⟩:=h3;rw[dgo,yB3 q,Q,N,M,L]at hd;by_cases W:b=c
  ·rw[yB3 W]at hd;have t:RG.M w w.heap.size [] 33 [wn n,dg (λ_=>0),dg d] [O,C,I] [(1,.p 0 0),(2,.p 1 0),(3,.p 2 0),(4,.v (iZ c)),(5,.v (iZ i))] a _:=⟨u,sl,⟨x,A,z,f4,f5,yB5⟩⟩
   repeat refine TI ?_
   refine t.U [.x (iZ i),.x (.bool true)] [1,2,3,4,5,8] ⟨RG.st,RG.aH rfl .lss 3 3 7 (iZ i) (iZ 257) (.bool true) rfl rfl RG.sx (λw=>kR) (eY (n:=257) q),yB5⟩ ?_;intro a1 w1 j;repeat refine TI ?_
   refine UC j.ev ?_;refine Vg ?_;refine TI ?_;refine V3 ?_;repeat refine TI ?_
   refine j.U [.x (nv n),.x (iZ i),.c (iZ b),.x (iZ c),.x (.bool true)] [1,2,3,4,5,15] ⟨RG.ld u85 i85,RG.st,RG.cl P,RG.st,RG.aJ rfl .eql 3 3 13 14 (iZ b) (iZ c) (.bool true) rfl rfl RG.sx RG.sx (λw=>kR) (RH W),yB5⟩ ?_;intro a2 w2 k;repeat refine TI ?_
   refine UC k.ev ?_;refine Z8 ?_;dsimp only[Exit.then,Xl];rw[yB3 rfl];repeat refine TI ?_
   refine k.U [.x (iZ i),.x (iZ ((i+1:Nat):Int)),.x (iZ ((i+1:Nat):Int))] [1,2,3,4,5] ⟨RG.st,RG.aH rfl .add 3 3 9 (iZ i) (iZ 1) (iZ ((i+1:Nat):Int)) rfl rfl RG.sx (λw=>kR) (rK i 1 oM oM),RG.st,yB5⟩ ?_;intro r w3 f;have E:r.tmps[1]? = some (pZ O):=f.at (s:=(.p 0 0));have H:r.tmps[2]? = some (pZ C):=f.at (s:=(.p 1 0));have D:r.tmps[3]? = some (pZ I):=f.at (s:=(.p 2 0));have p:r.tmps[4]? = some (iZ c):=f.at (s:=(.v (iZ c)));have F:r.tmps[5]? = some (iZ ((i+1:Nat):Int)):=f.at (s:=(.v (iZ ((i+1:Nat):Int))));show ∃n',_;exact⟨o,Xs o,d,i+1,c,hc,oM,oM,hd,f.sl,E,H,D,p,F,f.st⟩
  ·rw[yB4 W]at hd;have he:e<32:=oM;have h4:g%2=1:=oM;have hg:g<32:=oM;have hv:-15<=v/\v<=15:=oM;have T:∀w,(binOp .add 3 (iZ e) (iZ c)).run prog w=.ok (iZ g) w:=λw=>by rw[rK e c oM oM,M]
   have H:∀w,(binOp .sub 3 (iZ g) (iZ (32*((g/16:Nat):Int)))).run prog w=.ok (iZ v) w:=λw=>by rw[CO _ _ oM oM,L]
   have t:RG.M w w.heap.size [] 33 [wn n,dg (λ_=>0),dg d] [O,C,I] [(1,.p 0 0),(2,.p 1 0),(3,.p 2 0),(4,.v (iZ c)),(5,.v (iZ i))] a _:=⟨u,sl,⟨x,A,z,f4,f5,yB5⟩⟩
   repeat refine TI ?_
   refine t.U [.x (iZ i),.x (.bool true)] [1,2,3,4,5,8] ⟨RG.st,RG.aH rfl .lss 3 3 7 (iZ i) (iZ 257) (.bool true) rfl rfl RG.sx (λw=>kR) (eY (n:=257) q),yB5⟩ ?_;intro a1 w1 j;repeat refine TI ?_
   refine UC j.ev ?_;refine Vg ?_;refine TI ?_;refine V3 ?_;repeat refine TI ?_
   refine j.U [.x (nv n),.x (iZ i),.c (iZ b),.x (iZ c),.x (.bool false)] [1,2,3,4,5,15] ⟨RG.ld u85 i85,RG.st,RG.cl P,RG.st,RG.aJ rfl .eql 3 3 13 14 (iZ b) (iZ c) (.bool false) rfl rfl RG.sx RG.sx (λw=>kR) (RI W),yB5⟩ ?_;intro a2 w2 k;repeat refine TI ?_
   refine UG k.ev ?_;refine Vg ?_;repeat refine TI ?_
   refine k.U [.x (nv n),.x (iZ i),.c (iZ e),.x (iZ c),.x (iZ g),.x (iZ g)] [1,2,3,4,5,6] ⟨RG.ld u85 i85,RG.st,RG.cl h1,RG.st,RG.aJ rfl .add 3 3 18 19 (iZ e) (iZ c) (iZ g) rfl rfl RG.sx RG.sx (λw=>kR) T,RG.st,yB5⟩ ?_;intro r w3 f;repeat refine TI ?_
   refine f.U [.x (iZ g),.x (iZ ((g/16:Nat):Int)),.x (iZ ((g/16:Nat):Int))] [1,2,3,4,5,6] ⟨RG.st,RG.aH rfl .shr 3 164 21 (iZ g) (uZ 4) (iZ ((g/16:Nat):Int)) rfl rfl RG.sx (λw=>kR) (SH g hg),RG.st,yB5⟩ ?_;intro y w4 l;repeat refine TI ?_
   refine l.T [.x (iZ i),.x (iZ g),.x (iZ ((g/16:Nat):Int)),.x (iZ (32*((g/16:Nat):Int))),.x (iZ v),.x (.int .i8 v),.s (.p 2 i),.u 2] [] [(2,7,dg (DG.upd d i v))] [wn n,dg (λ_=>0),dg (DG.upd d i v)] [1,2,3,4,5] ⟨RG.st,RG.st,RG.st,RG.aH rfl .shl 3 164 25 (iZ ((g/16:Nat):Int)) (uZ 5) (iZ (32*((g/16:Nat):Int))) rfl rfl RG.sx (λw=>kR) (SI (g/16) oM),RG.aJ rfl .sub 3 3 24 26 (iZ g) (iZ (32*((g/16:Nat):Int))) (iZ v) rfl rfl RG.sx RG.sx (λw=>kR) H,RG.jG rfl 3 193 27 (iZ v) (.int .i8 v) rfl rfl RG.sx (cv8 v hv),RG.aY rfl 194 3 23 rfl (.p 2 0) (iZ i) RG.sx RG.sx (λμ w=>Qa _ i q w),RG.GW 2 i rfl _ rfl 193 (.tmp 29) (.tmp 28) (.int .i8 v) rfl rfl RG.sx RG.sx (by show i<(dg _).length;rw[bM];exact q) (PP d i v) Tb rfl rfl,yB5⟩ ?_;intro a5 w5 M5;repeat refine TI ?_
   refine M5.U [.x (iZ i),.x (iZ ((i+4:Nat):Int)),.x (iZ ((i+4:Nat):Int))] [1,2,3,4,5] ⟨RG.st,RG.aH rfl .add 3 3 30 (iZ i) (iZ 4) (iZ ((i+4:Nat):Int)) rfl rfl RG.sx (λw=>kR) (rK i 4 oM oM),RG.st,yB5⟩ ?_;intro a6 w6 M6;repeat refine TI ?_
   refine M6.U [.x (iZ ((i+4:Nat):Int)),.x (iZ ((i+4+1:Nat):Int)),.x (iZ ((i+4+1:Nat):Int))] [1,2,3,4,5] ⟨RG.st,RG.aH rfl .add 3 3 9 (iZ ((i+4:Nat):Int)) (iZ 1) (iZ ((i+4+1:Nat):Int)) rfl rfl RG.sx (λw=>kR) (rK (i+4) 1 oM oM),RG.st,yB5⟩ ?_;intro F w7 p;have E:F.tmps[1]? = some (pZ O):=p.at (s:=(.p 0 0));have R:F.tmps[2]? = some (pZ C):=p.at (s:=(.p 1 0));have S:F.tmps[3]? = some (pZ I):=p.at (s:=(.p 2 0));have D:F.tmps[4]? = some (iZ ((g/16:Nat):Int)):=p.at (s:=(.v (iZ ((g/16:Nat):Int))));have K:F.tmps[5]? = some (iZ ((i+4+1:Nat):Int)):=p.at (s:=(.v (iZ ((i+4+1:Nat):Int))));show ∃n',_;exact⟨o,Xs o,DG.upd d i v,i+5,g/16,oM,oM,oM,hd,p.sl,E,R,S,D,K,p.st⟩
 ·have o:d=fE n:=by rw[<-hd,Fe n m d i c q]
  have t:RG.M w w.heap.size [] 33 [wn n,dg (λ_=>0),dg d] [O,C,I] [(1,.p 0 0),(2,.p 1 0),(3,.p 2 0),(4,.v (iZ c)),(5,.v (iZ i))] a _:=⟨u,sl,⟨x,A,z,f4,f5,yB5⟩⟩
  repeat refine TI ?_
  refine t.U [.x (iZ i),.x (.bool false)] [2,3,8] ⟨RG.st,RG.aH rfl .lss 3 3 7 (iZ i) (iZ 257) (.bool false) rfl rfl RG.sx (λw=>kR) (l6 (n:=257) q),yB5⟩ ?_;intro a1 w1 j;repeat refine TI ?_
  refine UG j.ev ?_;refine Z8 ?_;dsimp only[Exit.then,Xl];rw[yB3 rfl];repeat refine TI ?_
  refine j.T [.x (dv d),.u 1] [] [(1,1,dg d)] [wn n,dg d,dg d] [2] ⟨RG.oK rfl 2 0 _ rfl rfl kR 194 3 rfl (dg d) rfl RG.sx (PO _) u138 (by rw[bM];exact i138),RG.JL 1 rfl _ rfl 194 (.tmp 2) (.tmp 32) rfl rfl (by show(dg _).length=(dg _).length;rw[bM,bM]) RG.sx RG.sx (by show _=some (dg _).length;rw[bM];exact i138) (JB _),yB5⟩ ?_;intro a2 w2 k;refine UZ ?_;refine TM (v:=dv d) (RG.aC k.st 2 194 rfl 1 _ rfl (k.at (s:=(.p 1 0))) u138 (by rw[bM];exact i138)) k.sl.defers ?_;exact⟨_,rfl,k.st.bel.below,by rw[o]⟩
omit [NeZero P] in
theorem cX(t:T3 P):(tw t).length=12:=rfl
omit [NeZero P] in
theorem CC(t:T3 P):(tw t).all (·.oneCell')=true:=rfl
def od(x y:Fin P):Nat->T3 P
 | 0=>raJ x y
 | q+1=>plJ (od x y q) (twJ (raJ x y))
theorem OX(C:Fld P){x y:Fin P}{p:EC.Pt P}(h:EC.Pair x y p)(k:EC.On p):∀q,JacT (od x y q) (EC.eM ((2*q+1:Nat):Int) p)
 | 0=>by
  show JacT (raJ x y) (EC.eM 1 p);rw[EC.AV];exact Nm C h k
 | q+1=>by
  have d:=OX C h k q;have b:=(Nm C h k).twice C;have c:=d.plus C b;have e:EC.eM ((2*(q+1)+1:Nat):Int) p=EC.add (EC.eM ((2*q+1:Nat):Int) p) (EC.add p p):=by
   have:EC.add p p=EC.eM 2 p:=by
    rw[show(2:Int)=1+1 by rfl,EC.uN C.cur k,EC.AV]
   rw[this,<-EC.uN C.cur k]
   congr 1
  rw[e];exact c
structure Fi(x y:Fin P)(D:Nat->Int)(C0:List TC)(off m:Nat)(C:List TC):Prop where
 len:C.length=C0.length
 out:∀j,j<off\/off+353<=j->C[j]? = C0[j]?
 dig:∀j,j<257->C[off+96+j]? = some (.int .i8 (D j))
 odd:∀q j,q<m->j<12->C[off+12*q+j]? = (tw (od x y q))[j]?
theorem Fi.first{x y:Fin P}{D:Nat->Int}{C0:List TC}{off:Nat}(h:off+353<=C0.length):Fi x y D C0 off 0 (RG.rep C0 (off+96) (dg D)):=by
 have k:off+96+(dg D).length<=C0.length:=by rw[bM];omega
 refine⟨RG.dH k,λj b=>?_,λj b=>?_,λq j c _=>oM⟩
 ·rw[RG.rep_at k,yB4 (by rw[bM];omega)]
 ·rw[RG.rep_at k,yB3 (by rw[bM];omega),show off+96+j-(off+96)=j by omega,JC D j b]
theorem Fi.next{x y:Fin P}{D:Nat->Int}{C0 C:List TC}{off m:Nat}(h:off+353<=C0.length)(d:Fi x y D C0 off m C)(g:m<8):Fi x y D C0 off (m+1) (RG.rep C (off+12*m) (tw (od x y m))):=by
 have b:=d.len;have c:off+12*m+(tw (od x y m)).length<=C.length:=by rw[cX];omega
 refine⟨by rw[RG.dH c];exact b,λj k=>?_,λj k=>?_,λq j f k=>?_⟩
 ·rw[RG.rep_at c,yB4 (by rw[cX];omega)];exact d.out j k
 ·rw[RG.rep_at c,yB4 (by rw[cX];omega)];exact d.dig j k
 ·rw[RG.rep_at c];by_cases e:q=m
  ·subst e;rw[yB3 (by rw[cX];omega),show off+12*q+j-(off+12*q)=j by omega]
  ·rw[yB4 (by rw[cX];omega)];exact d.odd q j oM k
theorem Fi.sub{x y:Fin P}{D:Nat->Int}{C0 C:List TC}{off m q:Nat}(h:off+353<=C0.length)(b:Fi x y D C0 off m C)(c:q<m)(d:m<=8):(C.drop (off+12*q)).take (tw (od x y q)).length=tw (od x y q):=
 RG.NZ (λj k=>b.odd q j c (by rw[cX]at k;exact k)) (by rw[cX];have:=b.len;omega)
def fc(x y:Fin P)(D:Nat->Int)(C0:List TC)(off:Nat):Nat->List TC
 | 0=>RG.rep C0 (off+96) (dg D)
 | m+1=>RG.rep (fc x y D C0 off m) (off+12*m) (tw (od x y m))
theorem E6{x y:Fin P}{D:Nat->Int}{C0:List TC}{off:Nat}(h:off+353<=C0.length):∀m,m<=8->Fi x y D C0 off m (fc x y D C0 off m)
 | 0,_=>Fi.first h
 | m+1,hm=>(E6 h m oM).next h oM
theorem Fi.uniq{x y:Fin P}{D:Nat->Int}{C0 C c:List TC}{off:Nat}(h:Fi x y D C0 off 8 C)(k:Fi x y D C0 off 8 c):C=c:=by
 apply List.ext_getElem?;intro j;by_cases b:j<off\/off+353<=j
 ·rw[h.out j b,k.out j b]
 ·by_cases d:j<off+96
  ·have e:j=off+12*((j-off)/12)+(j-off)%12:=oM;rw[e,h.odd _ _ oM oM,k.odd _ _ oM oM]
  ·have e:j=off+96+(j-off-96):=oM;rw[e,h.dig _ oM,k.dig _ oM]
theorem PM(F:Fld P){n:Nat}(hn:n<top)(x y:Fin P)(C0:List TC)(k off:Nat)(j:off+353<=C0.length)(w:TA)(hk:k<w.heap.size)(ht:w.there k 0 C0.length)(hr:w.rangeAt k 0 C0):
 TW prog 118 #[.pointer (some ⟨k,off,none⟩),nv n,pv x y] w (Ret λr w'=>(∃C,Fi x y (fE n) C0 off 8 C/\RG.PutTo k C0.length C w w')/\r=.tuple #[]):=by
 obtain⟨D,p⟩:∃D,fE n=D:=⟨_,rfl⟩
 have hD:Gives 145 #[nv n] (dv D):=p ▸ JA hn;obtain⟨s0,d⟩:∃s,raJ x y=s:=⟨_,rfl⟩
 have ha:Gives 146 #[pv x y] (tv s0):=d ▸ QI F x y;obtain⟨s2,e⟩:∃s,twJ s0=s:=⟨_,rfl⟩
 have h9:Gives 119 #[tv s0] (tv s2):=e ▸ Nh F s0;obtain⟨f,v⟩:∃c,RG.rep C0 (off+96) (dg D)=c:=⟨_,rfl⟩
 have M:off+96+(dg D).length<=C0.length:=by rw[bM];omega
 have h0:=v ▸ RG.rep_at M;have W:f.length=C0.length:=v ▸ RG.dH M;have F1:Fi x y D C0 off 0 f:=v ▸ Fi.first j;obtain⟨l,b⟩:∃c,RG.rep f (off+0+12*0) (tw s0)=c:=⟨_,rfl⟩
 have o:off+0+12*0+(tw s0).length<=f.length:=by rw[cX];omega
 have E:=b ▸ RG.rep_at o;have B:l.length=f.length:=b ▸ RG.dH o;have F2:Fi x y D C0 off 1 l:=by
  have:=F1.next j dC;rw[<-b,<-d];exact this
 have z:(l.drop (off+0+12*0)).take (tw s0).length=tw s0:=by
  have:=F2.sub j (q:=0) dC dC;rw[<-d];exact this
 obtain⟨i,hh⟩:∃i:Nat,i=0:=⟨_,rfl⟩
 obtain⟨s3,-⟩:∃s:T3 P,s=s0:=⟨_,rfl⟩
 obtain⟨I,-⟩:∃s:T3 P,s=s0:=⟨_,rfl⟩
 go_enter func118,ntmps118;refine RG.Sk (v0:=.pointer (some ⟨k,off,none⟩)) (v1:=nv n) (v2:=pv x y) (n:=43) kR kR kR kR kR ?_;intro a0 hc f0 f1 f2;have h7:=RG.St.lent hk hr ht;have M0:RG.M w w.heap.size [k] 43 [C0] [k] [(0,.p 0 off),(1,.v (nv n)),(2,.v (pv x y))] a0 _:=⟨h7,hc,⟨f0,f1,f2,yB5⟩⟩
 repeat refine TI ?_
 refine M0.T [.m 1,.m 2] [(0,wn n),(1,ws x++(ws y))] [] [C0,wn n,ws x++(ws y)] [0,4,5] ⟨RG.mk 1 44,RG.mk 2 148,yB5⟩ ?_;intro Q L A w1 g;have K:A.tmps[0]? = some (.pointer (some ⟨k,off,none⟩)):=g.at (s:=(.p 0 off));have Z:A.tmps[4]? = some (pZ Q):=g.at (s:=(.p 1 0));have h4:A.tmps[5]? = some (pZ L):=g.at (s:=(.p 2 0));have g:RG.M w w.heap.size [k] 43 [C0,wn n,ws x++(ws y)] [k,Q,L] [(0,.p 0 off),(4,.p 1 0),(5,.p 2 0)] A _:=⟨g.st,g.sl,⟨K,Z,h4,yB5⟩⟩
 repeat refine TI ?_
 refine g.tx [.s 8 [] (.p 0 off),.x 9 [] (nv n),.c 10 [(9,1)] (dv D),.s 11 [(8,0)] (.p 0 off),.s 12 [(11,3)] (.p 0 (off+96)),.u [(12,4),(10,2)] 0] [] [(0,5,f)] [f,wn n,ws x++(ws y)] [(0,.p 0 off),(5,.p 2 0)] kR (congrArg (λn=>[n]) W) ⟨RG.st,RG.ld u85 i85,RG.cl hD,RG.st,RG.st,RG.fF 0 (off+96) rfl _ rfl 194 (.tmp 12) (.tmp 10) (dg D) rfl rfl RG.sx RG.sx (by show off+96+(dg D).length<=C0.length;rw[bM];omega) h0 (by show _=some (dg _).length;rw[bM];exact i138) (JB _),yB5⟩ ?_;intro a2 w2 H;have h3:a2.tmps[0]? = some (.pointer (some ⟨k,off,none⟩)):=H.at (s:=(.p 0 off));have Y:a2.tmps[5]? = some (pZ L):=H.at (s:=(.p 2 0));have H:RG.M w w.heap.size [k] 43 [f,wn n,ws x++(ws y)] [k,Q,L] [(0,.p 0 off),(5,.p 2 0)] a2 _:=⟨H.st,H.sl,⟨h3,Y,yB5⟩⟩
 repeat refine TI ?_
 refine H.dr kR [.s 13 [] (.p 0 off),.x 14 [] (pv x y),.c 15 [(14,1)] (tv s0),.s 16 [(13,0)] (.p 0 off),.s 17 [(16,3)] (.p 0 (off+0)),.s 18 [(17,4)] (.p 0 ((off+0)+12*0)),.u [(18,5),(15,2)] 0] [] [(0,6,l)] [l,wn n,ws x++(ws y)] [(0,.p 0 off)] kR (congrArg (λn=>[n]) B) ⟨RG.st,RG.ld iM i109,RG.cl ha,RG.st,RG.st,RG.dU rfl 192 17 (iZ 0) rfl (.p 0 (off+0)) RG.sx (λμ w=>FG _ _ 0 dC w),RG.fF 0 ((off+0)+12*0) rfl _ rfl 191 (.tmp 18) (.tmp 15) (tw s0) rfl rfl RG.sx RG.sx (by show off+0+12*0+(tw s0).length<=f.length;rw[cX];omega) E i117 (CC _),yB5⟩ ?_;intro R w3 t;have u:R.tmps[0]? = some (.pointer (some ⟨k,off,none⟩)):=t.at (s:=(.p 0 off));have t:RG.M w w.heap.size [k] 43 [l,wn n,ws x++(ws y)] [k,Q,L] [(0,.p 0 off)] R _:=⟨t.st,t.sl,⟨u,yB5⟩⟩
 repeat refine TI ?_
 refine t.T [.s (.p 0 off),.s (.p 0 off),.s (.p 0 (off+0)),.s (.p 0 ((off+0)+12*0)),.x (tv s0),.c (tv s2),.m 3,.u 3] [(6,RG.z 12)] [(3,7,tw s2)] [l,wn n,ws x++(ws y),tw s2] [0,6] ⟨RG.st,RG.st,RG.st,RG.dU rfl 192 21 (iZ 0) rfl (.p 0 (off+0)) RG.sx (λμ w=>FG _ _ 0 dC w),RG.oK rfl 0 ((off+0)+12*0) _ rfl rfl kR 191 22 rfl (tw s0) rfl RG.sx z iV i117,RG.cl h9,RG.mk 3 191,RG.pt i117,yB5⟩ ?_;intro j4 a4 w4 M4;repeat refine TI ?_
 refine M4.U [.x (iZ 1)] [0,6,7] ⟨RG.st,yB5⟩ ?_;intro a5 w5 M5;have T:a5.tmps[0]? = some (.pointer (some ⟨k,off,none⟩)):=M5.at (s:=(.p 0 off));have h2:a5.tmps[6]? = some (pZ j4):=M5.at (s:=(.p 3 0));have h1:a5.tmps[7]? = some (iZ 1):=M5.at (s:=(.v (iZ 1)));subst p;subst d;subst e;clear h0 E z W B M o;repeat refine TI ?_
 refine V3 ?_;refine Yv (λm a wr=>∃(i:Nat) (C:List TC),1<=i/\i<=8/\i+m=8/\Fi x y (fE n) C0 off i C/\RG.Sl a 43/\a.tmps[0]? = some (.pointer (some ⟨k,off,none⟩))/\a.tmps[6]? = some (pZ j4)/\a.tmps[7]? = some (iZ i)/\RG.St w w.heap.size [k] [C,wn n,ws x++ws y,tw (twJ (raJ x y))] [k,Q,L,j4] wr) 7 ⟨1,l,oM,oM,oM,F2,M5.sl,T,h2,h1,M5.st⟩ ?_;intro m a wr;rintro⟨i,f,hg,hj,hm,S,sl,g0,X,g7,O⟩;generalize Q=k1 at X O;generalize L=k2 at X O;generalize j4=k3 at X O;obtain⟨D,p⟩:∃D,fE n=D:=⟨_,rfl⟩
 rw[p]at S;obtain⟨s0,d⟩:∃s,raJ x y=s:=⟨_,rfl⟩
 obtain⟨s2,e⟩:∃s,twJ (raJ x y)=s:=⟨_,rfl⟩
 rw[e]at O;obtain⟨I,J⟩:∃s,od x y (i-1)=s:=⟨_,rfl⟩
 obtain⟨s3,G⟩:∃s,plJ I s2=s:=⟨_,rfl⟩
 have h6:Gives 120 #[tv I,tv s2] (tv s3):=G ▸ Np F I s2;have he:=S.len;by_cases hi:i<8
 ·have h5:od x y i=s3:=by
   obtain⟨q,rfl⟩:∃q,i=q+1:=⟨i-1,oM⟩
   rw[<-G,<-J,<-e];rfl
  have N:(f.drop (off+0+12*(i-1))).take (tw I).length=tw I:=by
   have:=S.sub j (q:=i-1) oM oM;rw[J]at this;exact this
  obtain⟨l,b⟩:∃c,RG.rep f (off+0+12*i) (tw s3)=c:=⟨_,rfl⟩
  have o:off+0+12*i+(tw s3).length<=f.length:=by rw[cX];omega
  have E:=b ▸ RG.rep_at o;have B:l.length=f.length:=b ▸ RG.dH o;have hb:Fi x y D C0 off (i+1) l:=by
   have:=S.next j hi;rw[h5]at this;rw[<-b];exact this
  have h8:∀w,(binOp .sub 3 (iZ i) (iZ 1)).run prog w=.ok (iZ ((i-1:Nat):Int)) w:=λw=>by
   rw[CO _ _ oM oM,show(i:Int)-1=((i-1:Nat):Int) by omega]
  clear d b;have M0:RG.M w w.heap.size [k] 43 [f,wn n,ws x++(ws y),tw s2] [k,k1,k2,k3] [(0,.p 0 off),(6,.p 3 0),(7,.v (iZ i))] a _:=⟨O,sl,⟨g0,X,g7,yB5⟩⟩
  repeat refine TI ?_
  refine M0.U [.x (iZ i),.x (.bool true)] [0,6,7,26] ⟨RG.st,RG.aH rfl .lss 3 3 25 (iZ i) (iZ 8) (.bool true) rfl rfl RG.sx (λw=>kR) (eY (n:=8) hi),yB5⟩ ?_;intro A w1 g;repeat refine TI ?_
  refine UC g.ev ?_;refine Vg ?_;refine TI ?_;refine V3 ?_;repeat refine TI ?_
  refine g.dr kR [.s 29 [] (.p 0 off),.x 30 [] (iZ i),.s 31 [] (.p 0 off),.x 32 [] (iZ i),.x 33 [(32,3)] (iZ ((i-1:Nat):Int)),.s 34 [(31,2)] (.p 0 off),.s 35 [(34,5)] (.p 0 (off+0)),.s 36 [(35,6),(33,4)] (.p 0 ((off+0)+12*(i-1))),.x 37 [(36,7)] (tv I),.x 38 [] (tv s2),.c 39 [(37,8),(38,9)] (tv s3),.s 40 [(29,0)] (.p 0 off),.s 41 [(40,11)] (.p 0 (off+0)),.s 42 [(41,12),(30,1)] (.p 0 ((off+0)+12*i)),.u [(42,13),(39,10)] 0] [] [(0,14,l)] [l,wn n,ws x++(ws y),tw s2] [(0,.p 0 off),(6,.p 3 0),(7,.v (iZ i))] kR (congrArg (λn=>[n]) B) ⟨RG.st,RG.st,RG.st,RG.st,RG.aH rfl .sub 3 3 32 (iZ i) (iZ 1) (iZ ((i-1:Nat):Int)) rfl rfl RG.sx (λw=>kR) h8,RG.st,RG.st,RG.aY rfl 192 35 33 rfl (.p 0 (off+0)) (iZ ((i-1:Nat):Int)) RG.sx RG.sx (λμ w=>FG _ _ (i-1) oM w),RG.oK rfl 0 ((off+0)+12*(i-1)) _ rfl rfl kR 191 36 rfl (tw I) rfl RG.sx N iV i117,RG.ld iV i117,RG.cl h6,RG.st,RG.st,RG.aY rfl 192 41 30 rfl (.p 0 (off+0)) (iZ i) RG.sx RG.sx (λμ w=>FG _ _ i oM w),RG.fF 0 ((off+0)+12*i) rfl _ rfl 191 (.tmp 42) (.tmp 39) (tw s3) rfl rfl RG.sx RG.sx (by show off+0+12*i+(tw s3).length<=f.length;rw[cX];omega) E i117 (CC _),yB5⟩ ?_;intro a2 w2 H;repeat refine TI ?_
  refine H.U [.x (iZ i),.x (iZ ((i+1:Nat):Int)),.x (iZ ((i+1:Nat):Int))] [0,6,7] ⟨RG.st,RG.aH rfl .add 3 3 27 (iZ i) (iZ 1) (iZ ((i+1:Nat):Int)) rfl rfl RG.sx (λw=>kR) (rK i 1 oM oM),RG.st,yB5⟩ ?_;intro R w3 t;have u:R.tmps[0]? = some (.pointer (some ⟨k,off,none⟩)):=t.at (s:=(.p 0 off));have U:R.tmps[6]? = some (pZ k3):=t.at (s:=(.p 3 0));have V:R.tmps[7]? = some (iZ ((i+1:Nat):Int)):=t.at (s:=(.v (iZ ((i+1:Nat):Int))));show ∃n',_;exact⟨m-1,oM,i+1,l,oM,oM,oM,p.symm ▸ hb,t.sl,u,U,V,by rw[e];exact t.st⟩
 ·have N:i=8:=oM;obtain⟨l,-⟩:∃c:List TC,c=f:=⟨_,rfl⟩
  have M0:RG.M w w.heap.size [k] 43 [f,wn n,ws x++(ws y),tw s2] [k,k1,k2,k3] [(0,.p 0 off),(6,.p 3 0),(7,.v (iZ i))] a _:=⟨O,sl,⟨g0,X,g7,yB5⟩⟩
  repeat refine TI ?_
  refine M0.U [.x (iZ i),.x (.bool false)] [0,6,7,26] ⟨RG.st,RG.aH rfl .lss 3 3 25 (iZ i) (iZ 8) (.bool false) rfl rfl RG.sx (λw=>kR) (l6 (n:=8) hi),yB5⟩ ?_;intro A w1 g;repeat refine TI ?_
  refine UG g.ev ?_;refine Z8 ?_;dsimp only[Exit.then,Xl];rw[yB3 rfl];have K:A.tmps[0]? = some (.pointer (some ⟨k,off,none⟩)):=g.at (s:=(.p 0 off));have U:A.tmps[6]? = some (pZ k3):=g.at (s:=(.p 3 0));have V:A.tmps[7]? = some (iZ i):=g.at (s:=(.v (iZ i)));exact⟨g.sl.defers,.tuple #[],RG.results_none rfl,_,rfl,⟨f,p.symm ▸ N ▸ S,g.st.putTo S.len⟩,rfl⟩
theorem KT(F:Fld P)(b o k:Nat)(p:k<8)(s:T3 P)(w:TA)(y:b<w.heap.size)(x:w.rangeAt b (o+0+12*k) (tw s)):TW prog 121 #[(.pointer (some ⟨b,o,none⟩)),(.int .i8 (-(2*(k:Int)+1)))] w (rZ w λe w'=>e=tv (opJ s)):=by
 obtain⟨s2,c⟩:∃s2,opJ s=s2:=⟨_,rfl⟩
 have j:=c ▸ QM F s;have f:∀w,(binOp .lss 193 (.int .i8 (-(2*(k:Int)+1))) (.int .i8 0)).run prog w=.ok (.bool true) w:=λw=>by
  go_simp;try omega
 have d:∀w,(Op.unary .neg (.int .i8 (-(2*(k:Int)+1)))).run prog w=.ok (.int .i8 (2*(k:Int)+1)) w:=λw=>by
  rw[Nx _ oM,yBP]
 go_enter func121,ntmps121;refine RG.Kx (v0:=(.pointer (some ⟨b,o,none⟩))) (v1:=(.int .i8 (-(2*(k:Int)+1)))) (n:=23) kR kR kR kR ?_;intro a0 i q u;have l:=RG.St.begin w;have r:RG.M w w.heap.size [] 23 [] [] [(0,.v (.pointer (some ⟨b,o,none⟩))),(1,.v (.int .i8 (-(2*(k:Int)+1))))] a0 _:=⟨l,i,⟨q,u,yB5⟩⟩
 repeat refine TI ?_
 refine r.T [.m 0] [(0,RG.z 12)] [] [RG.z 12] [0,1,4] ⟨RG.mk 0 191,yB5⟩ ?_;intro A C z t;repeat refine TI ?_
 refine t.U [.x (.int .i8 (-(2*(k:Int)+1))),.x (.bool true)] [0,1,4,6] ⟨RG.st,RG.aH rfl .lss 193 193 5 (.int .i8 (-(2*(k:Int)+1))) (.int .i8 0) (.bool true) rfl rfl RG.sx (λw=>kR) f,yB5⟩ ?_;intro B D m;repeat refine TI ?_
 refine UC m.ev ?_;repeat refine TI ?_
 refine m.T [.x (.pointer (some ⟨b,o,none⟩)),.x (.int .i8 (-(2*(k:Int)+1))),.x (.int .i8 (2*(k:Int)+1)),.x (.int .i8 k),.x (.pointer (some ⟨b,o,none⟩)),.x (.pointer (some ⟨b,o+0,none⟩)),.x (.pointer (some ⟨b,(o+0)+12*k,none⟩)),.x (tv s),.c (tv s2),.u 0] [] [(0,9,tw s2)] [tw s2] [4] ⟨RG.st,RG.st,RG.MI rfl .neg 193 8 (.int .i8 (-(2*(k:Int)+1))) (.int .i8 (2*(k:Int)+1)) rfl rfl RG.sx d,RG.aH rfl .quo 193 193 9 (.int .i8 (2*(k:Int)+1)) (.int .i8 2) (.int .i8 k) rfl rfl RG.sx (λw=>kR) (Nv k p),RG.st,RG.st,RG.aY rfl 192 12 10 rfl (.v (.pointer (some ⟨b,o+0,none⟩))) (.int .i8 k) RG.sx RG.sx (λμ w=>JZ _ _ k p w),RG.eJ rfl b ((o+0)+12*k) y Ud 191 13 rfl (tw s) rfl RG.sx x iV i117,RG.cl j,RG.pt i117,yB5⟩ ?_;intro E a g;refine UZ ?_;refine TM (v:=tv s2) (RG.aC g.st 4 191 rfl 0 _ rfl (g.at (s:=(.p 0 0))) iV i117) g.sl.defers ?_;exact⟨_,rfl,g.st.bel.below,by rw[c]⟩
theorem KQ(F:Fld P)(b o k:Nat)(m:k<8)(s:T3 P)(w:TA)(x:b<w.heap.size)(u:w.rangeAt b (o+0+12*k) (tw s)):TW prog 121 #[(.pointer (some ⟨b,o,none⟩)),(.int .i8 (2*(k:Int)+1))] w (rZ w λe w'=>e=tv s):=by
 obtain⟨s2,i⟩:∃s2,opJ s=s2:=⟨_,rfl⟩
 have c:∀w,(binOp .lss 193 (.int .i8 (2*(k:Int)+1)) (.int .i8 0)).run prog w=.ok (.bool false) w:=λw=>by
  go_simp;try omega
 have l:∀w,(Op.unary .neg (.int .i8 (-(2*(k:Int)+1)))).run prog w=.ok (.int .i8 (2*(k:Int)+1)) w:=λw=>by
  rw[Nx _ oM,yBP]
 go_enter func121,ntmps121;refine RG.Kx (v0:=(.pointer (some ⟨b,o,none⟩))) (v1:=(.int .i8 (2*(k:Int)+1))) (n:=23) kR kR kR kR ?_;intro a0 f p t;have g:=RG.St.begin w;have q:RG.M w w.heap.size [] 23 [] [] [(0,.v (.pointer (some ⟨b,o,none⟩))),(1,.v (.int .i8 (2*(k:Int)+1)))] a0 _:=⟨g,f,⟨p,t,yB5⟩⟩
 repeat refine TI ?_
 refine q.T [.m 0] [(0,RG.z 12)] [] [RG.z 12] [0,1,4] ⟨RG.mk 0 191,yB5⟩ ?_;intro a B y r;repeat refine TI ?_
 refine r.U [.x (.int .i8 (2*(k:Int)+1)),.x (.bool false)] [0,1,4,6] ⟨RG.st,RG.aH rfl .lss 193 193 5 (.int .i8 (2*(k:Int)+1)) (.int .i8 0) (.bool false) rfl rfl RG.sx (λw=>kR) c,yB5⟩ ?_;intro A C j;repeat refine TI ?_
 refine UG j.ev ?_;refine Vg ?_;repeat refine TI ?_
 refine j.T [.x (.pointer (some ⟨b,o,none⟩)),.x (.int .i8 (2*(k:Int)+1)),.x (.int .i8 k),.x (.pointer (some ⟨b,o,none⟩)),.x (.pointer (some ⟨b,o+0,none⟩)),.x (.pointer (some ⟨b,(o+0)+12*k,none⟩)),.x (tv s),.u 0] [] [(0,7,tw s)] [tw s] [4] ⟨RG.st,RG.st,RG.aH rfl .quo 193 193 17 (.int .i8 (2*(k:Int)+1)) (.int .i8 2) (.int .i8 k) rfl rfl RG.sx (λw=>kR) (Nv k m),RG.st,RG.st,RG.aY rfl 192 20 18 rfl (.v (.pointer (some ⟨b,o+0,none⟩))) (.int .i8 k) RG.sx RG.sx (λμ w=>JZ _ _ k m w),RG.eJ rfl b ((o+0)+12*k) x Ud 191 21 rfl (tw s) rfl RG.sx u iV i117,RG.pt i117,yB5⟩ ?_;intro D z d;refine UZ ?_;refine TM (v:=tv s) (RG.aC d.st 4 191 rfl 0 _ rfl (d.at (s:=(.p 0 0))) iV i117) d.sl.defers ?_;exact⟨_,rfl,d.st.bel.below,rfl⟩
def tmJ(x y:Fin P)(d:Int):T3 P:=if d<0 then opJ (od x y ((-d).toNat/2)) else od x y (d.toNat/2)
theorem Qs(C:Fld P){x y:Fin P}{p:EC.Pt P}(h:EC.Pair x y p)(b:EC.On p){d:Int}(hd:d%2=1):JacT (tmJ x y d) (EC.eM d p):=by
 unfold tmJ;by_cases c:d<0
 ·rw[yB3 c];have k:=(OX C h b ((-d).toNat/2)).neg;rw[<-EC.AW C.cur b]at k;rw[show -((2*((-d).toNat/2)+1:Nat):Int)=d by omega]at k;exact k
 ·rw[yB4 c];have k:=OX C h b (d.toNat/2);rw[show((2*(d.toNat/2)+1:Nat):Int)=d by omega]at k;exact k
def inn(ns:Nat->Nat)(xs ys:Nat->Fin P)(st:T3 P)(place:Nat):Nat->T3 P
 | 0=>st
 | i+1=>if fE (ns i) place=0 then inn ns xs ys st place i else plJ (inn ns xs ys st place i) (tmJ (xs i) (ys i) (fE (ns i) place))
def kS(ns:Nat->Nat)(xs ys:Nat->Fin P)(N:Nat):Nat->T3 P
 | 0=>(0,0,0)
 | m+1=>inn ns xs ys (twJ (kS ns xs ys N m)) (256-m) N
theorem Nu(C:Fld P){ns:Nat->Nat}{xs ys:Nat->Fin P}{p:Nat->EC.Pt P}{N:Nat}(b:∀i,i<N->ns i<2^256)(l:∀i,i<N->EC.Pair (xs i) (ys i) (p i))(ho:∀i,i<N->EC.On (p i)){st:T3 P}{g:Nat->Int}{place:Nat}
 (h:JacT st (EC.tot p N g)):∀i,i<=N->JacT (inn ns xs ys st place i) (EC.tot p N (λj=>if j<i then g j+fE (ns j) place else g j))
 | 0,_=>by
  have:EC.tot p N (λj=>if j<0 then g j+fE (ns j) place else g j)=EC.tot p N g:=EC.fK N λj _=>yB4 oM
  rw[this];exact h
 | i+1,hi=>by
  have f:=Nu C b l ho (place:=place) h i oM;have e:EC.tot p N (λj=>if j<i+1 then g j+fE (ns j) place else g j)=EC.add (EC.tot p N (λj=>if j<i then g j+fE (ns j) place else g j)) (EC.eM (fE (ns i) place) (p i)):=by
   rw[<-EC.KJ C.cur _ i (fE (ns i) place) N oM ho];refine EC.fK N λj _=>?_
   by_cases k:j=i
   ·subst k;rw[yB3 oM,yB3 rfl,yB4 oM]
   ·rw[yB4 k];by_cases d:j<i
    ·rw[yB3 oM,yB3 d]
    ·rw[yB4 oM,yB4 d]
  rw[e];unfold inn;by_cases d:fE (ns i) place=0
  ·rw[yB3 d,d,EC.F8,EC.bF];exact f
  ·rw[yB4 d];obtain⟨q,c,-,m⟩:=Av (b i oM);rcases m.ho place with k|k
   ·exact absurd k d
   ·exact f.plus C (Qs C (l i oM) (ho i oM) k.1)
theorem Hx(C:Fld P){ns:Nat->Nat}{xs ys:Nat->Fin P}{p:Nat->EC.Pt P}{N:Nat}(k:∀i,i<N->ns i<2^256)(c:∀i,i<N->EC.Pair (xs i) (ys i) (p i))(ho:∀i,i<N->EC.On (p i)):
 ∀m,m<=257->JacT (kS ns xs ys N m) (EC.tot p N (λj=>DG.hor (fE (ns j)) m))
 | 0,_=>by
  rw[show EC.tot p N (λj=>DG.hor (fE (ns j)) 0)=.none from EC.uU p N (λ_ _=>rfl)];exact JacT.none
 | m+1,hm=>by
  have b:=(Hx C k c ho m oM).twice C;rw[<-EC.Gf C.cur _ N ho]at b;have f:=Nu C k c ho (place:=256-m) b N (TG _);have e:EC.tot p N (λj=>DG.hor (fE (ns j)) (m+1))=EC.tot p N (λj=>if j<N then 2*DG.hor (fE (ns j)) m+fE (ns j) (256-m) else 2*DG.hor (fE (ns j)) m):=
   EC.fK N λj d=>by rw[yB3 d];rfl
  rw[e];exact f
theorem Hw(C:Fld P){ns:Nat->Nat}{xs ys:Nat->Fin P}{p:Nat->EC.Pt P}{N:Nat}(k:∀i,i<N->ns i<2^256)(g:∀i,i<N->EC.Pair (xs i) (ys i) (p i))(ho:∀i,i<N->EC.On (p i)):
 JacT (kS ns xs ys N 257) (EC.tot p N (λj=>(ns j:Int))):=by
 have h:=Hx C k g ho 257 (TG _);have e:EC.tot p N (λj=>(ns j:Int))=EC.tot p N (λj=>DG.hor (fE (ns j)) 257):=EC.fK N λj b=>by
  obtain⟨q,c,f,d⟩:=Av (k j b);exact(DG.Mm d f).symm
 rw[e];exact h
def cc(ns:Nat->Nat)(xs ys:Nat->Fin P)(C0:List TC):Nat->List TC
 | 0=>C0
 | i+1=>fc (xs i) (ys i) (fE (ns i)) (cc ns xs ys C0 i) (353*i) 8
theorem Nz{ns:Nat->Nat}{xs ys:Nat->Fin P}{C0:List TC}{N:Nat}(e:C0.length=353*N):∀i,i<=N->(cc ns xs ys C0 i).length=353*N /\
 ∀j,j<i->(∀q,q<257->(cc ns xs ys C0 i)[353*j+96+q]? = some (.int .i8 (fE (ns j) q)))/\∀q r,q<8->r<12->(cc ns xs ys C0 i)[353*j+12*q+r]? = (tw (od (xs j) (ys j) q))[r]?
 | 0,_=>⟨e,λj m=>oM⟩
 | i+1,hi=>by
  obtain⟨f,l⟩:=Nz e i oM;have k:=E6 (x:=xs i) (y:=ys i) (D:=fE (ns i)) (C0:=cc ns xs ys C0 i) (off:=353*i) (by rw[f];omega) 8 (TG _);refine⟨by rw[<-f];exact k.len,λj m=>?_⟩;by_cases d:j=i
  ·subst d;exact⟨k.dig,λq r b c=>k.odd q r b c⟩
  ·obtain⟨g,n⟩:=l j oM;exact⟨λq b=>(k.out _ oM).trans (g q b),λq r b c=>(k.out _ oM).trans (n q r b c)⟩
theorem QY(N:Nat)(c:N<=512):∃C0:List TC,C0.length=353*N/\∀w:TA,(VI 188 (iZ N) (iZ N)).run prog w=.ok (.slice (some ⟨w.heap.size,0,none⟩) N N) (w.alloc (.cells C0.toArray 196)):=by
 have f:prog.underlying 188=some (.slice 196):=kR;have l:(prog.info? 196).map (λi=>(i.size,decide (i.bytes<=4000),i.zero.isSome))=some (353,true,true):=kR;obtain⟨i,b,k⟩:=TJ.1 l;simp only[Vz.injEq,decide_eq_true_eq]at k;obtain⟨j,d,e⟩:=k;obtain⟨z,n⟩:=UT.1 e;refine⟨(madeCells z.cells (N*353)).toList,by rw[TR,ZK,Ut],λw=>?_⟩;have g:(i.bytes:Int)*(N:Int)<=281474976710656:=by
  have:i.bytes*N<=4000*512:=VR d c;have m:((i.bytes*N:Nat):Int)<=281474976710656:=oM;rwa[V0]at m
 have:=run_make (P:=prog) w 188 196 i z f b n .i64 .i64 (N:Int) (N:Int) oM oM g oM;rw[YB,j]at this;rw[XT];exact this
theorem Jp(F:Fld P){n:Nat}(c:n<top)(x y:Fin P)(C0:List TC)(b off:Nat)(k:off+353<=C0.length)(w:TA)(d:w.there b 0 C0.length)(i:w.rangeAt b 0 C0):
 TW prog 118 #[.pointer (some ⟨b,off,none⟩),nv n,pv x y] w (Ret λr w'=>RG.PutTo b C0.length (fc x y (fE n) C0 off 8) w w'/\r=.tuple #[]):=by
 have j:b<w.heap.size:=by
  have g:=(d 0 oM).1;exact U5 λc=>by
   have f:w.heap[b]? = none:=Array.getElem?_eq_none oM;simp[World.cell?,f]at g
 refine(PM F c x y C0 b off k w j d i).mono ?_;rintro e w' ⟨v,rfl,⟨C,f,g⟩,rfl⟩;refine⟨_,rfl,?_,rfl⟩;rw[(E6 k 8 (TG _)).uniq f];exact g
theorem KU(F:Fld P)(k o:Nat)(x y:Fin P){d:Int}(hd:d%2=1)(i:-15<=d/\d<=15)(w:TA)(g:k<w.heap.size)(f:∀q,q<8->w.rangeAt k (o+0+12*q) (tw (od x y q))):
 TW prog 121 #[.pointer (some ⟨k,o,none⟩),.int .i8 d] w (rZ w λe w'=>e=tv (tmJ x y d)):=by
 unfold tmJ;by_cases c:d<0
 ·rw[yB3 c];have b:=KT F k o ((-d).toNat/2) oM (od x y ((-d).toNat/2)) w g (f _ oM);rw[show -(2*(((-d).toNat/2:Nat):Int)+1)=d by omega]at b;exact b
 ·rw[yB4 c];have b:=KQ F k o (d.toNat/2) oM (od x y (d.toNat/2)) w g (f _ oM);rw[show 2*((d.toNat/2:Nat):Int)+1=d by omega]at b;exact b
theorem RX{P:Nat}[NeZero P](w:TA):(yAj 191 true (.tuple #[])).run prog w=.ok (.pointer (some ⟨w.heap.size,0,none⟩)) (w.alloc (.cells (tw ((0,0,0):T3 P)).toArray 191)):=by
 show _=Result.ok _ (w.alloc (.cells (ws (0:Fin P)++(ws (0:Fin P)++ws (0:Fin P))).toArray 191));rw[<-t9];kernel_rfl
theorem QU(w:TA):(binOp .neq 193 (.int .i8 0) (.int .i8 0)).run prog w=.ok (.bool false) w:=kR
theorem QT{d:Int}(h:¬d=0)(w:TA):(binOp .neq 193 (.int .i8 d) (.int .i8 0)).run prog w=.ok (.bool true) w:=by
 go_simp
theorem sub1'(q:Nat)(k:q<1000)(w:TA):(binOp .sub 3 (iZ q) (iZ 1)).run prog w=.ok (iZ ((q:Int)-1)) w:=CO _ _ oM oM w
theorem geq0'(i:Nat)(w:TA):(binOp .geq 3 (iZ i) (iZ 0)).run prog w=.ok (.bool true) w:=by
 go_simp
theorem NY(F:Fld P)(N:Nat)(hN:N<=512)(ns:Nat->Nat)(xs ys:Nat->Fin P)(kj:∀i,i<N->ns i<top)(l o:Nat)(w:TA)(kp:l<w.heap.size)(bd:o<w.heap.size)
 (Z:∀i,i<N->w.rangeAt l (4*i) (wn (ns i))) (U:∀i,i<N->w.rangeAt o (8*i) (ws (xs i)++ws (ys i))) :
 TW prog 87 #[.slice (some (aZ l)) N N,.slice (some (aZ o)) N N] w (rZ w λe w'=>∃s,s=kS ns xs ys N 257/\e=pv (s.1*(EC.inv s.2.2*EC.inv s.2.2)) (s.2.1*(EC.inv s.2.2*EC.inv s.2.2)*EC.inv s.2.2)):=by
 obtain⟨C,ko,b8⟩:=QY N hN;have Y:∀(i:Nat) (c2:List TC),fc (xs i) (ys i) (fE (ns i)) (cc ns xs ys C i) (353*i) 8=c2->cc ns xs ys C (i+1)=c2:=λi c2 h=>h
 obtain⟨i,-⟩:∃i:Nat,i=0:=⟨_,rfl⟩
 obtain⟨q,-⟩:∃i:Nat,i=0:=⟨_,rfl⟩
 obtain⟨d,-⟩:∃i:Int,i=0:=⟨_,rfl⟩
 obtain⟨C2,-⟩:∃c:List TC,c=C:=⟨_,rfl⟩
 obtain⟨s,-⟩:∃s:T3 P,s=(0,0,0):=⟨_,rfl⟩
 obtain⟨s2,-⟩:∃s:T3 P,s=(0,0,0):=⟨_,rfl⟩
 obtain⟨s3,-⟩:∃s:T3 P,s=(0,0,0):=⟨_,rfl⟩
 obtain⟨s4,-⟩:∃s:T3 P,s=(0,0,0):=⟨_,rfl⟩
 go_enter func87,ntmps87;refine RG.Kx (v0:=(.slice (some (aZ l)) N N)) (v1:=(.slice (some (aZ o)) N N)) (n:=62) kR kR kR kR ?_;intro a0 bf f0 f1;have kw:=RG.St.begin w;have M0:RG.M w w.heap.size [] 62 [] [] [(0,.v (.slice (some (aZ l)) N N)),(1,.v (.slice (some (aZ o)) N N))] a0 _:=⟨kw,bf,⟨f0,f1,yB5⟩⟩
 repeat refine TI ?_
 refine M0.T [.m 0] [(0,RG.z 8)] [] [RG.z 8] [0,1,4] ⟨RG.mk 0 148,yB5⟩ ?_;intro j1 a1 w1 M1;repeat refine TI ?_
 refine M1.t [.x 11 [] (.slice (some (aZ l)) N N),.x 12 [(11,0)] (iZ N),⟨some 13,[(12,1)],.s 1 N N,.make 1⟩,.s 5 [(13,2)] (.s 1 N N)] [(2,C)] [] [RG.z 8,C] [(0,.v (.slice (some (aZ l)) N N)),(1,.v (.slice (some (aZ o)) N N)),(4,.p 0 0),(5,.s 1 N N)] ⟨RG.st,RG.gI rfl 11 (.v (.slice (some (aZ l)) N N)) (iZ N) rfl RG.sx (λa w=>kR) (λμ w=>kR),RG.mB 1 rfl _ rfl 188 196 12 12 N rfl rfl RG.sx RG.sx b8,RG.st,yB5⟩ ?_;intro j2 a2 w2 M2;repeat refine TI ?_
 refine M2.U [.s (.s 1 N N),.x (iZ N),.x (iZ 0)] [0,1,4,5,15,16] ⟨RG.st,RG.gI rfl 14 (.s 1 N N) (iZ N) rfl RG.sx (λa w=>kR) (λμ w=>kR),RG.st,yB5⟩ ?_;intro a3 w3 M3;have kb:a3.tmps[0]? = some (.slice (some (aZ l)) N N):=M3.at (s:=(.v (.slice (some (aZ l)) N N)));have ke:a3.tmps[1]? = some (.slice (some (aZ o)) N N):=M3.at (s:=(.v (.slice (some (aZ o)) N N)));have kd:a3.tmps[4]? = some (pZ j1):=M3.at (s:=(.p 0 0));have kf:a3.tmps[5]? = some (.slice (some (aZ j2)) N N):=M3.at (s:=(.s 1 N N));have h9:a3.tmps[15]? = some (iZ N):=M3.at (s:=(.v (iZ N)));have hh:a3.tmps[16]? = some (iZ 0):=M3.at (s:=(.v (iZ 0)));repeat refine TI ?_
 refine V3 ?_;refine Yv (λm a wr=>∃i,i+m=N/\RG.Sl a 62/\a.tmps[0]? = some (.slice (some (aZ l)) N N)/\a.tmps[1]? = some (.slice (some (aZ o)) N N)/\a.tmps[4]? = some (pZ j1)/\a.tmps[5]? = some (.slice (some (aZ j2)) N N)/\a.tmps[15]? = some (iZ N)/\a.tmps[16]? = some (iZ i)/\RG.St w w.heap.size [] [[uZ 0,uZ 0,uZ 0,uZ 0,uZ 0,uZ 0,uZ 0,uZ 0],cc ns xs ys C i] [j1,j2] wr) N ⟨0,oM,M3.sl,kb,ke,kd,kf,h9,hh,M3.st⟩ ?_;intro m a wr;rintro⟨i,b6,sl,p0,p1,p4,p5,kc,k9,O⟩;generalize j1=z at p4 O;generalize j2=p at p5 O;obtain⟨C,km⟩:∃c,cc ns xs ys C i=c:=⟨_,rfl⟩
 have h3:=Nz (ns:=ns) (xs:=xs) (ys:=ys) ko i oM;rw[km]at O h3;by_cases u:i<N
 ·obtain⟨C2,x⟩:∃c,fc (xs i) (ys i) (fE (ns i)) C (353*i) 8=c:=⟨_,rfl⟩
  have B:353*i+353<=C.length:=by rw[h3.1];omega
  have K:C2.length=C.length:=x ▸ (E6 B 8 (TG _)).len;have H:∀(k:Nat) (w:TA),w.there k 0 C.length->w.rangeAt k 0 C->TW prog 118 #[.pointer (some ⟨k,353*i,none⟩),nv (ns i),pv (xs i) (ys i)] w (Ret λr w'=>RG.PutTo k C.length C2 w w'/\r=.tuple #[]):=λk w S hr=>x ▸ Jp F (kj i u) (xs i) (ys i) C k (353*i) B w S hr
  have M:w.rangeAt l (0+4*i) (wn (ns i)):=by rw[TO];exact Z i u
  have Q:w.rangeAt o (0+8*i) (ws (xs i)++ws (ys i)):=by rw[TO];exact U i u
  have T:RG.M w w.heap.size [] 62 [RG.z 8,C] [z,p] [(0,.v (.slice (some (aZ l)) N N)),(1,.v (.slice (some (aZ o)) N N)),(4,.p 0 0),(5,.s 1 N N),(15,.v (iZ N)),(16,.v (iZ i))] a _:=⟨O,sl,⟨p0,p1,p4,p5,kc,k9,yB5⟩⟩
  repeat refine TI ?_
  refine T.U [.x (.bool true)] [0,1,4,5,15,16,17] ⟨RG.aJ rfl .lss 3 3 16 15 (iZ i) (iZ N) (.bool true) rfl rfl RG.sx RG.sx (λw=>kR) (eY u),yB5⟩ ?_;intro bz bw J;repeat refine TI ?_
  refine UC J.ev ?_;refine Vg ?_;refine TI ?_;refine V3 ?_;repeat refine TI ?_
  refine J.U [.x (iZ i),.x (iZ i)] [0,1,4,5,6,15,16] ⟨RG.st,RG.st,yB5⟩ ?_;intro V W L;repeat refine TI ?_
  refine L.dr kR [.s 19 [] (.s 1 N N),.x 20 [] (iZ i),.s 21 [(19,0),(20,1)] (.p 1 (353*i)),.x 22 [] (.slice (some (aZ l)) N N),.x 23 [] (iZ i),.x 24 [(22,3),(23,4)] (.pointer (some ⟨l,0+4*i,none⟩)),.x 25 [(24,5)] (nv (ns i)),.x 26 [] (.slice (some (aZ o)) N N),.x 27 [] (iZ i),.x 28 [(26,7),(27,8)] (.pointer (some ⟨o,0+8*i,none⟩)),.x 29 [(28,9)] (pv (xs i) (ys i)),⟨some 30,[(21,2),(25,6),(29,10)],.v (.tuple #[]),.put 1⟩] [] [(1,11,C2)] [RG.z 8,C2] [(0,.v (.slice (some (aZ l)) N N)),(1,.v (.slice (some (aZ o)) N N)),(4,.p 0 0),(5,.s 1 N N),(15,.v (iZ N)),(16,.v (iZ i))] kR (congrArg (λn=>[n]) K) ⟨RG.st,RG.st,RG.aY rfl 188 19 20 rfl (.s 1 N N) (iZ i) RG.sx RG.sx (λμ w=>FH _ _ _ i u w),RG.st,RG.st,RG.aY rfl 141 22 23 rfl (.v (.slice (some (aZ l)) N N)) (iZ i) RG.sx RG.sx (λμ w=>RQ _ _ _ _ i u w),RG.eJ rfl l (0+4*i) kp Ud 44 24 rfl (wn (ns i)) rfl RG.sx M u85 i85,RG.st,RG.st,RG.aY rfl 144 26 27 rfl (.v (.slice (some (aZ o)) N N)) (iZ i) RG.sx RG.sx (λμ w=>NC _ _ _ _ i u w),RG.eJ rfl o (0+8*i) bd Ud 148 28 rfl (ws (xs i)++ws (ys i)) rfl RG.sx Q iM i109,RG.yA 1 rfl _ rfl 118 21 25 29 (.p 1 (353*i)) (nv (ns i)) (pv (xs i) (ys i)) (.tuple #[]) rfl (λa w=>kR) RG.sx RG.sx RG.sx (λμ w S hr=>H (μ 1) w S hr),yB5⟩ ?_;intro bu bt R;repeat refine TI ?_
  refine R.U [.x (iZ ((i+1:Nat):Int)),.x (iZ ((i+1:Nat):Int))] [0,1,4,5,15,16] ⟨RG.aH rfl .add 3 3 16 (iZ i) (iZ 1) (iZ ((i+1:Nat):Int)) rfl rfl RG.sx (λw=>kR) (rK i 1 oM oM),RG.st,yB5⟩ ?_;intro g X f;have G:g.tmps[0]? = some (.slice (some (aZ l)) N N):=f.at (s:=(.v (.slice (some (aZ l)) N N)));have E:g.tmps[1]? = some (.slice (some (aZ o)) N N):=f.at (s:=(.v (.slice (some (aZ o)) N N)));have I:g.tmps[4]? = some (pZ z):=f.at (s:=(.p 0 0));have D:g.tmps[5]? = some (.slice (some (aZ p)) N N):=f.at (s:=(.s 1 N N));have A:g.tmps[15]? = some (iZ N):=f.at (s:=(.v (iZ N)));have y:g.tmps[16]? = some (iZ ((i+1:Nat):Int)):=f.at (s:=(.v (iZ ((i+1:Nat):Int))));show ∃n',_;refine⟨m-1,oM,i+1,oM,f.sl,G,E,I,D,A,y,?_⟩;rw[Y i C2 (by rw[km];exact x)];exact f.st
 ·have b4:i=N:=oM;rw[b4]at h3;have b5:=h3.2;have ku:RG.M w w.heap.size [] 62 [RG.z 8,C] [z,p] [(0,.v (.slice (some (aZ l)) N N)),(1,.v (.slice (some (aZ o)) N N)),(4,.p 0 0),(5,.s 1 N N),(15,.v (iZ N)),(16,.v (iZ i))] a _:=⟨O,sl,⟨p0,p1,p4,p5,kc,k9,yB5⟩⟩
  repeat refine TI ?_
  refine ku.U [.x (.bool false)] [4,5,17] ⟨RG.aJ rfl .lss 3 3 16 15 (iZ i) (iZ N) (.bool false) rfl rfl RG.sx RG.sx (λw=>kR) (l6 u),yB5⟩ ?_;intro bm bj ki;repeat refine TI ?_
  refine UG ki.ev ?_;refine Z8 ?_;dsimp only[Exit.then,Xl];rw[yB3 rfl];repeat refine TI ?_
  refine ki.T [.m 2] [(0,tw ((0,0,0):T3 P))] [] [RG.z 8,C,tw ((0,0,0):T3 P)] [4,5,7] ⟨RG.pU 2 rfl rfl _ rfl 191 rfl RX,yB5⟩ ?_;intro T bq bo be;repeat refine TI ?_
  refine be.U [.x (iZ 256)] [4,5,7,8] ⟨RG.st,yB5⟩ ?_;intro Z bs G;have hy:Z.tmps[4]? = some (pZ z):=G.at (s:=(.p 0 0));have hw:Z.tmps[5]? = some (.slice (some (aZ p)) N N):=G.at (s:=(.s 1 N N));have hg:Z.tmps[7]? = some (pZ T):=G.at (s:=(.p 2 0));have k1:Z.tmps[8]? = some (iZ 256):=G.at (s:=(.v (iZ 256)));repeat refine TI ?_
  refine V3 ?_;refine Yv (λm a wr=>m<=257/\RG.Sl a 62/\a.tmps[4]? = some (pZ z)/\a.tmps[5]? = some (.slice (some (aZ p)) N N)/\a.tmps[7]? = some (pZ T)/\a.tmps[8]? = some (iZ ((m:Int)-1))/\RG.St w w.heap.size [] [[uZ 0,uZ 0,uZ 0,uZ 0,uZ 0,uZ 0,uZ 0,uZ 0],C,tw (kS ns xs ys N (257-m))] [z,p,T] wr) 257 ⟨TG _,G.sl,hy,hw,hg,k1,?_⟩ ?_
  ·rw[Yg,kS];exact G.st
  intro m b wr;rintro⟨hm,kg,q4,q5,q7,q8,E⟩;generalize T=L at q7 E;by_cases hz:m=0
  ·subst hz;rw[show 257-0=257 from rfl]at E;obtain⟨s,J⟩:∃s,kS ns xs ys N 257=s:=⟨_,rfl⟩
   rw[J]at E;have x:RG.M w w.heap.size [] 62 [RG.z 8,C,tw s] [z,p,L] [(4,.p 0 0),(5,.s 1 N N),(7,.p 2 0),(8,.v (iZ (-1)))] b _:=⟨E,kg,⟨q4,q5,q7,q8,yB5⟩⟩
   repeat refine TI ?_
   refine x.U [.x (iZ (-1)),.x (.bool false)] [4,7,33] ⟨RG.st,RG.st,yB5⟩ ?_;intro A y g;repeat refine TI ?_
   refine UG g.ev ?_;refine Z8 ?_;dsimp only[Exit.then,Xl];rw[yB3 rfl];repeat refine TI ?_
   refine g.T [.x (tv s),.c (pv (s.1*(EC.inv s.2.2*EC.inv s.2.2)) (s.2.1*(EC.inv s.2.2*EC.inv s.2.2)*EC.inv s.2.2)),.u 0] [] [(0,2,ws (s.1*(EC.inv s.2.2*EC.inv s.2.2))++(ws (s.2.1*(EC.inv s.2.2*EC.inv s.2.2)*EC.inv s.2.2)))] [ws (s.1*(EC.inv s.2.2*EC.inv s.2.2))++(ws (s.2.1*(EC.inv s.2.2*EC.inv s.2.2)*EC.inv s.2.2)),C,tw s] [4] ⟨RG.ld iV i117,RG.cl (QK F s),RG.pt i109,yB5⟩ ?_;intro D B f;refine UZ ?_;refine TM (v:=pv (s.1*(EC.inv s.2.2*EC.inv s.2.2)) (s.2.1*(EC.inv s.2.2*EC.inv s.2.2)*EC.inv s.2.2)) (RG.aC f.st 4 148 rfl 0 _ rfl (f.at (s:=(.p 0 0))) iM i109) f.sl.defers ?_;exact⟨_,rfl,f.st.bel.below,s,J.symm,rfl⟩
  ·obtain⟨q,rfl⟩:∃q,m=q+1:=⟨m-1,oM⟩
   have hq:q<257:=oM;replace q8:b.tmps[8]? = some (iZ q):=by rw[q8];congr 2;omega
   obtain⟨s,J⟩:∃s,kS ns xs ys N (257-(q+1))=s:=⟨_,rfl⟩
   rw[J]at E;obtain⟨s2,h7⟩:∃t,twJ s=t:=⟨_,rfl⟩
   have b3:=h7 ▸ Nh F s;have K:kS ns xs ys N (257-q)=inn ns xs ys s2 q N:=by
    rw[show 257-q=257-(q+1)+1 by omega];show inn ns xs ys (twJ (kS ns xs ys N (257-(q+1)))) (256-(257-(q+1))) N=_;rw[J,h7,show 256-(257-(q+1))=q by omega]
   have b7:RG.M w w.heap.size [] 62 [RG.z 8,C,tw s] [z,p,L] [(4,.p 0 0),(5,.s 1 N N),(7,.p 2 0),(8,.v (iZ q))] b _:=⟨E,kg,⟨q4,q5,q7,q8,yB5⟩⟩
   repeat refine TI ?_
   refine b7.U [.x (iZ q),.x (.bool true)] [4,5,7,8,33] ⟨RG.st,RG.aH rfl .geq 3 3 32 (iZ q) (iZ 0) (.bool true) rfl rfl RG.sx (λw=>kR) (geq0' q),yB5⟩ ?_;intro br bv kh;repeat refine TI ?_
   refine UC kh.ev ?_;refine Vg ?_;refine TI ?_;refine V3 ?_;repeat refine TI ?_
   refine kh.T [.x (tv s),.c (tv s2),.u 2] [] [(2,2,tw s2)] [RG.z 8,C,tw s2] [4,5,7,8] ⟨RG.ld iV i117,RG.cl b3,RG.pt i117,yB5⟩ ?_;intro bl bk kz;repeat refine TI ?_
   refine kz.U [.s (.s 1 N N),.x (iZ N),.x (iZ 0)] [4,5,7,8,39,40] ⟨RG.st,RG.gI rfl 38 (.s 1 N N) (iZ N) rfl RG.sx (λa w=>kR) (λμ w=>kR),RG.st,yB5⟩ ?_;intro H bn y;have k2:H.tmps[4]? = some (pZ z):=y.at (s:=(.p 0 0));have hb:H.tmps[5]? = some (.slice (some (aZ p)) N N):=y.at (s:=(.s 1 N N));have hs:H.tmps[7]? = some (pZ L):=y.at (s:=(.p 2 0));have k8:H.tmps[8]? = some (iZ q):=y.at (s:=(.v (iZ q)));have U:H.tmps[39]? = some (iZ N):=y.at (s:=(.v (iZ N)));have V:H.tmps[40]? = some (iZ 0):=y.at (s:=(.v (iZ 0)));repeat refine TI ?_
   refine V3 ?_;refine Yv (λm a wr=>∃i,i+m=N/\RG.Sl a 62/\a.tmps[4]? = some (pZ z)/\a.tmps[5]? = some (.slice (some (aZ p)) N N)/\a.tmps[7]? = some (pZ L)/\a.tmps[8]? = some (iZ q)/\a.tmps[39]? = some (iZ N)/\a.tmps[40]? = some (iZ i)/\RG.St w w.heap.size [] [[uZ 0,uZ 0,uZ 0,uZ 0,uZ 0,uZ 0,uZ 0,uZ 0],C,tw (inn ns xs ys s2 q i)] [z,p,L] wr) N ⟨0,oM,y.sl,k2,hb,hs,k8,U,V,y.st⟩ ?_;intro m' c wr;rintro⟨i,b6,hu,r4,r5,r7,r8,h8,hx,S⟩;obtain⟨s,D⟩:∃s,inn ns xs ys s2 q i=s:=⟨_,rfl⟩
   rw[D]at S;by_cases u:i<N
   ·obtain⟨h1,h2⟩:=b5 i u;obtain⟨d,X⟩:∃d,fE (ns i) q=d:=⟨_,rfl⟩
    have A:=X ▸ h1 q hq;have kk:C≠[]:=by intro h;rw[h]at A;simp at A
    have f:inn ns xs ys s2 q (i+1)=if d=0 then s else plJ s (tmJ (xs i) (ys i) d):=by rw[<-D,<-X];rfl
    by_cases R:d=0
    ·rw[yB3 R]at f;rw[R]at A;have hl:RG.M w w.heap.size [] 62 [RG.z 8,C,tw s] [z,p,L] [(4,.p 0 0),(5,.s 1 N N),(7,.p 2 0),(8,.v (iZ q)),(39,.v (iZ N)),(40,.v (iZ i))] c _:=⟨S,hu,⟨r4,r5,r7,r8,h8,hx,yB5⟩⟩
     repeat refine TI ?_
     refine hl.U [.x (.bool true)] [4,5,7,8,39,40,41] ⟨RG.aJ rfl .lss 3 3 40 39 (iZ i) (iZ N) (.bool true) rfl rfl RG.sx RG.sx (λw=>kR) (eY u),yB5⟩ ?_;intro kv bg Q;repeat refine TI ?_
     refine UC Q.ev ?_;refine Vg ?_;refine TI ?_;refine V3 ?_;repeat refine TI ?_
     refine Q.U [.x (iZ i),.x (iZ i)] [4,5,7,8,9,39,40] ⟨RG.st,RG.st,yB5⟩ ?_;intro bb kq k3;repeat refine TI ?_
     refine k3.U [.s (.s 1 N N),.x (iZ i),.x (iZ q),.s (.p 1 (353*i)),.s (.p 1 ((353*i)+96)),.s (.p 1 (((353*i)+96)+q)),.x (.int .i8 0),.x (.int .i8 0)] [4,5,7,8,10,39,40] ⟨RG.st,RG.st,RG.st,RG.aY rfl 188 43 44 rfl (.s 1 N N) (iZ i) RG.sx RG.sx (λμ w=>FH _ _ _ i u w),RG.st,RG.aY rfl 194 47 45 rfl (.p 1 ((353*i)+96)) (iZ q) RG.sx RG.sx (λμ w=>JY _ _ q hq w),RG.mC rfl 1 (((353*i)+96)+q) _ rfl rfl kR 193 48 rfl (.int .i8 0) rfl RG.sx A Qr,RG.st,yB5⟩ ?_;intro b9 b2 he;repeat refine TI ?_
     refine he.U [.x (.int .i8 0),.x (.bool false)] [4,5,7,8,39,40,51] ⟨RG.st,RG.aH rfl .neq 193 193 50 (.int .i8 0) (.int .i8 0) (.bool false) rfl rfl RG.sx (λw=>kR) QU,yB5⟩ ?_;intro bh ky M;repeat refine TI ?_
     refine UG M.ev ?_;refine Vg ?_;repeat refine TI ?_
     refine M.U [.x (iZ ((i+1:Nat):Int)),.x (iZ ((i+1:Nat):Int))] [4,5,7,8,39,40] ⟨RG.aH rfl .add 3 3 40 (iZ i) (iZ 1) (iZ ((i+1:Nat):Int)) rfl rfl RG.sx (λw=>kR) (rK i 1 oM oM),RG.st,yB5⟩ ?_;intro B kx g;have W:B.tmps[4]? = some (pZ z):=g.at (s:=(.p 0 0));have k5:B.tmps[5]? = some (.slice (some (aZ p)) N N):=g.at (s:=(.s 1 N N));have k0:B.tmps[7]? = some (pZ L):=g.at (s:=(.p 2 0));have hp:B.tmps[8]? = some (iZ q):=g.at (s:=(.v (iZ q)));have I:B.tmps[39]? = some (iZ N):=g.at (s:=(.v (iZ N)));have x:B.tmps[40]? = some (iZ ((i+1:Nat):Int)):=g.at (s:=(.v (iZ ((i+1:Nat):Int))));show ∃n',_;exact⟨m'-1,oM,i+1,oM,g.sl,W,k5,k0,hp,I,x,by rw[f];exact g.st⟩
    ·rw[yB4 R]at f;have h6:d%2=1/\-15<=d/\d<=15:=by
      obtain⟨_,_,-,x⟩:=Av (show ns i<2^256 from kj i u);rcases x.ho q with h|h
      ·exact absurd (X ▸ h) R
      ·exact X ▸ h
     obtain⟨s3,h5⟩:∃t,tmJ (xs i) (ys i) d=t:=⟨_,rfl⟩
     obtain⟨s4,h4⟩:∃t,plJ s s3=t:=⟨_,rfl⟩
     have bc:=h4 ▸ Np F s s3;have ba:∀(k:Nat) (w:TA),k<w.heap.size->w.rangeAt k 0 C->TW prog 121 #[.pointer (some ⟨k,353*i,none⟩),.int .i8 d] w (rZ w λr w'=>r=tv s3):=λk w k4 hr =>
      h5 ▸ KU F k (353*i) (xs i) (ys i) h6.1 h6.2 w k4 (λW x=>RG.rU hr (λj I=>by rw[VK];exact h2 W j x (by rw[cX]at I;exact I)))
     rw[h5,h4]at f;have hl:RG.M w w.heap.size [] 62 [RG.z 8,C,tw s] [z,p,L] [(4,.p 0 0),(5,.s 1 N N),(7,.p 2 0),(8,.v (iZ q)),(39,.v (iZ N)),(40,.v (iZ i))] c _:=⟨S,hu,⟨r4,r5,r7,r8,h8,hx,yB5⟩⟩
     repeat refine TI ?_
     refine hl.U [.x (.bool true)] [4,5,7,8,39,40,41] ⟨RG.aJ rfl .lss 3 3 40 39 (iZ i) (iZ N) (.bool true) rfl rfl RG.sx RG.sx (λw=>kR) (eY u),yB5⟩ ?_;intro kv bg Q;repeat refine TI ?_
     refine UC Q.ev ?_;refine Vg ?_;refine TI ?_;refine V3 ?_;repeat refine TI ?_
     refine Q.U [.x (iZ i),.x (iZ i)] [4,5,7,8,9,39,40] ⟨RG.st,RG.st,yB5⟩ ?_;intro bb kq k3;repeat refine TI ?_
     refine k3.U [.s (.s 1 N N),.x (iZ i),.x (iZ q),.s (.p 1 (353*i)),.s (.p 1 ((353*i)+96)),.s (.p 1 (((353*i)+96)+q)),.x (.int .i8 d),.x (.int .i8 d)] [4,5,7,8,9,10,39,40] ⟨RG.st,RG.st,RG.st,RG.aY rfl 188 43 44 rfl (.s 1 N N) (iZ i) RG.sx RG.sx (λμ w=>FH _ _ _ i u w),RG.st,RG.aY rfl 194 47 45 rfl (.p 1 ((353*i)+96)) (iZ q) RG.sx RG.sx (λμ w=>JY _ _ q hq w),RG.mC rfl 1 (((353*i)+96)+q) _ rfl rfl kR 193 48 rfl (.int .i8 d) rfl RG.sx A Qr,RG.st,yB5⟩ ?_;intro b9 b2 he;repeat refine TI ?_
     refine he.U [.x (.int .i8 d),.x (.bool true)] [4,5,7,8,9,10,39,40,51] ⟨RG.st,RG.aH rfl .neq 193 193 50 (.int .i8 d) (.int .i8 0) (.bool true) rfl rfl RG.sx (λw=>kR) (QT R),yB5⟩ ?_;intro bh ky M;repeat refine TI ?_
     refine UC M.ev ?_;repeat refine TI ?_
     refine M.D [.x (tv s),.s (.s 1 N N),.x (iZ i),.s (.p 1 (353*i)),.x (.int .i8 d),.c (tv s3),.c (tv s4),.u 2] [] [(2,7,tw s4)] [RG.z 8,C,tw s4] [4,5,7,8,39,40] ⟨RG.ld iV i117,RG.st,RG.st,RG.aY rfl 188 53 54 rfl (.s 1 N N) (iZ i) RG.sx RG.sx (λμ w=>FH _ _ _ i u w),RG.st,RG.Cj rfl 1 _ rfl rfl kR kk 121 55 56 (.p 1 (353*i)) (.int .i8 d) (tv s3) rfl (λa w=>kR) RG.sx RG.sx (λμ w k4 hr=>ba (μ 1) w k4 hr),RG.cl bc,RG.pt i117,yB5⟩ ?_;intro B kx g;repeat refine TI ?_
     refine g.U [.x (iZ ((i+1:Nat):Int)),.x (iZ ((i+1:Nat):Int))] [4,5,7,8,39,40] ⟨RG.aH rfl .add 3 3 40 (iZ i) (iZ 1) (iZ ((i+1:Nat):Int)) rfl rfl RG.sx (λw=>kR) (rK i 1 oM oM),RG.st,yB5⟩ ?_;intro I bi x;have k6:I.tmps[4]? = some (pZ z):=x.at (s:=(.p 0 0));have hk:I.tmps[5]? = some (.slice (some (aZ p)) N N):=x.at (s:=(.s 1 N N));have k7:I.tmps[7]? = some (pZ L):=x.at (s:=(.p 2 0));have hc:I.tmps[8]? = some (iZ q):=x.at (s:=(.v (iZ q)));have h0:I.tmps[39]? = some (iZ N):=x.at (s:=(.v (iZ N)));have W:I.tmps[40]? = some (iZ ((i+1:Nat):Int)):=x.at (s:=(.v (iZ ((i+1:Nat):Int))));show ∃n',_;exact⟨m'-1,oM,i+1,oM,x.sl,k6,hk,k7,hc,h0,W,by rw[f];exact x.st⟩
   ·have Q:i=N:=oM;rw[Q]at D;rw[D]at K;have R:RG.M w w.heap.size [] 62 [RG.z 8,C,tw s] [z,p,L] [(4,.p 0 0),(5,.s 1 N N),(7,.p 2 0),(8,.v (iZ q)),(39,.v (iZ N)),(40,.v (iZ i))] c _:=⟨S,hu,⟨r4,r5,r7,r8,h8,hx,yB5⟩⟩
    repeat refine TI ?_
    refine R.U [.x (.bool false)] [4,5,7,8,41] ⟨RG.aJ rfl .lss 3 3 40 39 (iZ i) (iZ N) (.bool false) rfl rfl RG.sx RG.sx (λw=>kR) (l6 u),yB5⟩ ?_;intro bp W M;repeat refine TI ?_
    refine UG M.ev ?_;refine Z8 ?_;dsimp only[Exit.then,Xl];rw[yB3 rfl];repeat refine TI ?_
    refine M.U [.x (iZ q),.x (iZ ((q:Int)-1)),.x (iZ ((q:Int)-1))] [4,5,7,8] ⟨RG.st,RG.aH rfl .sub 3 3 34 (iZ q) (iZ 1) (iZ ((q:Int)-1)) rfl rfl RG.sx (λw=>kR) (sub1' q oM),RG.st,yB5⟩ ?_;intro g X f;have I:g.tmps[4]? = some (pZ z):=f.at (s:=(.p 0 0));have x:g.tmps[5]? = some (.slice (some (aZ p)) N N):=f.at (s:=(.s 1 N N));have A:g.tmps[7]? = some (pZ L):=f.at (s:=(.p 2 0));have B:g.tmps[8]? = some (iZ ((q:Int)-1)):=f.at (s:=(.v (iZ ((q:Int)-1))));show ∃n',_;exact⟨q,Xs q,oM,f.sl,I,x,A,B,by rw[K];exact f.st⟩
theorem NU(h:Fld P):([uZ 1,uZ 0,uZ 0,uZ 0]:List TC)=ws (1:Fin P):=by
 have h:=Ag h;unfold nv at h;injection h with h
 exact congrArg Array.toList h
def rt(m:Fin P):Option (Fin P):=if m.val^(P/4+1)%P*(m.val^(P/4+1)%P)%P=m.val then some (Vy P (even P (m.val^(P/4+1)%P))) else none
omit [NeZero P] in
theorem E7{r:Nat}(k:0<P)(h:r<P):even P r<P:=by unfold even;split<;>omega
theorem Lp{m y:Fin P}{v:TC}(h:rt m=some y)(k:Four v (even P (m.val^(P/4+1)%P))):v=fv y:=by
 unfold rt at h;split at h
 ·obtain rfl:=Uc.inj h;have:(Vy P (even P (m.val^(P/4+1)%P))).val=even P (m.val^(P/4+1)%P):=Uf (E7 (XU P) (Vm _ (XU P)));show v=nv _;rw[this];exact k.nv
 ·cases h
theorem Ii{m y:Fin P}(h:rt m=some y):m.val^(P/4+1)%P*(m.val^(P/4+1)%P)%P=m.val:=by
 unfold rt at h;split at h
 ·assumption
 ·cases h
theorem QB{m:Fin P}(h:rt m=none):¬m.val^(P/4+1)%P*(m.val^(P/4+1)%P)%P=m.val:=by
 unfold rt at h;split at h
 ·cases h
 ·assumption
theorem RootR.val{m:Fin P}{e:TC}(h:RootR P m.val (m.val^(P/4+1)%P) e):(∀y,rt m=some y->e=.tuple #[fv y,.bool true])/\(rt m=none->e=.tuple #[fv (0:Fin P),.bool false]):=by
 obtain⟨i,l,g,j,ok,rfl,b,d,f⟩:=h;refine⟨λy k=>?_,λc=>?_⟩
 ·cases ok with
  | true=>rw[Lp k (b rfl).2]
  | false=>exact absurd (Ii k) (d rfl)
 ·cases ok with
  | true=>exact absurd (b rfl).1 (QB c)
  | false =>
   obtain⟨rfl,rfl,rfl,rfl⟩:=f rfl;rw[<-lJ];rfl
theorem Qd(h:Fld P){m y:Fin P}(e:rt m=some y):Gives 163 #[gv0,fv m] (.tuple #[fv y,.bool true]):=λw =>
 (Cr 4294968273 0 0 P _ m.val h.gap h.p4 (h.four m) w).mono (by rintro e' w' ⟨v,rfl,k,b⟩;exact⟨_,rfl,k,b.val.1 y e⟩)
theorem Qe(h:Fld P){m:Fin P}(e:rt m=none):Gives 163 #[gv0,fv m] (.tuple #[fv (0:Fin P),.bool false]):=λw =>
 (Cr 4294968273 0 0 P _ m.val h.gap h.p4 (h.four m) w).mono (by rintro e' w' ⟨v,rfl,k,b⟩;exact⟨_,rfl,k,b.val.2 e⟩)
def gl0:List TC:=[uZ 4294968273,uZ 0,uZ 0,uZ 0]
theorem zI(C:Fld P)(x y:Fin P)(t:rt (x*x*x+7)=some y):Gives 140 #[(fv x)] (.tuple #[pv x y,.bool true]):=by
 intro w;obtain⟨l,i⟩:∃c,c=x*x:=⟨_,rfl⟩
 obtain⟨g,e⟩:∃c,c=l*x:=⟨_,rfl⟩
 obtain⟨k,j⟩:∃c,c=g+(7:Fin P):=⟨_,rfl⟩
 have b:((.tuple #[pv x y,.bool true]):TC)=(.tuple #[pv x y,.bool true]):=by
  subst_vars;rfl
 rw[<-b];go_enter func140,ntmps140;refine RG.M.enter [(0,.v (fv x))] 31 kR ?_;intro a0 o;repeat refine TI ?_
 refine o.T [.m 0,.m 1,.x (.bool false)] [(0,ws x),(1,RG.z 8)] [] [ws x,RG.z 8] [1,2,3] ⟨RG.mk 0 44,RG.mk 1 148,RG.st,yB5⟩ ?_;intro A B I u q;repeat refine TI ?_
 refine q.T [.c gv0,.m 2,.u 2] [(1,RG.z 4)] [(2,2,gl0)] [ws x,RG.z 8,gl0] [1,2,3,4] ⟨RG.cl bL,RG.mk 2 89,RG.pt i79,yB5⟩ ?_;intro a H J n;repeat refine TI ?_
 refine n.D [.x gv0,.x gv0,.x gv0,.x (fv x),.x (fv x),.c (fv l),.x (fv x),.c (fv g),.x (fv (7:Fin P)),.c (fv k),.m 3,.u 3] [(10,RG.z 4)] [(3,11,ws k)] [ws x,RG.z 8,gl0,ws k] [1,2,3,4,5] ⟨RG.ld u79 i79,RG.ld u79 i79,RG.ld u79 i79,RG.ld u85 i85,RG.ld u85 i85,RG.cl ((rM C x x).e i),RG.ld u85 i85,RG.cl ((rM C l x).e e),RG.se (vD C),RG.cl ((FR C g (7:Fin P)).e j),RG.mk 3 44,RG.pt i85,yB5⟩ ?_;intro D L z p;repeat refine TI ?_
 refine p.T [.x gv0,.x (fv k),.c (.tuple #[fv y,.bool true]),.x (.tuple #[fv y,.bool true]),.x (fv y),.x (.bool true),.m 4,.u 4,.x (.bool true)] [(6,RG.z 4)] [(4,7,ws y)] [ws x,RG.z 8,gl0,ws k,ws y] [1,2,3,6,7] ⟨RG.ld u79 i79,RG.ld u85 i85,RG.cl (f:=163) (args:=#[gv0,fv k]) (v:=(.tuple #[fv y,.bool true])) (Qd C (by subst_vars;exact t)),RG.st,RG.st,RG.st,RG.mk 4 44,RG.pt i85,RG.st,yB5⟩ ?_;intro O M F r;repeat refine TI ?_
 refine r.U [.x (.bool true),.x (.bool false)] [1,2,3,6,26] ⟨RG.st,RG.st,yB5⟩ ?_;intro E G m;repeat refine TI ?_
 refine UG m.ev ?_;refine Vg ?_;repeat refine TI ?_
 refine m.T [.x (fv x),.x (fv y),.x (pv x y),.u 1,.x (.bool true)] [] [(1,3,ws x++(ws y))] [ws x,ws x++(ws y),gl0,ws k,ws y] [2,3] ⟨RG.ld u85 i85,RG.ld u85 i85,RG.st,RG.pt i109,RG.st,yB5⟩ ?_;intro K N d;refine UZ ?_;refine TM (v:=(.tuple #[pv x y,.bool true])) (RG.bQ d.st 2 3 148 rfl 1 _ rfl (d.at (s:=(.p 1 0))) _ (d.at (s:=(.v (.bool true)))) iM i109) d.sl.defers ?_;exact⟨_,rfl,d.st.bel.below,rfl⟩
theorem zJ(C:Fld P)(x:Fin P)(t:rt (x*x*x+7)=none):Gives 140 #[(fv x)] (.tuple #[pv (0:Fin P) 0,.bool false]):=by
 intro w;obtain⟨l,i⟩:∃c,c=x*x:=⟨_,rfl⟩
 obtain⟨g,e⟩:∃c,c=l*x:=⟨_,rfl⟩
 obtain⟨k,j⟩:∃c,c=g+(7:Fin P):=⟨_,rfl⟩
 have b:((.tuple #[pv (0:Fin P) (0:Fin P),.bool false]):TC)=(.tuple #[pv (0:Fin P) 0,.bool false]):=by
  subst_vars;rfl
 rw[<-b];go_enter func140,ntmps140;refine RG.M.enter [(0,.v (fv x))] 31 kR ?_;intro a0 o;repeat refine TI ?_
 refine o.T [.m 0,.m 1,.x (.bool false)] [(0,ws x),(1,RG.z 8)] [] [ws x,RG.z 8] [1,2,3] ⟨RG.mk 0 44,RG.mk 1 148,RG.st,yB5⟩ ?_;intro a A H u q;repeat refine TI ?_
 refine q.T [.c gv0,.m 2,.u 2] [(1,RG.z 4)] [(2,2,gl0)] [ws x,RG.z 8,gl0] [1,2,3,4] ⟨RG.cl bL,RG.mk 2 89,RG.pt i79,yB5⟩ ?_;intro z G I n;repeat refine TI ?_
 refine n.D [.x gv0,.x gv0,.x gv0,.x (fv x),.x (fv x),.c (fv l),.x (fv x),.c (fv g),.x (fv (7:Fin P)),.c (fv k),.m 3,.u 3] [(10,RG.z 4)] [(3,11,ws k)] [ws x,RG.z 8,gl0,ws k] [2,3,4,5] ⟨RG.ld u79 i79,RG.ld u79 i79,RG.ld u79 i79,RG.ld u85 i85,RG.ld u85 i85,RG.cl ((rM C x x).e i),RG.ld u85 i85,RG.cl ((rM C l x).e e),RG.se (vD C),RG.cl ((FR C g (7:Fin P)).e j),RG.mk 3 44,RG.pt i85,yB5⟩ ?_;intro B K y p;repeat refine TI ?_
 refine p.T [.x gv0,.x (fv k),.c (.tuple #[fv (0:Fin P),.bool false]),.x (.tuple #[fv (0:Fin P),.bool false]),.x (fv (0:Fin P)),.x (.bool false),.m 4,.u 4,.x (.bool false)] [(6,RG.z 4)] [(4,7,ws (0:Fin P))] [ws x,RG.z 8,gl0,ws k,ws (0:Fin P)] [2,3,7] ⟨RG.ld u79 i79,RG.ld u85 i85,RG.cl (f:=163) (args:=#[gv0,fv k]) (v:=(.tuple #[fv (0:Fin P),.bool false])) (Qe C (by subst_vars;exact t)),RG.st,RG.st,RG.st,RG.mk 4 44,RG.pt i85,RG.st,yB5⟩ ?_;intro N L E r;repeat refine TI ?_
 refine r.U [.x (.bool false),.x (.bool true)] [2,3,26] ⟨RG.st,RG.st,yB5⟩ ?_;intro D F m;repeat refine TI ?_
 refine UC m.ev ?_;repeat refine TI ?_
 refine m.T [.x (pv (0:Fin P) (0:Fin P)),.u 1,.x (.bool false)] [] [(1,1,ws (0:Fin P)++(ws (0:Fin P)))] [ws x,ws (0:Fin P)++(ws (0:Fin P)),gl0,ws k,ws (0:Fin P)] [2,3] ⟨RG.se (iE (P:=P)),RG.pt i109,RG.st,yB5⟩ ?_;intro J M d;refine UZ ?_;refine TM (v:=(.tuple #[pv (0:Fin P) (0:Fin P),.bool false])) (RG.bQ d.st 2 3 148 rfl 1 _ rfl (d.at (s:=(.p 1 0))) _ (d.at (s:=(.v (.bool false)))) iM i109) d.sl.defers ?_;exact⟨_,rfl,d.st.bel.below,rfl⟩
theorem OK(C:Fld P)(x y:Fin P):Gives 144 #[(pv x y)] (pv x (0-y)):=by
 intro w;obtain⟨k,e⟩:∃c,c=(0:Fin P)-y:=⟨_,rfl⟩
 have b:((pv x k):TC)=(pv x (0-y)):=by
  subst_vars;rfl
 rw[<-b];go_enter func144,ntmps144;refine RG.M.enter [(0,.v (pv x y))] 11 kR ?_;intro a0 g;repeat refine TI ?_
 refine g.T [.m 0,.m 1] [(0,ws x++(ws y)),(1,RG.z 8)] [] [ws x++(ws y),RG.z 8] [1,2] ⟨RG.mk 0 148,RG.mk 1 148,yB5⟩ ?_;intro m o l j f;repeat refine TI ?_
 refine f.D [.s (.p 0 0),.x (fv x),.c gv0,.x (fv (0:Fin P)),.s (.p 0 4),.x (fv y),.c (fv k),.x (pv x k),.u 1] [] [(1,8,ws x++(ws k))] [ws x++(ws y),ws x++(ws k)] [2] ⟨RG.st,RG.ld u85 i85,RG.cl bL,RG.se (lJ (P:=P)),RG.st,RG.ld u85 i85,RG.cl ((Kg C (0:Fin P) y).e e),RG.st,RG.pt i109,yB5⟩ ?_;intro i n d;refine UZ ?_;refine TM (v:=(pv x k)) (RG.aC d.st 2 148 rfl 1 _ rfl (d.at (s:=(.p 1 0))) iM i109) d.sl.defers ?_;exact⟨_,rfl,d.st.bel.below,rfl⟩
end
section
open Go.RowKit Go.Sort Go.Deep
variable {P:Nat}[NeZero P]{N:Nat}
theorem iO{w W:TA}{k j e a b c d i f g:Nat}(h:Kept w k [⟨e,0,a,b,c,d⟩,⟨k,0,i,f,g,0⟩,⟨j,0,0,0,0,0⟩] W):W.cell? ⟨e,0,none⟩=some (uZ a)/\W.cell? ⟨e,1,none⟩=some (uZ b)/\W.cell? ⟨e,2,none⟩=some (uZ c)/\W.cell? ⟨e,3,none⟩=some (uZ d)/\W.cell? ⟨k,0,none⟩=some (uZ i)/\W.cell? ⟨k,1,none⟩=some (uZ f)/\W.cell? ⟨k,2,none⟩=some (uZ g)/\W.cell? ⟨k,3,none⟩=some (uZ 0)/\Kept w k [⟨e,0,a,b,c,d⟩,⟨k,0,i,f,g,0⟩,⟨j,0,0,0,0,0⟩] W:=⟨h.head.c0,h.head.c1,h.head.c2,h.head.c3,h.tail.head.c0,h.tail.head.c1,h.tail.head.c2,h.tail.head.c3,h⟩
theorem nX{w W:TA}{k j e a b c d i f g:Nat}(h:W.cell? ⟨e,0,none⟩=some (uZ a)/\W.cell? ⟨e,1,none⟩=some (uZ b)/\W.cell? ⟨e,2,none⟩=some (uZ c)/\W.cell? ⟨e,3,none⟩=some (uZ d)/\W.cell? ⟨k,0,none⟩=some (uZ i)/\W.cell? ⟨k,1,none⟩=some (uZ f)/\W.cell? ⟨k,2,none⟩=some (uZ g)/\W.cell? ⟨k,3,none⟩=some (uZ 0)/\Kept w k [⟨e,0,a,b,c,d⟩,⟨k,0,i,f,g,0⟩,⟨j,0,0,0,0,0⟩] W):Kept w k [⟨e,0,a,b,c,d⟩,⟨k,0,i,f,g,0⟩,⟨j,0,0,0,0,0⟩] W:=h.2.2.2.2.2.2.2.2
theorem Bp{w W:TA}{k j e a b c d i f g:Nat}{o:Obj}(h:W.cell? ⟨e,0,none⟩=some (uZ a)/\W.cell? ⟨e,1,none⟩=some (uZ b)/\W.cell? ⟨e,2,none⟩=some (uZ c)/\W.cell? ⟨e,3,none⟩=some (uZ d)/\W.cell? ⟨k,0,none⟩=some (uZ i)/\W.cell? ⟨k,1,none⟩=some (uZ f)/\W.cell? ⟨k,2,none⟩=some (uZ g)/\W.cell? ⟨k,3,none⟩=some (uZ 0)/\Kept w k [⟨e,0,a,b,c,d⟩,⟨k,0,i,f,g,0⟩,⟨j,0,0,0,0,0⟩] W):(W.alloc o).cell? ⟨e,0,none⟩=some (uZ a)/\(W.alloc o).cell? ⟨e,1,none⟩=some (uZ b)/\(W.alloc o).cell? ⟨e,2,none⟩=some (uZ c)/\(W.alloc o).cell? ⟨e,3,none⟩=some (uZ d)/\(W.alloc o).cell? ⟨k,0,none⟩=some (uZ i)/\(W.alloc o).cell? ⟨k,1,none⟩=some (uZ f)/\(W.alloc o).cell? ⟨k,2,none⟩=some (uZ g)/\(W.alloc o).cell? ⟨k,3,none⟩=some (uZ 0)/\Kept w k [⟨e,0,a,b,c,d⟩,⟨k,0,i,f,g,0⟩,⟨j,0,0,0,0,0⟩] (W.alloc o):=iO ((nX h).alloc o)
theorem Ab{w W:TA}{k j e a b c d i f g:Nat}{o:Obj}(h:W.drew.cell? ⟨e,0,none⟩=some (uZ a)/\W.drew.cell? ⟨e,1,none⟩=some (uZ b)/\W.drew.cell? ⟨e,2,none⟩=some (uZ c)/\W.drew.cell? ⟨e,3,none⟩=some (uZ d)/\W.drew.cell? ⟨k,0,none⟩=some (uZ i)/\W.drew.cell? ⟨k,1,none⟩=some (uZ f)/\W.drew.cell? ⟨k,2,none⟩=some (uZ g)/\W.drew.cell? ⟨k,3,none⟩=some (uZ 0)/\Kept w k [⟨e,0,a,b,c,d⟩,⟨k,0,i,f,g,0⟩,⟨j,0,0,0,0,0⟩] W.drew):(W.alloc o).drew.cell? ⟨e,0,none⟩=some (uZ a)/\(W.alloc o).drew.cell? ⟨e,1,none⟩=some (uZ b)/\(W.alloc o).drew.cell? ⟨e,2,none⟩=some (uZ c)/\(W.alloc o).drew.cell? ⟨e,3,none⟩=some (uZ d)/\(W.alloc o).drew.cell? ⟨k,0,none⟩=some (uZ i)/\(W.alloc o).drew.cell? ⟨k,1,none⟩=some (uZ f)/\(W.alloc o).drew.cell? ⟨k,2,none⟩=some (uZ g)/\(W.alloc o).drew.cell? ⟨k,3,none⟩=some (uZ 0)/\Kept w k [⟨e,0,a,b,c,d⟩,⟨k,0,i,f,g,0⟩,⟨j,0,0,0,0,0⟩] (W.alloc o).drew:=iO (((nX h).undrew).alloc o).drew
theorem Ke(pv:TC)(p:Option V5)(n cap:Nat)(w:TA)(d k b:Nat)(c:pv=.agg #[uZ d,uZ k,uZ b,uZ 0])(f:n≠32):
 TW prog 31 #[pv,.slice p n cap] w (rZ w λe w'=>e=.tuple #[.agg #[uZ 0,uZ 0,uZ 0,uZ 0],.bool false]):=by
 subst c;go_enter func31,ntmps31;go_wp2;refine TM (v:=?v) ?hr rfl ?hR
 case hr=>simp[results,Tryz.results31,go_sem];rfl
 exact⟨_,rfl,below2 _ _ _,rfl⟩
theorem xQ(l j m P g o cap:Nat)(p:Bs)(W:Gap l j m P)(w:TA)(hs:p.size=32)(hc:32<=cap)(U:g<w.heap.size)(X:Holds encB w g o p):
 TW prog 31 #[.agg #[.int .u64 l,.int .u64 j,.int .u64 m,.int .u64 0],.slice (some ⟨g,o,none⟩) 32 cap] w
  (Ret λe w'=>Below w.heap.size w w'/\((beV p.toList<P/\∃v,e=.tuple #[v,.bool true]/\Four v (beV p.toList))\/(P<=beV p.toList/\e=.tuple #[.agg #[.int .u64 0,.int .u64 0,.int .u64 0,.int .u64 0],.bool false]))):=by
 have C:Hid (Gap l j m P):=W;have J:Hid (Holds encB w g o p):=X;have HS:Hid (p.size=32):=hs;clear W X hs;go_enter func31,ntmps31;go_wp2_with fail
 have PR:=(At4.made w 89 l j m 0 rfl).alloc (.cells #[.int .u64 0,.int .u64 0,.int .u64 0,.int .u64 0] 44);have S:=At4.made (w.alloc (.cells #[.int .u64 l,.int .u64 j,.int .u64 m,.int .u64 0] 89)) 44 0 0 0 0 (TQ _ _);have r:=((Kept.mk1 (below2 w (.cells #[.int .u64 l,.int .u64 j,.int .u64 m,.int .u64 0] 89) (.cells #[.int .u64 0,.int .u64 0,.int .u64 0,.int .u64 0] 44)) (below2 w (.cells #[.int .u64 l,.int .u64 j,.int .u64 m,.int .u64 0] 89) (.cells #[.int .u64 0,.int .u64 0,.int .u64 0,.int .u64 0] 44)).size).cons S.blk).cons PR.blk;have y:=Holds.below J.out (below2 w (.cells #[.int .u64 l,.int .u64 j,.int .u64 m,.int .u64 0] 89) (.cells #[.int .u64 0,.int .u64 0,.int .u64 0,.int .u64 0] 44)) U;clear PR S;generalize U2 _ _=W0 at r y⊢;refine(kO (some ⟨g,o,none⟩) g o 32 cap p _ (TG 32) hc HS.out (Or.inr ⟨rfl,y⟩)).mono ?_;rintro e K ⟨v,rfl,i,Q⟩;obtain⟨a,b,c,d,rfl,ha,hb,N,hd,I⟩:=id Q;have R:Hid (Four _ _):=Q;have L:=r.call i;clear I Q i r y;go_wp2_with fail
 have f:=(L.alloc (.cells #[.int .u64 a,.int .u64 b,.int .u64 c,.int .u64 d] 44)).cons (At4.made K 44 a b c d rfl).blk;have D:K.heap.size≠w.heap.size:=U3 L.head.lt;clear L;generalize U2 _ _=W1 at f⊢;generalize K.heap.size=z at f D⊢;generalize M:w.heap.size+1=F at f⊢;have O:Hid (w.heap.size<=F):=by unfold Hid;omega
 generalize Z:w.heap.size=q at f O U D⊢;have V:Hid (w.heap.size=q):=Z;clear Z M
 go_cut [8] (λs8 wx=>∃k:Nat,s8=.int .u64 k/\k<=1/\Hid (∃t,t<top/\t+top*k=beV p.toList+val l j m 0)/\Kept w q [⟨z,0,a,b,c,d⟩,⟨q,0,l,j,m,0⟩,⟨F,0,0,0,0,0⟩] wx)
 case first =>
  go_region_held3 (λw'=>w'.cell? ⟨z,0,none⟩=some (.int .u64 a)/\w'.cell? ⟨z,1,none⟩=some (.int .u64 b)/\w'.cell? ⟨z,2,none⟩=some (.int .u64 c)/\w'.cell? ⟨z,3,none⟩=some (.int .u64 d)/\w'.cell? ⟨q,0,none⟩=some (.int .u64 l)/\w'.cell? ⟨q,1,none⟩=some (.int .u64 j)/\w'.cell? ⟨q,2,none⟩=some (.int .u64 m)/\w'.cell? ⟨q,3,none⟩=some (.int .u64 0)/\Kept w q [⟨z,0,a,b,c,d⟩,⟨q,0,l,j,m,0⟩,⟨F,0,0,0,0,0⟩] w') (first|(with_reducible exact iO f)|(with_reducible exact iO f.drew)|(with_reducible exact Ab (by assumption))|(with_reducible exact Bp (by assumption))|(with_reducible exact iO (f.alloc _))|(with_reducible exact iO (f.set4' B (λx s=>U3 (A x s)) _ _ _ _))|(with_reducible exact iO (f.alloc _).drew)|(with_reducible exact iO (f.set4' B (λx s=>U3 (A x s)) _ _ _ _).drew)|fail) (first|(go_at_call 71;refine(jP _ _ R.out _).mono ?_;rintro e w2 ⟨v,rfl,i,rfl⟩;(try(with_reducible have G:=T.call i;clear T;have T:=G;clear G));(try(first|(with_reducible have T:=(At4.made _ 87 0 0 0 0 rfl).call i)|(with_reducible have T:=(At4.made _ 87 0 0 0 0 rfl).drew.call i));have A:=f.lts;have B:=f.le);have n:=Kept.call (nX (by assumption)) i;clear f;have f:=n;clear n i)|(go_at_call 70;refine(qT _ _ _ _ R.out (Four.mk C.h0 C.h1 C.h2 dC rfl) _).mono ?_;rintro e w2 ⟨v,rfl,i,v2,t,k,rfl,u,E,Y⟩;obtain⟨a',b',c',d',rfl,h3,hh,N,h7,I⟩:=id u;have HT:Hid (t<top/\t+top*k=beV p.toList+val l j m 0):=⟨u.lt,Y⟩;clear I Y u;(try(with_reducible have G:=T.call i;clear T;have T:=G;clear G));(try(first|(with_reducible have T:=(At4.made _ 87 0 0 0 0 rfl).call i)|(with_reducible have T:=(At4.made _ 87 0 0 0 0 rfl).drew.call i));have A:=f.lts;have B:=f.le);have n:=Kept.call (nX (by assumption)) i;clear f;have f:=n;clear n i;(try(obtain⟨h4,h5,h8,hl,tf⟩:=id T;have zt:=T.lt))))
  all_goals (try go_wp2)
  all_goals (have H:Hid (∃t,t<top/\t+top*k=beV p.toList+val l j m 0):=⟨t,HT.out⟩)
  all_goals (go_meet;first|(with_reducible exact⟨k,rfl,E,H,f.alloc _⟩)|(with_reducible exact⟨k,rfl,E,H,(f.alloc _).drew⟩)|(with_reducible exact⟨k,rfl,E,H,f.set4' B (λx s=>U3 (A x s)) _ _ _ _⟩)|(with_reducible exact⟨k,rfl,E,H,(f.set4' B (λx s=>U3 (A x s)) _ _ _ _).drew⟩)|fail)
 case rest =>
  clear f;obtain⟨k,rfl,E,H,f⟩:=hcut;have G:k=0\/k=1:=oM;rcases G with rfl|rfl
  ·obtain⟨hi,hj,h6,h9,xf⟩:=f.head.at4;obtain⟨A,u,B,s,Y⟩:=f.tail.tail.head.at4;have z1:=f.tail.tail.head.lt;go_wp2;have n:=f.tail.tail.head.at4.self4 a b c d;unfold set4 at n;refine TM (v:=?v0) ?hr0 rfl ?hR0
   case hr0=>simp[results,Tryz.results31,go_sem,n.c0,n.c1,n.c2,n.c3];rfl
   refine⟨_,rfl,?_,Ub ⟨?_,_,rfl,R.out⟩⟩
   ·rw[V.out];exact aF f.bl O.out _ _ _ _
   ·obtain⟨t,M,h2⟩:=H.out;have:=C.hP;omega
  ·obtain⟨A,u,B,s,Y⟩:=f.tail.tail.head.at4;have z1:=f.tail.tail.head.lt;go_wp2;have n:At4 (set4 wc F (.int .u64 0) (.int .u64 0) (.int .u64 0) (.int .u64 0)) F 0 0 0 0:=f.tail.tail.head.at4.self4 0 0 0 0;unfold set4 at n;refine TM (v:=?v1) ?hr1 rfl ?hR1
   case hr1=>simp[results,Tryz.results31,go_sem,n.c0,n.c1,n.c2,n.c3];rfl
   refine⟨_,rfl,?_,Or.inr ⟨?_,rfl⟩⟩
   ·rw[V.out];exact aF f.bl O.out _ _ _ _
   ·obtain⟨t,M,h2⟩:=H.out;have:=C.hP;omega
def Arg(w:TA)(v:TC)(k:Bs):Prop:=∃(p:Option V5) (n cap:Nat),v=.slice p n cap/\k.size=n/\(n=32->∃g o,p=some ⟨g,o,none⟩/\32<=cap/\g<w.heap.size/\Holds encB w g o k)
theorem Arg.below{w k:TA}{v:TC}{c:Bs}(h:Arg w v c)(b:Below w.heap.size w k):Arg k v c:=by
 obtain⟨p,n,cap,rfl,j,m⟩:=h;refine⟨p,n,cap,rfl,j,λi=>?_⟩;obtain⟨g,o,l,f,d,e⟩:=m i;exact⟨g,o,l,f,TF d b.size,Holds.below e b d⟩
def NM(P:Nat)(k:Bs):Prop:=k.size=32/\beV k.toList<P
def Args(w:TA)(q:Option V5)(n:Nat)(L:Nat->Bs):Prop:=0<n->∃k,q=some (aZ k)/\k<w.heap.size/\∀j,j<n->∃v,w.cell? ⟨k,j,none⟩=some v/\Arg w v (L j)
end
section
open Go.RowKit Go.Sort
theorem u131:(prog.underlying 54).map (·.isRow)=some true:=kR
theorem i131:(prog.info? 54).map (·.size)=some 33:=kR
theorem u5:(prog.underlying 5).map (·.isRow)=some false:=kR
theorem NX:prog.underlying 54=some (.array 33 5):=kR
theorem Su:prog.underlying 5=some (.int .u8):=kR
theorem cells5:prog.cellsOf 5=1:=kR
theorem QA(g o cap:Nat)(k:33<=cap)(w:TA):(Instr.sliceAt 23 (.slice (some ⟨g,o,none⟩) 33 cap) (some (iZ 1)) none none).run prog w=.ok (.slice (some ⟨g,o+1,none⟩) 32 (cap-1)) w:=by
 go_simp;omega
theorem NE(g o cap:Nat)(w:TA):(Instr.arrayAt 54 (.slice (some ⟨g,o,none⟩) 33 cap)).run prog w=.ok (.pointer (some ⟨g,o,none⟩)) w:=kR
theorem Ei(g o n cap:Nat)(k:0<n)(w:TA):(UP 23 (.slice (some ⟨g,o,none⟩) n cap) (iZ 0)).run prog w=.ok (.pointer (some ⟨g,o,none⟩)) w:=by
 go_simp
theorem Nq(xs:Array TC)(i:Nat)(v:TC)(h:xs[i]? = some v)(w:TA):(part 5 xs i).run prog w=.ok v w:=by
 go_simp
theorem eqI(xs ys:Array TC)(a b:Nat->Int)(D:Nat)(w:TA):∀(k:List Nat),(∀i∈k,xs[i]? = some (.int .u8 (a i)))->(∀i∈k,ys[i]? = some (.int .u8 (b i))) ->
 (yAX (D+1) 5 1 xs ys k).run prog w=.ok (decide (∀i∈k,a i=b i)) w
 | [],_,_=>by
  rw[yAX];simp
 | i :: k,hx,hy=>by
  have f:=eqI xs ys a b D w k (λj c=>hx j (Uq _ c)) (λj c=>hy j (Uq _ c));have p1:=Nq xs (i*1) _ (by rw[Wq];exact hx i Uz) w;have g:=Nq ys (i*1) _ (by rw[Wq];exact hy i Uz) w;have e:=run_equalIn_int (P:=prog) w D 5 .u8 .u8 (a i) (b i) Su;rw[yAX];simp only[Sem.run_bind,p1,g,e,Result.andThen_ok];by_cases h:a i=b i
  ·simp only[h,beq_self_eq_true,Bool.not_true,Bool.false_eq_true,if_false,f,yAh,true_and]
  ·have d:(a i == b i)=false:=by simpa using h
   simp only[d,Bool.not_false,if_true,Sem.run_pure,yAh,h,false_and,decide_false]
def aA(k:Bs):List TC:=k.toList.map encB
def z33:List TC:=List.replicate 33 (.int .u8 0)
theorem rI(k:Bs)(i:Nat)(h:i<k.size):(aA k)[i]? = some (.int .u8 (ub k[i]!)):=by
 unfold aA;rw[UX,UF,Uj h,getElem!_pos k i h];rfl
theorem eqz(k:Bs)(h:k.size=33)(w:TA):(binOp .eql 54 (.agg (aA k).toArray) (.agg z33.toArray)).run prog w=.ok (.bool (decide (∀i∈US 33,ub k[i]! = 0))) w:=by
 have b:(prog.info? 5).isSome=true:=kR;obtain⟨d,c⟩:=UT.1 b;rw[run_eql_struct,run_equalIn_array w 9999 _ _ NX c,cells5,
  eqI _ _ (λi=>ub k[i]!) (λ_=>0) 9998 w (US 33) (λi b=>by
   rw[XJ];exact rI k i (by rw[h];exact U4.1 b)) (λi b=>by
   rw[XJ];unfold z33;rw[List.getElem?_replicate,yB3 (U4.1 b)])]
 rfl
@[reducible] def sU (bs:Bs):Prop:=∀i∈US 33,ub bs[i]! = 0
theorem Ru{k:Bs}(h:k.size=33)(b:sU k)(w:TA):(binOp .eql 54 (.agg (aA k).toArray) (.agg z33.toArray)).run prog w=.ok (.bool true) w:=by rw[eqz k h,decide_eq_true (show ∀i∈US 33,ub k[i]! = 0 from b)]
theorem Rv{k:Bs}(h:k.size=33)(b:¬sU k)(w:TA):(binOp .eql 54 (.agg (aA k).toArray) (.agg z33.toArray)).run prog w=.ok (.bool false) w:=by rw[eqz k h,decide_eq_false (show ¬ ∀i∈US 33,ub k[i]! = 0 from b)]
theorem aK{k:Bs}(h:k.size=33):(aA k).length=33:=by unfold aA;rw[Uk,TR,h]
theorem Eg{k:Bs}{w:TA}{g o:Nat}(c:Holds encB w g o k):w.rangeAt g o (aA k):=λj v hv=>by
 have b:j<k.size:=by
  have:=(T9.1 hv).1;unfold aA at this;rwa[Uk,TR]at this
 rw[rI k j b]at hv;rw[(c j b).1];exact hv
def tY(k:Bs):Bs:=k.extract 1 33
theorem nU{k:Bs}(h:k.size=33):(tY k).size=32:=by unfold tY;rw[VJ,h];rfl
theorem tl33_holds{k:Bs}{w:TA}{g o:Nat}(h:k.size=33)(c:Holds encB w g o k):Holds encB w g (o+1) (tY k):=
 Holds.part c (by rw[nU h,h];decide) (λj b=>by
  rw[nU h]at b;unfold tY;rw[getElem!_pos _ j (by rw[VJ,h];omega),getElem!_pos _ (1+j) (by rw[h];omega),Array.getElem_extract])
variable {P:Nat}[NeZero P]
theorem Kc(C:Fld P){g o cap:Nat}{k:Bs}(i:k.size=32)(c:32<=cap){x:Fin P}(j:beV k.toList=x.val){w:TA}(l:g<w.heap.size)(f:Holds encB w g o k):
 TW prog 31 #[gv0,.slice (some ⟨g,o,none⟩) 32 cap] w (rZ w λe w'=>e=.tuple #[fv x,.bool true]):=
 (xQ 4294968273 0 0 P g o cap k C.gap w i c l f).mono (by
  rintro e w' ⟨v,rfl,d,⟨m,n,rfl,b⟩|⟨m,rfl⟩⟩
  ·refine⟨_,rfl,d,?_⟩;rw[j]at b;rw[b.nv]
  ·have:=x.isLt;omega)
theorem Kd(C:Fld P){g o cap:Nat}{k:Bs}(i:k.size=32)(c:32<=cap)(j:¬beV k.toList<P){w:TA}(l:g<w.heap.size)(f:Holds encB w g o k):
 TW prog 31 #[gv0,.slice (some ⟨g,o,none⟩) 32 cap] w (rZ w λe w'=>e=.tuple #[fv (0:Fin P),.bool false]):=
 (xQ 4294968273 0 0 P g o cap k C.gap w i c l f).mono (by
  rintro e w' ⟨v,rfl,d,⟨b,n,rfl,m⟩|⟨b,rfl⟩⟩
  ·exact absurd b j
  ·refine⟨_,rfl,d,?_⟩;rw[<-lJ])
def rdx(P:Nat)[NeZero P](k:Bs):Fin P:=Vy P (beV (tY k).toList)
def rd(P:Nat)[NeZero P](k:Bs):Option (Fin P × Fin P):=
 if k.size=33 then
  if sU k then some (0,0) else
  if ub k[0]! = 2\/ub k[0]! = 3 then
   if beV (tY k).toList<P then
    (rt (rdx P k*rdx P k*rdx P k+7)).map (λy=>(rdx P k,if ub k[0]! = 3 then 0-y else y))
   else none
  else none
 else none
def rdV:Option (Fin P × Fin P)->TC
 | none=>.tuple #[pv (0:Fin P) 0,.bool false]
 | some p=>.tuple #[pv p.1 p.2,.bool true]
end
section
open Go.RowKit Go.Sort
variable {P:Nat}[NeZero P]{N:Nat}
theorem Om(C:Fld P)(q:Option V5)(n cap:Nat)(x:Fin P)(w:TA)(p:¬n=33):TW prog 117 #[(.slice q n cap)] w (rZ w λe w'=>e=(.tuple #[pv (0:Fin P) 0,.bool false])):=by
 have b:∀w,(binOp .neq 3 (iZ n) (iZ 33)).run prog w=.ok (.bool true) w:=λw=>by
  have h:¬(n:Int)=33:=oM;go_simp
 go_enter func117,ntmps117;refine RG.Hl (v0:=(.slice q n cap)) (n:=54) kR kR kR ?_;intro a0 c g;have d:=RG.St.begin w;have i:RG.M w w.heap.size [] 54 [] [] [(0,.v (.slice q n cap))] a0 _:=⟨d,c,⟨g,yB5⟩⟩
 repeat refine TI ?_
 refine i.T [.m 0,.x (.bool false)] [(0,RG.z 8)] [] [RG.z 8] [0,2,3] ⟨RG.mk 0 148,RG.st,yB5⟩ ?_;intro o t l j;repeat refine TI ?_
 refine j.U [.x (.slice q n cap),.x (iZ n),.x (.bool true)] [2,3,9] ⟨RG.st,RG.gI rfl 7 (.v (.slice q n cap)) (iZ n) rfl RG.sx (λa w=>kR) (λμ w=>kR),RG.aH rfl .neq 3 3 8 (iZ n) (iZ 33) (.bool true) rfl rfl RG.sx (λw=>kR) b,yB5⟩ ?_;intro r u f;repeat refine TI ?_
 refine UC f.ev ?_;repeat refine TI ?_
 refine f.T [.x (pv (0:Fin P) (0:Fin P)),.u 0,.x (.bool false)] [] [(0,1,ws (0:Fin P)++(ws (0:Fin P)))] [ws (0:Fin P)++(ws (0:Fin P))] [2,3] ⟨RG.se (iE (P:=P)),RG.pt i109,RG.st,yB5⟩ ?_;intro y m k;refine UZ ?_;refine TM (v:=(.tuple #[pv (0:Fin P) (0:Fin P),.bool false])) (RG.bQ k.st 2 3 148 rfl 0 _ rfl (k.at (s:=(.p 0 0))) _ (k.at (s:=(.v (.bool false)))) iM i109) k.sl.defers ?_;exact⟨_,rfl,k.st.bel.below,rfl⟩
abbrev v33(g o cap:Nat):TC:=.slice (some ⟨g,o,none⟩) 33 cap
theorem SK(C:Fld P)(g o cap:Nat)(k:Bs)(w:TA)(p:k.size=33)(Q:33<=cap)(d:g<w.heap.size)(H:Holds encB w g o k):TW prog 117 #[v33 g o cap] w (rZ w λe w'=>e=rdV (rd P k)):=by
 have E:=Eg H;have b:w.cell? ⟨g,o,none⟩=some (.int .u8 (ub k[0]!)):=by
  have:=(H 0 (by rw[p];decide)).1;rw[VK]at this;exact this
 go_enter func117,ntmps117;refine RG.Hl (v0:=(v33 g o cap)) (n:=54) kR kR kR ?_;intro a0 M f0;have O:=RG.St.begin w;have M0:RG.M w w.heap.size [] 54 [] [] [(0,.v (v33 g o cap))] a0 _:=⟨O,M,⟨f0,yB5⟩⟩
 repeat refine TI ?_
 refine M0.T [.m 0,.x (.bool false)] [(0,RG.z 8)] [] [RG.z 8] [0,2,3] ⟨RG.mk 0 148,RG.st,yB5⟩ ?_;intro j1 a1 w1 M1;repeat refine TI ?_
 refine M1.U [.x (v33 g o cap),.x (iZ 33),.x (.bool false)] [0,2,3,9] ⟨RG.st,RG.gI rfl 7 (.v (v33 g o cap)) (iZ 33) rfl RG.sx (λa w=>kR) (λμ w=>kR),RG.st,yB5⟩ ?_;intro a2 w2 L;repeat refine TI ?_
 refine UG L.ev ?_;refine Vg ?_;repeat refine TI ?_
 unfold rd;rw[yB3 p];by_cases I:sU k
 ·rw[yB3 I];refine L.U [.x (v33 g o cap),.x (.pointer (some ⟨g,o,none⟩)),.x (.agg (aA k).toArray),.x (.agg z33.toArray),.x (.bool true)] [2,3,15] ⟨RG.st,RG.Ci rfl 54 11 (v33 g o cap) (.pointer (some ⟨g,o,none⟩)) rfl rfl RG.sx (NE g o cap),RG.eJ rfl g o d Ud 54 12 rfl (aA k) rfl RG.sx E u131 (by rw[aK p];exact i131),RG.st,RG.aJ rfl .eql 54 54 13 14 (.agg (aA k).toArray) (.agg z33.toArray) (.bool true) rfl rfl RG.sx RG.sx (λw=>kR) (Ru p I),yB5⟩ ?_;intro a3 w3 A;repeat refine TI ?_
  refine UC A.ev ?_;repeat refine TI ?_
  refine A.T [.x (pv (0:Fin P) (0:Fin P)),.u 0,.x (.bool true)] [] [(0,1,ws (0:Fin P)++(ws (0:Fin P)))] [ws (0:Fin P)++(ws (0:Fin P))] [2,3] ⟨RG.se (iE (P:=P)),RG.pt i109,RG.st,yB5⟩ ?_;intro a4 V f;refine UZ ?_;refine TM (v:=(.tuple #[pv (0:Fin P) (0:Fin P),.bool true])) (RG.bQ f.st 2 3 148 rfl 0 _ rfl (f.at (s:=(.p 0 0))) _ (f.at (s:=(.v (.bool true)))) iM i109) f.sl.defers ?_;exact⟨_,rfl,f.st.bel.below,rfl⟩
 rw[yB4 I];refine L.U [.x (v33 g o cap),.x (.pointer (some ⟨g,o,none⟩)),.x (.agg (aA k).toArray),.x (.agg z33.toArray),.x (.bool false)] [0,2,3,15] ⟨RG.st,RG.Ci rfl 54 11 (v33 g o cap) (.pointer (some ⟨g,o,none⟩)) rfl rfl RG.sx (NE g o cap),RG.eJ rfl g o d Ud 54 12 rfl (aA k) rfl RG.sx E u131 (by rw[aK p];exact i131),RG.st,RG.aJ rfl .eql 54 54 13 14 (.agg (aA k).toArray) (.agg z33.toArray) (.bool false) rfl rfl RG.sx RG.sx (λw=>kR) (Rv p I),yB5⟩ ?_;intro a3 w3 A;repeat refine TI ?_
 refine UG A.ev ?_;refine Vg ?_;repeat refine TI ?_
 by_cases i:ub k[0]! = 2\/ub k[0]! = 3
 rotate_left
 ·rw[yB4 i];generalize ub k[0]! = m at b i;have R:¬m=2:=λh=>i (.inl h)
  have K:¬m=3:=λh=>i (.inr h)
  have c:∀w,(binOp .neq 5 (.int .u8 m) (.int .u8 2)).run prog w=.ok (.bool true) w:=λw=>by
   go_simp
  have j:∀w,(binOp .neq 5 (.int .u8 m) (.int .u8 3)).run prog w=.ok (.bool true) w:=λw=>by
   go_simp
  refine A.U [.x (v33 g o cap),.x (.pointer (some ⟨g,o,none⟩)),.x (.int .u8 m),.x (.bool true),.x (.bool true),.x (v33 g o cap),.x (.pointer (some ⟨g,o,none⟩)),.x (.int .u8 m),.x (.bool true),.x (.bool true)] [2,3,26] ⟨RG.st,RG.dU rfl 23 17 (iZ 0) rfl (.v (v33 g o cap)) RG.sx (λμ w=>Ei g o 33 cap dC w),RG.bJ rfl g o d Ud 5 18 rfl (.int .u8 m) rfl RG.sx b u5,RG.aH rfl .neq 5 5 19 (.int .u8 m) (.int .u8 2) (.bool true) rfl rfl RG.sx (λw=>kR) c,RG.st,RG.st,RG.dU rfl 23 22 (iZ 0) rfl (.v (v33 g o cap)) RG.sx (λμ w=>Ei g o 33 cap dC w),RG.bJ rfl g o d Ud 5 23 rfl (.int .u8 m) rfl RG.sx b u5,RG.aH rfl .neq 5 5 24 (.int .u8 m) (.int .u8 3) (.bool true) rfl rfl RG.sx (λw=>kR) j,RG.st,yB5⟩ ?_;intro a4 V f;repeat refine TI ?_
  refine UC f.ev ?_;repeat refine TI ?_
  refine f.T [.x (pv (0:Fin P) (0:Fin P)),.u 0,.x (.bool false)] [] [(0,1,ws (0:Fin P)++(ws (0:Fin P)))] [ws (0:Fin P)++(ws (0:Fin P))] [2,3] ⟨RG.se (iE (P:=P)),RG.pt i109,RG.st,yB5⟩ ?_;intro T W t;refine UZ ?_;refine TM (v:=(.tuple #[pv (0:Fin P) (0:Fin P),.bool false])) (RG.bQ t.st 2 3 148 rfl 0 _ rfl (t.at (s:=(.p 0 0))) _ (t.at (s:=(.v (.bool false)))) iM i109) t.sl.defers ?_;exact⟨_,rfl,t.st.bel.below,rfl⟩
 rw[yB3 i];rcases i with i|i
 case' inl=>refine A.u [.x 17 [] (v33 g o cap),.x 18 [(17,0)] (.pointer (some ⟨g,o,none⟩)),.x 19 [(18,1)] (.int .u8 2),.x 20 [(19,2)] (.bool false),.x 21 [(20,3)] (.bool false),⟨some 22,[],.v VU,.pass⟩,⟨some 23,[],.v VU,.pass⟩,⟨some 24,[],.v VU,.pass⟩,⟨some 25,[],.v VU,.pass⟩,.x 26 [(21,4),(25,8)] (.bool false)] [(0,.v (v33 g o cap)),(2,.p 0 0),(3,.v (.bool false)),(26,.v (.bool false))] ⟨RG.st,RG.dU rfl 23 17 (iZ 0) rfl (.v (v33 g o cap)) RG.sx (λμ w=>Ei g o 33 cap dC w),RG.bJ rfl g o d Ud 5 18 rfl (.int .u8 2) rfl RG.sx (b.trans (by rw[i])) u5,RG.st,RG.st,RG.cJ rfl rfl,RG.cJ rfl rfl,RG.cJ rfl rfl,RG.cJ rfl rfl,RG.st,yB5⟩ ?_
 case' inr=>refine A.U [.x (v33 g o cap),.x (.pointer (some ⟨g,o,none⟩)),.x (.int .u8 3),.x (.bool true),.x (.bool true),.x (v33 g o cap),.x (.pointer (some ⟨g,o,none⟩)),.x (.int .u8 3),.x (.bool false),.x (.bool false)] [0,2,3,26] ⟨RG.st,RG.dU rfl 23 17 (iZ 0) rfl (.v (v33 g o cap)) RG.sx (λμ w=>Ei g o 33 cap dC w),RG.bJ rfl g o d Ud 5 18 rfl (.int .u8 3) rfl RG.sx (b.trans (by rw[i])) u5,RG.st,RG.st,RG.st,RG.dU rfl 23 22 (iZ 0) rfl (.v (v33 g o cap)) RG.sx (λμ w=>Ei g o 33 cap dC w),RG.bJ rfl g o d Ud 5 23 rfl (.int .u8 3) rfl RG.sx (b.trans (by rw[i])) u5,RG.st,RG.st,yB5⟩ ?_
 all_goals
  intro a4 V f;repeat refine TI ?_
  refine UG f.ev ?_;refine Vg ?_;repeat refine TI ?_
  by_cases J:beV (tY k).toList<P
  rotate_left
  ·rw[yB4 J];have B:∀w',RG.BelX w.heap.size [] w w'->TW prog 31 #[gv0,.slice (some ⟨g,o+1,none⟩) 32 (cap-1)] w' (Ret λe z=>Below w'.heap.size w' z/\e=.tuple #[fv (0:Fin P),.bool false]):=λw' G=>Kd C (nU p) oM J (TF d G.size) (Holds.below (tl33_holds p H) G.below d)
   refine f.D [.c gv0,.x (v33 g o cap),.x (.slice (some ⟨g,o+1,none⟩) 32 (cap-1)),.c (.tuple #[fv (0:Fin P),.bool false]),.x (.tuple #[fv (0:Fin P),.bool false]),.x (fv (0:Fin P)),.x (.bool false),.m 1,.u 1,.x (.bool false)] [(7,RG.z 4)] [(1,8,ws (0:Fin P))] [RG.z 8,ws (0:Fin P)] [2,3,5] ⟨RG.cl bL,RG.st,RG.tO rfl 23 30 (iZ 1) (v33 g o cap) (.slice (some ⟨g,o+1,none⟩) 32 (cap-1)) rfl rfl RG.sx (QA g o cap Q),RG.kJ rfl 31 29 31 gv0 (.slice (some ⟨g,o+1,none⟩) 32 (cap-1)) (.tuple #[fv (0:Fin P),.bool false]) rfl (λa w=>kR) RG.sx RG.sx B,RG.st,RG.st,RG.st,RG.mk 1 44,RG.pt i85,RG.st,yB5⟩ ?_;intro j5 T W t;repeat refine TI ?_
   refine t.U [.x (.bool false),.x (.bool true)] [2,3,36] ⟨RG.st,RG.st,yB5⟩ ?_;intro a6 w6 D;repeat refine TI ?_
   refine UC D.ev ?_;repeat refine TI ?_
   refine D.T [.x (pv (0:Fin P) (0:Fin P)),.u 0,.x (.bool false)] [] [(0,1,ws (0:Fin P)++(ws (0:Fin P)))] [ws (0:Fin P)++(ws (0:Fin P)),ws (0:Fin P)] [2,3] ⟨RG.se (iE (P:=P)),RG.pt i109,RG.st,yB5⟩ ?_;intro S Y l;refine UZ ?_;refine TM (v:=(.tuple #[pv (0:Fin P) (0:Fin P),.bool false])) (RG.bQ l.st 2 3 148 rfl 0 _ rfl (l.at (s:=(.p 0 0))) _ (l.at (s:=(.v (.bool false)))) iM i109) l.sl.defers ?_;exact⟨_,rfl,l.st.bel.below,rfl⟩
  rw[yB3 J];have F:beV (tY k).toList=(rdx P k).val:=(Uf J).symm;generalize rdx P k=x at F;have B:∀w',RG.BelX w.heap.size [] w w'->TW prog 31 #[gv0,.slice (some ⟨g,o+1,none⟩) 32 (cap-1)] w' (Ret λe z=>Below w'.heap.size w' z/\e=.tuple #[fv x,.bool true]):=λw' G=>Kc C (nU p) oM F (TF d G.size) (Holds.below (tl33_holds p H) G.below d)
  refine f.D [.c gv0,.x (v33 g o cap),.x (.slice (some ⟨g,o+1,none⟩) 32 (cap-1)),.c (.tuple #[fv x,.bool true]),.x (.tuple #[fv x,.bool true]),.x (fv x),.x (.bool true),.m 1,.u 1,.x (.bool true)] [(7,RG.z 4)] [(1,8,ws x)] [RG.z 8,ws x] [0,2,3,4,5] ⟨RG.cl bL,RG.st,RG.tO rfl 23 30 (iZ 1) (v33 g o cap) (.slice (some ⟨g,o+1,none⟩) 32 (cap-1)) rfl rfl RG.sx (QA g o cap Q),RG.kJ rfl 31 29 31 gv0 (.slice (some ⟨g,o+1,none⟩) 32 (cap-1)) (.tuple #[fv x,.bool true]) rfl (λa w=>kR) RG.sx RG.sx B,RG.st,RG.st,RG.st,RG.mk 1 44,RG.pt i85,RG.st,yB5⟩ ?_;intro j5 T W t;repeat refine TI ?_
  refine t.U [.x (.bool true),.x (.bool false)] [0,2,3,4,5,36] ⟨RG.st,RG.st,yB5⟩ ?_;intro a6 w6 D;repeat refine TI ?_
  refine UG D.ev ?_;refine Vg ?_;repeat refine TI ?_
  cases hr:rt (x*x*x+7) with
  | none =>
   refine D.T [.x (fv x),.c (.tuple #[pv (0:Fin P) (0:Fin P),.bool false]),.x (.tuple #[pv (0:Fin P) (0:Fin P),.bool false]),.x (pv (0:Fin P) (0:Fin P)),.x (.bool false),.m 2,.u 2,.x (.bool false)] [(5,RG.z 8)] [(2,6,ws (0:Fin P)++(ws (0:Fin P)))] [RG.z 8,ws x,ws (0:Fin P)++(ws (0:Fin P))] [2,3,5,6] ⟨RG.ld u85 i85,RG.xE rfl 140 39 (fv x) (.tuple #[pv (0:Fin P) (0:Fin P),.bool false]) rfl (λa w=>kR) RG.sx (zJ C x hr),RG.st,RG.st,RG.st,RG.mk 2 148,RG.pt i109,RG.st,yB5⟩ ?_;intro j7 S Y l;repeat refine TI ?_
   refine l.u [.x 43 [] (.bool false),.x 44 [(43,0)] (.bool false),⟨some 45,[],.v VU,.pass⟩,⟨some 46,[],.v VU,.pass⟩,⟨some 47,[],.v VU,.pass⟩,⟨some 48,[],.v VU,.pass⟩,.x 49 [(44,1),(48,5)] (.bool false)] [(2,.p 0 0),(3,.v (.bool false)),(5,.v (.bool false)),(6,.p 2 0),(49,.v (.bool false))] ⟨RG.st,RG.st,RG.cJ rfl rfl,RG.cJ rfl rfl,RG.cJ rfl rfl,RG.cJ rfl rfl,RG.st,yB5⟩ ?_;intro U w8 u;repeat refine TI ?_
   refine UG u.ev ?_;refine Vg ?_;repeat refine TI ?_
   refine u.T [.x (pv (0:Fin P) (0:Fin P)),.x (.bool false),.u 0,.x (.bool false)] [] [(0,2,ws (0:Fin P)++(ws (0:Fin P)))] [ws (0:Fin P)++(ws (0:Fin P)),ws x,ws (0:Fin P)++(ws (0:Fin P))] [2,3] ⟨RG.ld iM i109,RG.st,RG.pt i109,RG.st,yB5⟩ ?_;intro Z X c;refine UZ ?_;refine TM (v:=(.tuple #[pv (0:Fin P) (0:Fin P),.bool false])) (RG.bQ c.st 2 3 148 rfl 0 _ rfl (c.at (s:=(.p 0 0))) _ (c.at (s:=(.v (.bool false)))) iM i109) c.sl.defers ?_;exact⟨_,rfl,c.st.bel.below,rfl⟩
  | some y =>
   refine D.T [.x (fv x),.c (.tuple #[pv x y,.bool true]),.x (.tuple #[pv x y,.bool true]),.x (pv x y),.x (.bool true),.m 2,.u 2,.x (.bool true)] [(5,RG.z 8)] [(2,6,ws x++(ws y))] [RG.z 8,ws x,ws x++(ws y)] [0,2,3,5,6] ⟨RG.ld u85 i85,RG.xE rfl 140 39 (fv x) (.tuple #[pv x y,.bool true]) rfl (λa w=>kR) RG.sx (zI C x y hr),RG.st,RG.st,RG.st,RG.mk 2 148,RG.pt i109,RG.st,yB5⟩ ?_;intro j7 S Y l;repeat refine TI ?_
   rw[Option.map_some];by_cases K:ub k[0]! = 3
   ·rw[yB3 K];generalize N:0-y=q;have r:Gives 144 #[pv x y] (pv x q):=N ▸ OK C x y;refine l.U [.x (.bool true),.x (.bool true),.x (v33 g o cap),.x (.pointer (some ⟨g,o,none⟩)),.x (.int .u8 3),.x (.bool true),.x (.bool true)] [2,3,5,6,49] ⟨RG.st,RG.st,RG.st,RG.dU rfl 23 45 (iZ 0) rfl (.v (v33 g o cap)) RG.sx (λμ w=>Ei g o 33 cap dC w),RG.bJ rfl g o d Ud 5 46 rfl (.int .u8 3) rfl RG.sx (b.trans (by rw[K])) u5,RG.st,RG.st,yB5⟩ ?_;intro U w8 u;repeat refine TI ?_
    refine UC u.ev ?_;repeat refine TI ?_
    refine u.T [.x (pv x y),.c (pv x q),.u 2] [] [(2,2,ws x++(ws q))] [RG.z 8,ws x,ws x++(ws q)] [2,3,5,6] ⟨RG.ld iM i109,RG.cl r,RG.pt i109,yB5⟩ ?_;intro Z X c;repeat refine TI ?_
    refine c.T [.x (pv x q),.x (.bool true),.u 0,.x (.bool true)] [] [(0,2,ws x++(ws q))] [ws x++(ws q),ws x,ws x++(ws q)] [2,3] ⟨RG.ld iM i109,RG.st,RG.pt i109,RG.st,yB5⟩ ?_;intro h0 h1 j;refine UZ ?_;refine TM (v:=(.tuple #[pv x q,.bool true])) (RG.bQ j.st 2 3 148 rfl 0 _ rfl (j.at (s:=(.p 0 0))) _ (j.at (s:=(.v (.bool true)))) iM i109) j.sl.defers ?_;exact⟨_,rfl,j.st.bel.below,rfl⟩
   ·rw[yB4 K];have R:ub k[0]! = 2:=oM;refine l.U [.x (.bool true),.x (.bool true),.x (v33 g o cap),.x (.pointer (some ⟨g,o,none⟩)),.x (.int .u8 2),.x (.bool false),.x (.bool false)] [2,3,5,6,49] ⟨RG.st,RG.st,RG.st,RG.dU rfl 23 45 (iZ 0) rfl (.v (v33 g o cap)) RG.sx (λμ w=>Ei g o 33 cap dC w),RG.bJ rfl g o d Ud 5 46 rfl (.int .u8 2) rfl RG.sx (b.trans (by rw[R])) u5,RG.st,RG.st,yB5⟩ ?_;intro U w8 u;repeat refine TI ?_
    refine UG u.ev ?_;refine Vg ?_;repeat refine TI ?_
    refine u.T [.x (pv x y),.x (.bool true),.u 0,.x (.bool true)] [] [(0,2,ws x++(ws y))] [ws x++(ws y),ws x,ws x++(ws y)] [2,3] ⟨RG.ld iM i109,RG.st,RG.pt i109,RG.st,yB5⟩ ?_;intro Z X c;refine UZ ?_;refine TM (v:=(.tuple #[pv x y,.bool true])) (RG.bQ c.st 2 3 148 rfl 0 _ rfl (c.at (s:=(.p 0 0))) _ (c.at (s:=(.v (.bool true)))) iM i109) c.sl.defers ?_;exact⟨_,rfl,c.st.bel.below,rfl⟩
def Arg33(w:TA)(v:TC)(k:Bs):Prop:=∃(p:Option V5) (n cap:Nat),v=.slice p n cap/\k.size=n/\(n=33->∃g o,p=some ⟨g,o,none⟩/\33<=cap/\g<w.heap.size/\Holds encB w g o k)
theorem Arg33.below{w k:TA}{v:TC}{c:Bs}(h:Arg33 w v c)(b:Below w.heap.size w k):Arg33 k v c:=by
 obtain⟨p,n,cap,rfl,j,m⟩:=h;refine⟨p,n,cap,rfl,j,λi=>?_⟩;obtain⟨g,o,l,f,d,e⟩:=m i;exact⟨g,o,l,f,TF d b.size,Holds.below e b d⟩
theorem tB(C:Fld P)(v:TC)(b:Bs)(w:TA)(hv:Arg33 w v b):TW prog 117 #[v] w (rZ w λe w'=>e=rdV (rd P b)):=by
 obtain⟨p,n,cap,rfl,c,j⟩:=hv;by_cases k:n=33
 ·subst k;obtain⟨g,o,rfl,d,i,f⟩:=j rfl;exact SK C g o cap b w c d i f
 ·unfold rd;rw[yB4 (by rw[c];exact k)];exact Om C p n cap 0 w k
end
section
open Go.RowKit Go.Sort Go.Deep
variable {P:Nat}[NeZero P]{N:Nat}
def bx(n:Nat):Bs:=be32 (n%18446744073709551616) (n/18446744073709551616%18446744073709551616) (n/340282366920938463463374607431768211456%18446744073709551616) (n/6277101735386680763835789423207666416102355444464034512896%18446744073709551616)
theorem gJ(n:Nat):(bx n).size=32:=by unfold bx;exact oL _ _ _ _
def mark(n:Nat):UInt8:=if n%2=1 then 3 else 2
def yC(x y:Fin P):Bs:=if x=0/\y=0 then TP 33 0 else #[mark y.val]++bx x.val
theorem FW(C:Fld P)(x:Fin P)(w:TA):TW prog 84 #[fv x] w (rZ w λe w'=>∃g,e=.slice (some (aZ g)) 32 32/\w.heap.size<=g/\Holds encB w' g 0 (bx x.val)):=
 (zN _ _ w (C.four x)).mono (by
  rintro e w' ⟨v,rfl,j,g,a,b,c,d,rfl,l,k,i⟩;refine⟨_,rfl,j,g,rfl,l,?_⟩;have f:fv x=.agg #[uZ ((x.val%18446744073709551616:Nat):Int),uZ ((x.val/18446744073709551616%18446744073709551616:Nat):Int),uZ ((x.val/340282366920938463463374607431768211456%18446744073709551616:Nat):Int),uZ ((x.val/6277101735386680763835789423207666416102355444464034512896%18446744073709551616:Nat):Int)]:=rfl;rw[f]at k;simp only[Um.injEq,YV.injEq,Yn.injEq,UV.injEq,true_and,and_true,XY]at k;obtain⟨rfl,rfl,rfl,rfl⟩:=k;exact i)
theorem NJ(C:Fld P)(y:Fin P):Gives 123 #[fv y] (.bool (decide (y.val%2=1))):=λw =>
 (FS _ _ (C.four y) w).mono (by rintro e w' ⟨v,rfl,k,rfl⟩;exact⟨_,rfl,k,rfl⟩)
theorem DD:(prog.info? 5).map (λi=>(i.zero,i.size,i.bytes))=some (some (.int .u8 0),1,1):=kR
theorem Hp:prog.underlying 23=some (.slice 5):=kR
def sV(w:TA)(T:Bs)(e:TC)(w':TA):Prop:=∃g cap,e=.slice (some (aZ g)) 33 cap/\33<=cap/\w.heap.size<=g/\g<w'.heap.size/\Holds encB w' g 0 T
theorem QX(w:TA):(VI 23 (iZ 33) (iZ 33)).run prog w=.ok (.slice (some ⟨w.heap.size,0,none⟩) 33 33) (w.alloc (.cells (madeCells #[.int .u8 0] 33) 5)):=
 run_make_row' (P:=prog) 23 5 (.int .u8 0) 1 Hp DD rfl .i64 .i64 33 dC dC w
theorem O9(w:TA)(o:Obj):Holds encB ((w.alloc o).alloc (.cells (madeCells #[.int .u8 0] 33) 5)) (w.heap.size+1) 0 (TP 33 0):=by
 have h:=Holds.made (enc:=encB) (w.alloc o) 5 33 (0:UInt8);rw[TQ]at h;exact h
omit [NeZero P] in
theorem kY(x y:Fin P):pv x y=.agg #[uZ ((x.val%18446744073709551616:Nat):Int),uZ ((x.val/18446744073709551616%18446744073709551616:Nat):Int),uZ ((x.val/340282366920938463463374607431768211456%18446744073709551616:Nat):Int),uZ ((x.val/6277101735386680763835789423207666416102355444464034512896%18446744073709551616:Nat):Int),uZ ((y.val%18446744073709551616:Nat):Int),uZ ((y.val/18446744073709551616%18446744073709551616:Nat):Int),uZ ((y.val/340282366920938463463374607431768211456%18446744073709551616:Nat):Int),uZ ((y.val/6277101735386680763835789423207666416102355444464034512896%18446744073709551616:Nat):Int)]:=rfl
theorem Eb(C:Fld P)(x y:Fin P)(g:x=0/\y=0)(w:TA):TW prog 88 #[pv x y] w (rZ w λe w'=>sV w (TP 33 0) e w'):=by
 have k:=Jq C (x:=x) (y:=y) (z:=0) (t:=0) g;rw[<-iE,kY]at k;rw[kY];generalize ((x.val%18446744073709551616:Nat):Int)=a at k⊢;generalize ((x.val/18446744073709551616%18446744073709551616:Nat):Int)=b at k⊢;generalize ((x.val/340282366920938463463374607431768211456%18446744073709551616:Nat):Int)=c at k⊢;generalize ((x.val/6277101735386680763835789423207666416102355444464034512896%18446744073709551616:Nat):Int)=d at k⊢;generalize ((y.val%18446744073709551616:Nat):Int)=p at k⊢;generalize ((y.val/18446744073709551616%18446744073709551616:Nat):Int)=q at k⊢;generalize ((y.val/340282366920938463463374607431768211456%18446744073709551616:Nat):Int)=r at k⊢;generalize ((y.val/6277101735386680763835789423207666416102355444464034512896%18446744073709551616:Nat):Int)=s at k⊢;have i:=QX;generalize j:(TP 33 0:Bs)=T;go_enter func88,ntmps88;go_wp2;go_ret;have f:=O9 w (.cells #[uZ a,uZ b,uZ c,uZ d,uZ p,uZ q,uZ r,uZ s] 148);rw[j]at f;exact⟨_,rfl,below2 _ _ _,_,33,rfl,oM,oM,by simp,f⟩
theorem Jf(w:TA)(k g m:Nat)(B:Bs)(f:B.size=32)(n:w.cell? ⟨k,0,none⟩=some (.int .u8 m))(o:Holds encB w g 0 B)(s:m<256:=by decide):
 ∃(w':TA) (cap:Nat),(Ur #[23,23] 23 #[.slice (some (aZ k)) 1 1,.slice (some (aZ g)) 32 32]).run prog w=.ok (.slice (some ⟨w.heap.size,0,none⟩) 33 cap) w'/\Below w.heap.size w w'/\33<=cap/\w.heap.size<w'.heap.size/\Holds encB w' w.heap.size 0 (#[TV m]++B):=by
 obtain⟨i,q,d⟩:=TJ.1 DD;simp only[Vz.injEq]at d;obtain⟨r,l,p⟩:=d;have e:=run_append_grow (P:=prog) w 23 23 5 i (.int .u8 0) Hp q r (aZ k) 1 1 [.int .u8 m] (by rw[l];rfl) (λj v b=>by
  cases j with
  | zero =>
   obtain rfl:UV .u8 m=v:=by simpa using b
   rw[yBz];exact n
  | succ j=>simp at b) ⟨g,0,none⟩ 32 32 (B.toList.map encB) (by rw[l,Uk,TR,f]) (λj v b=>by
  have c:j<B.size:=by
   have:=(T9.1 b).1;rwa[Uk,TR]at this
  rw[yBz,(o j c).1];rw[UX,UF,Uj c]at b;rw[getElem!_pos B j c];exact b) dC dC (by rw[p];decide)
 refine⟨_,_,e,?_,?_,?_,?_⟩
 ·exact(Below.refl _ w).drew.trans (aD w.drew _)
 ·exact grownCap_ge w (1+32) 1 5
 ·show w.drew.heap.size<(w.drew.alloc _).heap.size;rw[TQ];exact Xs _
 ·intro j b;have c:(#[TV m]++B).size=33:=by rw[UA,f];rfl
  refine⟨?_,World.frozen?_alloc_new w.drew _ _ _⟩;show(w.drew.alloc _).cell? ⟨w.drew.heap.size,0+j,none⟩=_;rw[TO,Us,getElem!_pos _ j b,Yf (by
   rw[UA,UH,UH,Uk,TR];show j<1+B.size;omega)]
  cases j with
  | zero =>
   rw[Yf (by simp),Array.getElem_append_left (by simp)];show some (UV .u8 m)=some (encB (TV m));unfold encB;rw[qC,Uf s]
  | succ i =>
   rw[Array.getElem?_append_right (by simp),Array.getElem_append_right (by simp),XJ,UX,UF];show Option.map encB B[i]? = some (encB B[i]);rw[Uj oM];rfl
theorem Ns(w:TA)(a b c d p q r s:Nat):Kept w w.heap.size [⟨w.heap.size,0,a,b,c,d⟩,⟨w.heap.size,4,p,q,r,s⟩] (w.alloc (.cells #[uZ a,uZ b,uZ c,uZ d,uZ p,uZ q,uZ r,uZ s] 148)):=by
 have F:=At8.made w 148 a b c d p q r s rfl;refine((Kept.mk1 (aD w _) (aD w _).size).cons ?_).cons ?_
 ·exact⟨F.c4,F.c5,F.c6,F.c7,F.fz⟩
 ·exact⟨F.c0,F.c1,F.c2,F.c3,F.fz⟩
theorem G1(C:Fld P)(x y:Fin P)(N:¬(x=0/\y=0))(ho:y.val%2=1)(w:TA):TW prog 88 #[pv x y] w (rZ w λe w'=>sV w (#[3]++bx x.val) e w'):=by
 have f:=DW C (x:=x) (y:=y) (z:=0) (t:=0) N;rw[<-iE,kY]at f;rw[kY];have i:∀w,TW prog 123 #[.agg #[uZ ((y.val%18446744073709551616:Nat):Int),uZ ((y.val/18446744073709551616%18446744073709551616:Nat):Int),uZ ((y.val/340282366920938463463374607431768211456%18446744073709551616:Nat):Int),uZ ((y.val/6277101735386680763835789423207666416102355444464034512896%18446744073709551616:Nat):Int)]] w (rZ w λe w'=>e=.bool true):=λw=>by
  have h:=NJ C y w;rw[decide_eq_true ho]at h;exact h
 have k:∀w,TW prog 84 #[.agg #[uZ ((x.val%18446744073709551616:Nat):Int),uZ ((x.val/18446744073709551616%18446744073709551616:Nat):Int),uZ ((x.val/340282366920938463463374607431768211456%18446744073709551616:Nat):Int),uZ ((x.val/6277101735386680763835789423207666416102355444464034512896%18446744073709551616:Nat):Int)]] w (rZ w λe w'=>∃g,e=.slice (some (aZ g)) 32 32/\w.heap.size<=g/\Holds encB w' g 0 (bx x.val)):=FW C x;have n:=gJ x.val;generalize bx x.val=B at k n⊢;generalize x.val%18446744073709551616=a at f i k⊢;generalize x.val/18446744073709551616%18446744073709551616=b at f i k⊢;generalize x.val/340282366920938463463374607431768211456%18446744073709551616=c at f i k⊢;generalize x.val/6277101735386680763835789423207666416102355444464034512896%18446744073709551616=d at f i k⊢;generalize y.val%18446744073709551616=p at f i k⊢;generalize y.val/18446744073709551616%18446744073709551616=q at f i k⊢;generalize y.val/340282366920938463463374607431768211456%18446744073709551616=r at f i k⊢;generalize y.val/6277101735386680763835789423207666416102355444464034512896%18446744073709551616=s at f i k⊢;have W:=mk1 (f);go_enter func88,ntmps88;go_wp2_with fail
 have l:=Ns w a b c d p q r s;generalize J:w.heap.size=U at l⊢;refine(i _).mono ?_;rintro e u ⟨v,rfl,G,rfl⟩;replace l:=l.call G;obtain⟨S,O,Q,L,T⟩:=l.head;have zx:=l.head.lt;go_wp2_with fail
 refine(k _).mono ?_;rintro e I ⟨v,rfl,j,g,rfl,X,M⟩;have K:I.cell? ⟨u.heap.size,0,none⟩=some (.int .u8 3):=by
  rw[j.cell (p:=⟨u.heap.size,0,none⟩) (by show u.heap.size<_;rw[TQ];omega),Us];rfl
 have o:=TU l.le (TU (by rw[TQ];omega) j.size);have D:=mk1 (((l.alloc _).call j).bl);obtain⟨V,R,A,H,F,m,E⟩:=Jf I u.heap.size g 3 B n K M;go_wp2_with (at_builtin;refine Vi _ rfl _ _ 23 23 rfl _ _ rfl rfl _ _ A ?_)
 go_ret;refine⟨_,rfl,?_,_,R,rfl,F,?_,m,E⟩
 ·rw[J];exact D.trans (H.mono o)
 ·rw[J];exact o
theorem Ec(C:Fld P)(x y:Fin P)(N:¬(x=0/\y=0))(ho:¬y.val%2=1)(w:TA):TW prog 88 #[pv x y] w (rZ w λe w'=>sV w (#[2]++bx x.val) e w'):=by
 have f:=DW C (x:=x) (y:=y) (z:=0) (t:=0) N;rw[<-iE,kY]at f;rw[kY];have i:∀w,TW prog 123 #[.agg #[uZ ((y.val%18446744073709551616:Nat):Int),uZ ((y.val/18446744073709551616%18446744073709551616:Nat):Int),uZ ((y.val/340282366920938463463374607431768211456%18446744073709551616:Nat):Int),uZ ((y.val/6277101735386680763835789423207666416102355444464034512896%18446744073709551616:Nat):Int)]] w (rZ w λe w'=>e=.bool false):=λw=>by
  have h:=NJ C y w;rw[decide_eq_false ho]at h;exact h
 have k:∀w,TW prog 84 #[.agg #[uZ ((x.val%18446744073709551616:Nat):Int),uZ ((x.val/18446744073709551616%18446744073709551616:Nat):Int),uZ ((x.val/340282366920938463463374607431768211456%18446744073709551616:Nat):Int),uZ ((x.val/6277101735386680763835789423207666416102355444464034512896%18446744073709551616:Nat):Int)]] w (rZ w λe w'=>∃g,e=.slice (some (aZ g)) 32 32/\w.heap.size<=g/\Holds encB w' g 0 (bx x.val)):=FW C x;have n:=gJ x.val;generalize bx x.val=B at k n⊢;generalize x.val%18446744073709551616=a at f i k⊢;generalize x.val/18446744073709551616%18446744073709551616=b at f i k⊢;generalize x.val/340282366920938463463374607431768211456%18446744073709551616=c at f i k⊢;generalize x.val/6277101735386680763835789423207666416102355444464034512896%18446744073709551616=d at f i k⊢;generalize y.val%18446744073709551616=p at f i k⊢;generalize y.val/18446744073709551616%18446744073709551616=q at f i k⊢;generalize y.val/340282366920938463463374607431768211456%18446744073709551616=r at f i k⊢;generalize y.val/6277101735386680763835789423207666416102355444464034512896%18446744073709551616=s at f i k⊢;have W:=mk1 (f);go_enter func88,ntmps88;go_wp2_with fail
 have l:=Ns w a b c d p q r s;generalize J:w.heap.size=U at l⊢;refine(i _).mono ?_;rintro e u ⟨v,rfl,G,rfl⟩;replace l:=l.call G;obtain⟨S,O,Q,L,T⟩:=l.head;have zx:=l.head.lt;go_wp2_with fail
 refine(k _).mono ?_;rintro e I ⟨v,rfl,j,g,rfl,X,M⟩;have K:I.cell? ⟨u.heap.size,0,none⟩=some (.int .u8 2):=by
  rw[j.cell (p:=⟨u.heap.size,0,none⟩) (by show u.heap.size<_;rw[TQ];omega),Us];rfl
 have o:=TU l.le (TU (by rw[TQ];omega) j.size);have D:=mk1 (((l.alloc _).call j).bl);obtain⟨V,R,A,H,F,m,E⟩:=Jf I u.heap.size g 2 B n K M;go_wp2_with (at_builtin;refine Vi _ rfl _ _ 23 23 rfl _ _ rfl rfl _ _ A ?_)
 go_ret;refine⟨_,rfl,?_,_,R,rfl,F,?_,m,E⟩
 ·rw[J];exact D.trans (H.mono o)
 ·rw[J];exact o
theorem Fx(C:Fld P)(x y:Fin P)(w:TA):TW prog 88 #[pv x y] w (rZ w λe w'=>sV w (yC x y) e w'):=by
 unfold yC mark;by_cases k:x=0/\y=0
 ·rw[yB3 k];exact Eb C x y k w
 ·rw[yB4 k];by_cases ho:y.val%2=1
  ·rw[yB3 ho];exact G1 C x y k ho w
  ·rw[yB4 ho];exact Ec C x y k ho w
theorem u23:(prog.underlying 23).map (·.isRow)=some false:=kR
theorem MR(k o n c i:Nat)(b:i<n)(w:TA):(UP 24 (.slice (some ⟨k,o,none⟩) n c) (iZ i)).run prog w=.ok (.pointer (some ⟨k,o+i,none⟩)) w:=by
 go_simp
theorem QZ(N:Nat)(c:N<=512):∃C0:List TC,C0.length=8*N/\∀w:TA,(VI 144 (iZ N) (iZ N)).run prog w=.ok (.slice (some ⟨w.heap.size,0,none⟩) N N) (w.alloc (.cells C0.toArray 148)):=by
 have f:prog.underlying 144=some (.slice 148):=kR;have l:(prog.info? 148).map (λi=>(i.size,decide (i.bytes<=4000),i.zero.isSome))=some (8,true,true):=kR;obtain⟨i,b,k⟩:=TJ.1 l;simp only[Vz.injEq,decide_eq_true_eq]at k;obtain⟨j,d,e⟩:=k;obtain⟨z,n⟩:=UT.1 e;refine⟨(madeCells z.cells (N*8)).toList,by rw[TR,ZK,Ut],λw=>?_⟩;have g:(i.bytes:Int)*(N:Int)<=281474976710656:=by
  have:i.bytes*N<=4000*512:=VR d c;have m:((i.bytes*N:Nat):Int)<=281474976710656:=oM;rwa[V0]at m
 have:=run_make (P:=prog) w 144 148 i z f b n .i64 .i64 (N:Int) (N:Int) oM oM g oM;rw[YB,j]at this;rw[XT];exact this
theorem S3(N:Nat)(c:N<=512):∃C0:List TC,C0.length=4*N/\∀w:TA,(VI 141 (iZ N) (iZ N)).run prog w=.ok (.slice (some ⟨w.heap.size,0,none⟩) N N) (w.alloc (.cells C0.toArray 44)):=by
 have f:prog.underlying 141=some (.slice 44):=kR;have l:(prog.info? 44).map (λi=>(i.size,decide (i.bytes<=4000),i.zero.isSome))=some (4,true,true):=kR;obtain⟨i,b,k⟩:=TJ.1 l;simp only[Vz.injEq,decide_eq_true_eq]at k;obtain⟨j,d,e⟩:=k;obtain⟨z,n⟩:=UT.1 e;refine⟨(madeCells z.cells (N*4)).toList,by rw[TR,ZK,Ut],λw=>?_⟩;have g:(i.bytes:Int)*(N:Int)<=281474976710656:=by
  have:i.bytes*N<=4000*512:=VR d c;have m:((i.bytes*N:Nat):Int)<=281474976710656:=oM;rwa[V0]at m
 have:=run_make (P:=prog) w 141 44 i z f b n .i64 .i64 (N:Int) (N:Int) oM oM g oM;rw[YB,j]at this;rw[XT];exact this
structure Rows(sz N:Nat)(cell:Nat->List TC)(m:Nat)(C:List TC):Prop where
 len:C.length=sz*N
 row:∀j r,j<m->r<sz->C[sz*j+r]? = (cell j)[r]?
theorem Rows.next{k N m:Nat}{cell:Nat->List TC}{C:List TC}(h:Rows k N cell m C)(g:m<N)(c:(cell m).length=k):Rows k N cell (m+1) (RG.rep C (0+k*m) (cell m)):=by
 have b:=h.len;have n:k*m+k<=k*N:=by rw[<-XV];exact WJ _ g
 have e:0+k*m+(cell m).length<=C.length:=by rw[c];omega
 refine⟨by rw[RG.dH e];exact b,λj r i f=>?_⟩;rw[RG.rep_at e];by_cases d:j=m
 ·subst d;rw[yB3 (by rw[c];omega),show k*j+r-(0+k*j)=r by omega]
 ·have l:k*j+k<=k*m:=by rw[<-XV];exact WJ _ oM
  rw[yB4 (by rw[c];omega)];exact h.row j r oM f
def rq(N:Nat)(k:Bs):Option Nat:=if k.size=32/\beV k.toList<N then some (beV k.toList) else none
def rqV:Option Nat->TC
 | none=>.tuple #[nv 0,.bool false]
 | some n=>.tuple #[nv n,.bool true]
theorem iD:Gives 30 #[] gv1:=λw=>(Cq w).mono (by rintro e w' ⟨rfl,rfl⟩;exact⟨_,rfl,aD _ _,rfl⟩)
theorem Ad{N:Nat}(l:Gap 4624529908474429119 4994812053365940164 1 N)(v:TC)(d:Bs)(w:TA)(hv:Arg w v d):TW prog 31 #[gv1,v] w (rZ w λe w'=>e=rqV (rq N d)):=by
 obtain⟨p,n,cap,rfl,c,r⟩:=hv;unfold rq;by_cases b:n=32
 ·subst b;obtain⟨g,o,rfl,j,q,i⟩:=r rfl;refine(xQ _ _ _ N g o cap d l w c j q i).mono ?_;rintro e w' ⟨v,rfl,k,⟨f,s,rfl,m⟩|⟨f,rfl⟩⟩
  ·rw[yB3 ⟨c,f⟩];exact⟨_,rfl,k,by rw[m.nv];rfl⟩
  ·rw[yB4 (λh=>oM)];exact⟨_,rfl,k,rfl⟩
 ·refine(Ke _ p n cap w _ _ _ rfl b).mono ?_;rintro e w' ⟨v,rfl,k,rfl⟩;rw[yB4 (λh=>b (c.symm.trans h.1))];exact⟨_,rfl,k,rfl⟩
end
section
open Go.RowKit Go.Sort
variable {P:Nat}[NeZero P]{N:Nat}
structure RefP(p0 p1 p2 p3 c0 c1 c2 c3 P:Nat):Prop where
 hp0:p0<18446744073709551616
 hp1:p1<18446744073709551616
 hp2:p2<18446744073709551616
 hp3:p3<18446744073709551616
 hc0:c0<18446744073709551616
 hc1:c1<18446744073709551616
 hc2:c2<18446744073709551616
 hc3:c3<18446744073709551616
 eP:P=val p0 p1 p2 p3
 hP:P+val c0 c1 c2 c3=top
 hP2:top<2*P
theorem QE:RefP 18446744069414583343 18446744073709551615 18446744073709551615 18446744073709551615 4294968273 0 0 0 Go.Proofs.YtjnchldodncnbaaGreat.p0:=
 ⟨dC,dC,dC,dC,dC,dC,dC,dC,dK,dK,dK⟩
theorem QD:RefP 13822214165235122497 13451932020343611451 18446744073709551614 18446744073709551615 4624529908474429119 4994812053365940164 1 0 Go.Proofs.YtjnchldodncnbaaGreat.p1:=
 ⟨dC,dC,dC,dC,dC,dC,dC,dC,dK,dK,dK⟩
theorem nW(x y:TC)(m n:Nat)(G:Four x m)(L:Four y n)(w:TA):
 TW prog 105 #[x,y] w (rZ w λe w'=>∃(v:TC) (s k:Nat),e=.tuple #[v,uZ k]/\Four v s/\k<=1/\s+n=m+top*k):=by
 obtain⟨a,b,c,d,rfl,I,C,A,hd,M⟩:=G;obtain⟨p,q,r,s,rfl,H,E,hr,F,K⟩:=L;obtain⟨s0,D,a0,g,o,O⟩:=zW a p I H;obtain⟨s1,B,Q,f,i,N⟩:=kT b q D C E o;obtain⟨s2,J,P,t,j,S⟩:=kT c r B A hr i;obtain⟨s3,z,R,l,u,e3⟩:=kT d s J hd F j;have hv:val s0 s1 s2 s3+n=m+top*z:=by rw[M,K];unfold val top;omega
 go_enter func105,ntmps105;go_wp2;refine VX 5 ?_;rw[Ul];go_wp2;go_region
 go_wp2;rw[Ul];go_wp2;go_region
 go_wp2;rw[Ul];go_wp2;go_region
 go_wp2;rw[Ul];go_wp2;go_region
 go_wp2;rw[Ul];go_wp2
 refine TM (v:=?v) ?hr rfl ?hR
 case hr=>simp[results,Tryz.results105,go_sem];rfl
 exact⟨_,rfl,(hZ _ _ _ _ _).drew.drew.drew.drew,_,_,z,rfl,Four.mk g f t l rfl,u,hv⟩
def mG(v:TC)(n:Nat):Prop:=∃a b c d e k g f:Nat,v=.agg #[uZ a,uZ b,uZ c,uZ d,uZ e,uZ k,uZ g,uZ f] /\
 a<18446744073709551616/\b<18446744073709551616/\c<18446744073709551616/\d<18446744073709551616/\e<18446744073709551616/\k<18446744073709551616/\g<18446744073709551616/\f<18446744073709551616 /\
 n=val a b c d+top*val e k g f
theorem Ek{m n a b c d s u k l:Nat}(q:m=a+top*b)(o:n=c+top*d)(p:s+top*k=a+c)(i:u+top*l=b+d+k)(e:m+n<top*top):m+n=s+top*u:=by
 have j:top*u+top*top*l=top*b+top*d+top*k:=by rw[VV,<-WL,i,WL,WL]
 have g:m+n=s+top*u+top*top*l:=oM;have f:l=0:=by
  rcases yAB l with h|h
  ·exact h
  ·have:=Nat.le_mul_of_pos_right (top*top) h;omega
 rw[g,f,XZ,VK]
theorem rS(x y:TC)(m n:Nat)(hx:mG x m)(hy:mG y n)(k:m+n<top*top)(w:TA):
 TW prog 104 #[x,y] w (rZ w λe w'=>mG e (m+n)):=by
 obtain⟨a,b,c,d,V,S,cc,U,rfl,ha,Z,hc,hd,g,z,P,f,o⟩:=hx;obtain⟨p,q,r,s,T,R,W,X,rfl,hp,hq,hr,hs,C,K,u,Q,l⟩:=hy;obtain⟨s0,k0,a0,M,j,e0⟩:=sT a p ha hp;obtain⟨s1,k1,a1,L,N,e1⟩:=nP b q k0 Z hq j;obtain⟨s2,k2,a2,A,O,e2⟩:=nP c r k1 hc hr N;obtain⟨s3,B,a3,i,I,e3⟩:=nP d s k2 hd hs O;obtain⟨s4,k4,a4,J,E,e4⟩:=nP V T B g C I;obtain⟨s5,k5,a5,G,H,e5⟩:=nP S R k4 z K E;obtain⟨s6,k6,a6,D,t,Y⟩:=nP cc W k5 P u H;obtain⟨s7,k7,a7,F,h0,e7⟩:=nP U X k6 f Q t;have v1:val s0 s1 s2 s3+top*B=val a b c d+val p q r s:=by clear o l k e4 e5 Y e7;unfold val top;omega
 have v2:val s4 s5 s6 s7+top*k7=val V S cc U+val T R W X+B:=by clear o l k e0 e1 e2 e3;unfold val top;omega
 have hv:=Ek o l v1 v2 k;go_enter func104,ntmps104;go_wp2;refine VX 9 ?_;rw[Ul];go_wp2;go_region
 go_wp2;rw[Ul];go_wp2;go_region
 go_wp2;rw[Ul];go_wp2;go_region
 go_wp2;rw[Ul];go_wp2;go_region
 go_wp2;rw[Ul];go_wp2;go_region
 go_wp2;rw[Ul];go_wp2;go_region
 go_wp2;rw[Ul];go_wp2;go_region
 go_wp2;rw[Ul];go_wp2;go_region
 go_wp2;rw[Ul];go_wp2
 refine TM (v:=?v) ?hr rfl ?hR
 case hr=>simp[results,Tryz.results104,go_sem];rfl
 exact⟨_,rfl,(below3 _ _ _ _).drew.drew.drew.drew.drew.drew.drew.drew,s0,s1,s2,s3,s4,s5,s6,s7,rfl,M,L,A,i,J,G,D,F,hv⟩
theorem GN{a b c d n o i g l s0 s1 s2 s3 t0 t1 t2 f u0 u1 u2 u3 j m k e:Nat}
 (q:o+18446744073709551616*val i g l j=a*n+val 0 0 0 0)
 (p:s0+18446744073709551616*val s1 s2 s3 m=b*n+val i g l j)
 (r:t0+18446744073709551616*val t1 t2 f k=c*n+val s1 s2 s3 m)
 (e3:u0+18446744073709551616*val u1 u2 u3 e=d*n+val t1 t2 f k) :
 val a b c d*n=val o s0 t0 u0+top*val u1 u2 u3 e:=by
 have p:val a b c d*n=val (a*n) (b*n) (c*n) (d*n):=by
  rw[Ut,Ah,Ut n a,Ut n b,Ut n c,Ut n d]
 rw[p];unfold val at *;unfold top;omega
theorem lP(x y:TC)(m n:Nat)(hx:Four x m)(hy:Four y n)(w:TA):
 TW prog 101 #[x,y] w (Ret λe w'=>Below w.heap.size w w'/\mG e (m*n)):=by
 obtain⟨a,b,c,d,rfl,ha,hb,hc,hd,em⟩:=hx;obtain⟨p,q,r,s,rfl,hp,hq,hr,hs,en⟩:=hy;go_enter func101,ntmps101;go_wp2;refine VX 5 ?_;have X:=(((At4.made w 68 a b c d rfl).alloc (.cells #[.int .u64 p,.int .u64 q,.int .u64 r,.int .u64 s] 68)).alloc (.cells #[.int .u64 0,.int .u64 0,.int .u64 0,.int .u64 0,.int .u64 0,.int .u64 0,.int .u64 0,.int .u64 0] 167)).alloc (.cells #[.int .u64 0,.int .u64 0,.int .u64 0,.int .u64 0,.int .u64 0,.int .u64 0,.int .u64 0,.int .u64 0] 167);have Y:=((At4.made (w.alloc (.cells #[.int .u64 a,.int .u64 b,.int .u64 c,.int .u64 d] 68)) 68 p q r s (TQ _ _)).alloc (.cells #[.int .u64 0,.int .u64 0,.int .u64 0,.int .u64 0,.int .u64 0,.int .u64 0,.int .u64 0,.int .u64 0] 167)).alloc (.cells #[.int .u64 0,.int .u64 0,.int .u64 0,.int .u64 0,.int .u64 0,.int .u64 0,.int .u64 0,.int .u64 0] 167);have R:=(At8.made ((w.alloc (.cells #[.int .u64 a,.int .u64 b,.int .u64 c,.int .u64 d] 68)).alloc (.cells #[.int .u64 p,.int .u64 q,.int .u64 r,.int .u64 s] 68)) 167 0 0 0 0 0 0 0 0 (k:=w.heap.size+1+1) (by simp)).alloc (.cells #[.int .u64 0,.int .u64 0,.int .u64 0,.int .u64 0,.int .u64 0,.int .u64 0,.int .u64 0,.int .u64 0] 167);have O:=At8.made (((w.alloc (.cells #[.int .u64 a,.int .u64 b,.int .u64 c,.int .u64 d] 68)).alloc (.cells #[.int .u64 p,.int .u64 q,.int .u64 r,.int .u64 s] 68)).alloc (.cells #[.int .u64 0,.int .u64 0,.int .u64 0,.int .u64 0,.int .u64 0,.int .u64 0,.int .u64 0,.int .u64 0] 167)) 167 0 0 0 0 0 0 0 0 (k:=w.heap.size+1+1+1) (by simp);have BL:Hid (Below w.heap.size w _):=hZ w (.cells #[.int .u64 a,.int .u64 b,.int .u64 c,.int .u64 d] 68) (.cells #[.int .u64 p,.int .u64 q,.int .u64 r,.int .u64 s] 68) (.cells #[.int .u64 0,.int .u64 0,.int .u64 0,.int .u64 0,.int .u64 0,.int .u64 0,.int .u64 0,.int .u64 0] 167) (.cells #[.int .u64 0,.int .u64 0,.int .u64 0,.int .u64 0,.int .u64 0,.int .u64 0,.int .u64 0,.int .u64 0] 167);simp only[Ux]at R O;generalize U2 _ _=W0 at X Y R O BL⊢;generalize h3:w.heap.size+1+1+1=l at O⊢;generalize h2:w.heap.size+1+1=k2 at R⊢;generalize h1:w.heap.size+1=k1 at Y⊢;have u:Hid (w.heap.size<=l):=by unfold Hid;omega
 have Q2:Hid (w.heap.size<=k2):=by unfold Hid;omega
 generalize h0:w.heap.size=k0 at X BL Q2 u⊢;have i:k0≠l:=oM;have g:k1≠l:=oM;have f:k2≠l:=oM;have H0:Hid (w.heap.size=k0):=h0;clear h0 h1 h2 h3;obtain⟨k5,hz,k8,k9,xf⟩:=id X;obtain⟨ka,k7,k4,k6,yf⟩:=id Y;obtain⟨H,K,B,J,I,z,t,j,of⟩:=id O;simp only[Ux]at H K B J I z t j;rw[Ul];go_wp2
 refine VX 5 ?_;obtain⟨ip,ih,s00,g6,T,f8,gt,dm,bi,kn,kk,e7,eg,bp,d0,bd⟩:=dQ a p 0 0 ha hp dC dC;simp only[Ux]at kn;simp only[Ux]at kk;rw[Ul];go_wp2
 go_quiet ((go_at_call 134;exact UQ (bi _)));revert nq;intro V
 go_wp2_with (first|simp only[kn]|simp only[kk])
 obtain⟨fs,gv,s01,ia,F,ij,ib,eb,cn,bo,kc,et,e5,kr,d7,bu⟩:=dQ a q 0 dm ha hq dC d0;simp only[Ux]at kc;rw[Ul];go_wp2
 go_quiet ((go_at_call 134;exact UQ (cn _)));revert nq;intro P
 go_wp2_with (first|simp only[bo]|simp only[kc])
 obtain⟨f9,fg,s02,g7,A,gw,g3,ex,c4,c7,km,dw,e6,dh,bg,da⟩:=dQ a r 0 eb ha hr dC d7;simp only[Ux]at km;rw[Ul];go_wp2
 go_quiet ((go_at_call 134;exact UQ (c4 _)));revert nq;intro hn
 go_wp2_with (first|simp only[c7]|simp only[km])
 obtain⟨fy,gq,s03,i1,M,f7,gj,hi,c5,bl,kd,ea,du,ck,bm,b6⟩:=dQ a s 0 ex ha hs dC bg;simp only[Ux]at kd;rw[Ul];go_wp2
 go_quiet ((go_at_call 134;exact UQ (c5 _)));revert nq;intro hm
 go_wp2_with (first|simp only[bl]|simp only[kd])
 rw[Ul];go_wp2
 have R0:=qI (n:=val 0 0 0 0) (p:=0) (q:=0) (r:=0) (s:=0) (x:=a) (l0:=T) (l1:=F) (l2:=A) (l3:=M) en rfl bd bu da b6;have e2:Hid _:=R0;clear R0;clear bd bu da b6 bi kn kk e7 eg cn bo kc et e5 c4 c7 km dw e6 c5 bl kd ea du;clear k5 hz k8 k9 xf ka k7 k4 k6 yf H K B J I z t j of;have X0:=(((((((((X).drewN V).other (o:=0) i.symm (.int .u64 T)).drewN P).other (o:=1) i.symm (.int .u64 F)).drewN hn).other (o:=2) i.symm (.int .u64 A)).drewN hm).other (o:=3) i.symm (.int .u64 M)).other (o:=4) i.symm (.int .u64 hi);have Y0:=(((((((((Y).drewN V).other (o:=0) g.symm (.int .u64 T)).drewN P).other (o:=1) g.symm (.int .u64 F)).drewN hn).other (o:=2) g.symm (.int .u64 A)).drewN hm).other (o:=3) g.symm (.int .u64 M)).other (o:=4) g.symm (.int .u64 hi);have kj:=(((((((((R).drewN V).other (o:=0) f.symm (.int .u64 T)).drewN P).other (o:=1) f.symm (.int .u64 F)).drewN hn).other (o:=2) f.symm (.int .u64 A)).drewN hm).other (o:=3) f.symm (.int .u64 M)).other (o:=4) f.symm (.int .u64 hi);have O0:=(((((((((O).drewN V).set0 T).drewN P).set1 F).drewN hn).set2 A).drewN hm).set3 M).set4 hi;have kp:Hid (Below k0 w _):=((aS ((aS ((aS ((aS BL.out V).setCell (p:=⟨l,0,none⟩) u.out (.int .u64 T)) P).setCell (p:=⟨l,1,none⟩) u.out (.int .u64 F)) hn).setCell (p:=⟨l,2,none⟩) u.out (.int .u64 A)) hm).setCell (p:=⟨l,3,none⟩) u.out (.int .u64 M)).setCell (p:=⟨l,4,none⟩) u.out (.int .u64 hi);generalize Wb _ _ _=W1 at X0 Y0 kj O0 kp⊢;clear X Y R O BL;have X:=X0;have Y:=Y0;have R:=kj;have O:=O0;have BL:=kp;clear X0 Y0 kj O0 kp;obtain⟨k5,hz,k8,k9,xf⟩:=id X;obtain⟨ka,k7,k4,k6,yf⟩:=id Y;obtain⟨H,K,B,J,I,z,t,j,of⟩:=id O;simp only[Ux]at z t j;rw[Ul];go_wp2
 refine VX 5 ?_;obtain⟨gz,gu,s10,fm,h7,gs,gb,ep,de,kg,bq,dy,dz,bs,d3,c2⟩:=dQ b p F 0 hb hp kr dC;simp only[Ux]at kg;rw[Ul];go_wp2
 go_quiet ((go_at_call 134;exact UQ (de _)));revert nq;intro h8
 go_wp2_with (first|simp only[kg]|simp only[bq])
 obtain⟨iq,fz,s11,iw,G,fq,fk,dp,d2,kx,cf,e9,eu,bv,c0,cy⟩:=dQ b q A ep hb hq dh d3;rw[Ul];go_wp2
 go_quiet ((go_at_call 134;exact UQ (d2 _)));revert nq;intro h5
 go_wp2_with (first|simp only[kx]|simp only[cf])
 obtain⟨fd,fa,s12,gh,N,i0,ic,ez,co,cj,b8,eo,z12,ba,cp,bb⟩:=dQ b r M dp hb hr ck c0;rw[Ul];go_wp2
 go_quiet ((go_at_call 134;exact UQ (co _)));revert nq;intro hu
 go_wp2_with (first|simp only[cj]|simp only[b8])
 obtain⟨fb,i2,s13,fn,E,i3,g1,hg,c6,cz,cv,ew,ed,bw,be,c8⟩:=dQ b s hi ez hb hs bm cp;rw[Ul];go_wp2
 go_quiet ((go_at_call 134;exact UQ (c6 _)));revert nq;intro he
 go_wp2_with (first|simp only[cz]|simp only[cv])
 rw[Ul];go_wp2
 have R1:=qI (n:=val F A M hi) (p:=F) (q:=A) (r:=M) (s:=hi) (x:=b) (l0:=h7) (l1:=G) (l2:=N) (l3:=E) en rfl c2 cy bb c8;have e1:Hid _:=R1;clear R1;clear c2 cy bb c8 de kg bq dy dz d2 kx cf e9 eu co cj b8 eo z12 c6 cz cv ew ed;clear k5 hz k8 k9 xf ka k7 k4 k6 yf H K B J I z t j of;have X1:=(((((((((X).drewN h8).other (o:=1) i.symm (.int .u64 h7)).drewN h5).other (o:=2) i.symm (.int .u64 G)).drewN hu).other (o:=3) i.symm (.int .u64 N)).drewN he).other (o:=4) i.symm (.int .u64 E)).other (o:=5) i.symm (.int .u64 hg);have Y1:=(((((((((Y).drewN h8).other (o:=1) g.symm (.int .u64 h7)).drewN h5).other (o:=2) g.symm (.int .u64 G)).drewN hu).other (o:=3) g.symm (.int .u64 N)).drewN he).other (o:=4) g.symm (.int .u64 E)).other (o:=5) g.symm (.int .u64 hg);have kh:=(((((((((R).drewN h8).other (o:=1) f.symm (.int .u64 h7)).drewN h5).other (o:=2) f.symm (.int .u64 G)).drewN hu).other (o:=3) f.symm (.int .u64 N)).drewN he).other (o:=4) f.symm (.int .u64 E)).other (o:=5) f.symm (.int .u64 hg);have O1:=(((((((((O).drewN h8).set1 h7).drewN h5).set2 G).drewN hu).set3 N).drewN he).set4 E).set5 hg;have kq:Hid (Below k0 w _):=((aS ((aS ((aS ((aS BL.out h8).setCell (p:=⟨l,1,none⟩) u.out (.int .u64 h7)) h5).setCell (p:=⟨l,2,none⟩) u.out (.int .u64 G)) hu).setCell (p:=⟨l,3,none⟩) u.out (.int .u64 N)) he).setCell (p:=⟨l,4,none⟩) u.out (.int .u64 E)).setCell (p:=⟨l,5,none⟩) u.out (.int .u64 hg);generalize Wb _ _ _=W2 at X1 Y1 kh O1 kq⊢;clear X Y R O BL;have X:=X1;have Y:=Y1;have R:=kh;have O:=O1;have BL:=kq;clear X1 Y1 kh O1 kq;obtain⟨k5,hz,k8,k9,xf⟩:=id X;obtain⟨ka,k7,k4,k6,yf⟩:=id Y;obtain⟨H,K,B,J,I,z,t,j,of⟩:=id O;simp only[Ux]at t j;rw[Ul];go_wp2
 refine VX 5 ?_;obtain⟨gg,im,s20,ig,hk,i7,ir,e4,ku,ke,d6,ds,ek,b9,b5,bz⟩:=dQ c p G 0 hc hp bv dC;simp only[Ux]at ke;rw[Ul];go_wp2
 go_quiet ((go_at_call 134;exact UQ (ku _)));revert nq;intro W
 go_wp2_with (first|simp only[ke]|simp only[d6])
 obtain⟨g2,io,s21,f6,D,i5,i6,f3,bj,b3,ct,dn,ef,bt,kz,kw⟩:=dQ c q N e4 hc hq ba b5;rw[Ul];go_wp2
 go_quiet ((go_at_call 134;exact UQ (bj _)));revert nq;intro h4
 go_wp2_with (first|simp only[b3]|simp only[ct])
 obtain⟨ii,fe,s22,ft,L,gm,fx,dx,d8,cg,dj,ey,f2,ci,cx,db⟩:=dQ c r E f3 hc hr bw kz;rw[Ul];go_wp2
 go_quiet ((go_at_call 134;exact UQ (d8 _)));revert nq;intro h6
 go_wp2_with (first|simp only[cg]|simp only[dj])
 obtain⟨ik,fr,s23,ie,C,g0,fp,S,bc,ky,bk,ej,f1,bh,c3,c9⟩:=dQ c s hg dx hc hs be cx;rw[Ul];go_wp2
 go_quiet ((go_at_call 134;exact UQ (bc _)));revert nq;intro hj
 go_wp2_with (first|simp only[ky]|simp only[bk])
 rw[Ul];go_wp2
 have R2:=qI (n:=val G N E hg) (p:=G) (q:=N) (r:=E) (s:=hg) (x:=c) (l0:=hk) (l1:=D) (l2:=L) (l3:=C) en rfl bz kw db c9;have ec:Hid _:=R2;clear R2;clear bz kw db c9 ku ke d6 ds ek bj b3 ct dn ef d8 cg dj ey f2 bc ky bk ej f1;clear k5 hz k8 k9 xf ka k7 k4 k6 yf H K B J I z t j of;have X2:=(((((((((X).drewN W).other (o:=2) i.symm (.int .u64 hk)).drewN h4).other (o:=3) i.symm (.int .u64 D)).drewN h6).other (o:=4) i.symm (.int .u64 L)).drewN hj).other (o:=5) i.symm (.int .u64 C)).other (o:=6) i.symm (.int .u64 S);have Y2:=(((((((((Y).drewN W).other (o:=2) g.symm (.int .u64 hk)).drewN h4).other (o:=3) g.symm (.int .u64 D)).drewN h6).other (o:=4) g.symm (.int .u64 L)).drewN hj).other (o:=5) g.symm (.int .u64 C)).other (o:=6) g.symm (.int .u64 S);have ko:=(((((((((R).drewN W).other (o:=2) f.symm (.int .u64 hk)).drewN h4).other (o:=3) f.symm (.int .u64 D)).drewN h6).other (o:=4) f.symm (.int .u64 L)).drewN hj).other (o:=5) f.symm (.int .u64 C)).other (o:=6) f.symm (.int .u64 S);have O2:=(((((((((O).drewN W).set2 hk).drewN h4).set3 D).drewN h6).set4 L).drewN hj).set5 C).set6 S;have kl:Hid (Below k0 w _):=((aS ((aS ((aS ((aS BL.out W).setCell (p:=⟨l,2,none⟩) u.out (.int .u64 hk)) h4).setCell (p:=⟨l,3,none⟩) u.out (.int .u64 D)) h6).setCell (p:=⟨l,4,none⟩) u.out (.int .u64 L)) hj).setCell (p:=⟨l,5,none⟩) u.out (.int .u64 C)).setCell (p:=⟨l,6,none⟩) u.out (.int .u64 S);generalize Wb _ _ _=W3 at X2 Y2 ko O2 kl⊢;clear X Y R O BL;have X:=X2;have Y:=Y2;have R:=ko;have O:=O2;have BL:=kl;clear X2 Y2 ko O2 kl;obtain⟨k5,hz,k8,k9,xf⟩:=id X;obtain⟨ka,k7,k4,k6,yf⟩:=id Y;obtain⟨H,K,B,J,I,z,t,j,of⟩:=id O;simp only[Ux]at j;rw[Ul];go_wp2
 refine VX 5 ?_;obtain⟨g9,gi,s30,f4,h9,g8,fu,e0,cq,ki,dd,er,dq,d1,kv,cu⟩:=dQ d p D 0 hd hp bt dC;simp only[Ux]at ki;rw[Ul];go_wp2
 go_quiet ((go_at_call 134;exact UQ (cq _)));revert nq;intro U
 go_wp2_with (first|simp only[ki]|simp only[dd])
 obtain⟨fw,gy,s31,gn,Z,fl,g4,f0,bf,d5,b2,eh,e8,dc,b7,cd⟩:=dQ d q L e0 hd hq ci kv;rw[Ul];go_wp2
 go_quiet ((go_at_call 134;exact UQ (bf _)));revert nq;intro hh
 go_wp2_with (first|simp only[d5]|simp only[b2])
 obtain⟨gd,iu,s32,f5,ht,fh,il,dl,kt,df,d4,ee,es,b4,ce,di⟩:=dQ d r C f0 hd hr bh b7;rw[Ul];go_wp2
 go_quiet ((go_at_call 134;exact UQ (kt _)));revert nq;intro Q
 go_wp2_with (first|simp only[df]|simp only[d4])
 obtain⟨g5,fi,s33,iv,o33,i9,fj,hw,d9,dk,ca,v33,z33,c1,bn,br⟩:=dQ d s S dl hd hs c3 ce;rw[Ul];go_wp2
 go_quiet ((go_at_call 134;exact UQ (d9 _)));revert nq;intro hl
 go_wp2_with (first|simp only[dk]|simp only[ca])
 rw[Ul];go_wp2
 have R3:=qI (n:=val D L C S) (p:=D) (q:=L) (r:=C) (s:=S) (x:=d) (l0:=h9) (l1:=Z) (l2:=ht) (l3:=o33) en rfl cu cd di br;have ei:Hid _:=R3;clear R3;clear cu cd di br cq ki dd er dq bf d5 b2 eh e8 kt df d4 ee es d9 dk ca v33 z33;clear k5 hz k8 k9 xf ka k7 k4 k6 yf H K B J I z t j of;have X3:=(((((((((X).drewN U).other (o:=3) i.symm (.int .u64 h9)).drewN hh).other (o:=4) i.symm (.int .u64 Z)).drewN Q).other (o:=5) i.symm (.int .u64 ht)).drewN hl).other (o:=6) i.symm (.int .u64 o33)).other (o:=7) i.symm (.int .u64 hw);have Y3:=(((((((((Y).drewN U).other (o:=3) g.symm (.int .u64 h9)).drewN hh).other (o:=4) g.symm (.int .u64 Z)).drewN Q).other (o:=5) g.symm (.int .u64 ht)).drewN hl).other (o:=6) g.symm (.int .u64 o33)).other (o:=7) g.symm (.int .u64 hw);have kf:=(((((((((R).drewN U).other (o:=3) f.symm (.int .u64 h9)).drewN hh).other (o:=4) f.symm (.int .u64 Z)).drewN Q).other (o:=5) f.symm (.int .u64 ht)).drewN hl).other (o:=6) f.symm (.int .u64 o33)).other (o:=7) f.symm (.int .u64 hw);have O3:=(((((((((O).drewN U).set3 h9).drewN hh).set4 Z).drewN Q).set5 ht).drewN hl).set6 o33).set7 hw;have kb:Hid (Below k0 w _):=((aS ((aS ((aS ((aS BL.out U).setCell (p:=⟨l,3,none⟩) u.out (.int .u64 h9)) hh).setCell (p:=⟨l,4,none⟩) u.out (.int .u64 Z)) Q).setCell (p:=⟨l,5,none⟩) u.out (.int .u64 ht)) hl).setCell (p:=⟨l,6,none⟩) u.out (.int .u64 o33)).setCell (p:=⟨l,7,none⟩) u.out (.int .u64 hw);generalize Wb _ _ _=W4 at X3 Y3 kf O3 kb⊢;clear X Y R O BL;have X:=X3;have Y:=Y3;have R:=kf;have O:=O3;have BL:=kb;clear X3 Y3 kf O3 kb;obtain⟨H,K,B,J,I,z,t,j,of⟩:=id O;obtain⟨ff,gp,ge,i4,gc,gk,gr,i8,rf⟩:=id R;have z3:=O.lt;have z2:=R.lt;rw[Ul];go_wp2
 have RF:=R.self8 T h7 hk h9 Z ht o33 hw;unfold Bc at RF;refine TM (v:=?v) ?hr rfl ?hR
 case hr=>simp[results,Tryz.results101,go_sem,RF.c0,RF.c1,RF.c2,RF.c3,RF.c4,RF.c5,RF.c6,RF.c7];rfl
 refine⟨_,rfl,?_,T,h7,hk,h9,Z,ht,o33,hw,rfl,bp,bs,b9,d1,dc,b4,c1,bn,?_⟩
 ·rw[H0.out];exact tQ BL.out Q2.out _ _ _ _ _ _ _ _
 ·rw[em];exact GN e2.out e1.out ec.out ei.out
end
section
open Go.RowKit Go.Sort
structure LessI(w wr:TA)(p0 p1 p2 p3 c0 c1 c2 c3 a b c d e f g h:Nat):Prop where
 bl:Below w.heap.size w wr
 fr:At8 wr w.heap.size p0 p1 p2 p3 c0 c1 c2 c3
 wi:At8 wr (w.heap.size+1) a b c d e f g h
 re:At4 wr (w.heap.size+1+1) 0 0 0 0
 ha:a<18446744073709551616
 hb:b<18446744073709551616
 hc:c<18446744073709551616
 hd:d<18446744073709551616
 he:e<18446744073709551616
 hf:f<18446744073709551616
 hg:g<18446744073709551616
 hh:h<18446744073709551616
theorem Dv{x y:Nat}(d:x<top)(c:y<top):x*y+top<=top*top:=by
 have b:x*y<=(top-1)*(top-1):=VR oM oM;have k:(top-1)*(top-1)+top<=top*top:=by unfold top;decide
 omega
section
variable {w w0:TA}{k a b c d e f g h j B:Nat}
theorem Co(H:Below B w0 w)(l:B<=j)(g e d c k b f i:TC):Below B w0 ((((((((w.setCell (aZ j) g).setCell ⟨j,1,none⟩ e).setCell ⟨j,2,none⟩ d).setCell ⟨j,3,none⟩ c).setCell ⟨j,4,none⟩ k).setCell ⟨j,5,none⟩ b).setCell ⟨j,6,none⟩ f).setCell ⟨j,7,none⟩ i):=tQ H l g e d c k b f i
theorem At8.other8x(H:At8 w k a b c d e f g h)(s:j≠k)(q o n m i l p r:TC):At8 ((((((((w.setCell (aZ j) q).setCell ⟨j,1,none⟩ o).setCell ⟨j,2,none⟩ n).setCell ⟨j,3,none⟩ m).setCell ⟨j,4,none⟩ i).setCell ⟨j,5,none⟩ l).setCell ⟨j,6,none⟩ p).setCell ⟨j,7,none⟩ r) k a b c d e f g h:=H.other8 s q o n m i l p r
theorem At4.other8x(H:At4 w k a b c d)(p:j≠k)(n l i g e f m o:TC):At4 ((((((((w.setCell (aZ j) n).setCell ⟨j,1,none⟩ l).setCell ⟨j,2,none⟩ i).setCell ⟨j,3,none⟩ g).setCell ⟨j,4,none⟩ e).setCell ⟨j,5,none⟩ f).setCell ⟨j,6,none⟩ m).setCell ⟨j,7,none⟩ o) k a b c d:=H.other8 p n l i g e f m o
theorem At8.self8x(H:At8 w k a b c d e f g h)(p n m l i j o q:Nat):At8 ((((((((w.setCell (aZ k) (uZ p)).setCell ⟨k,1,none⟩ (uZ n)).setCell ⟨k,2,none⟩ (uZ m)).setCell ⟨k,3,none⟩ (uZ l)).setCell ⟨k,4,none⟩ (uZ i)).setCell ⟨k,5,none⟩ (uZ j)).setCell ⟨k,6,none⟩ (uZ o)).setCell ⟨k,7,none⟩ (uZ q)) k p n m l i j o q:=H.self8 p n m l i j o q
end
theorem wL{w W:TA}{i k p p0 p1 q o j m l n a b c d e f g h:Nat}(H:Kept w i [⟨i,0,p0,p1,q,o⟩,⟨i,4,j,m,l,n⟩,⟨k,0,a,b,c,d⟩,⟨k,4,e,f,g,h⟩,⟨p,0,0,0,0,0⟩] W):W.cell? ⟨i,4,none⟩=some (uZ j)/\W.cell? ⟨i,5,none⟩=some (uZ m)/\W.cell? ⟨i,6,none⟩=some (uZ l)/\W.cell? ⟨i,7,none⟩=some (uZ n)/\W.cell? ⟨k,0,none⟩=some (uZ a)/\W.cell? ⟨k,1,none⟩=some (uZ b)/\W.cell? ⟨k,2,none⟩=some (uZ c)/\W.cell? ⟨k,3,none⟩=some (uZ d)/\W.cell? ⟨k,4,none⟩=some (uZ e)/\W.cell? ⟨k,5,none⟩=some (uZ f)/\W.cell? ⟨k,6,none⟩=some (uZ g)/\W.cell? ⟨k,7,none⟩=some (uZ h)/\Kept w i [⟨i,0,p0,p1,q,o⟩,⟨i,4,j,m,l,n⟩,⟨k,0,a,b,c,d⟩,⟨k,4,e,f,g,h⟩,⟨p,0,0,0,0,0⟩] W:=
 ⟨H.tail.head.c0,H.tail.head.c1,H.tail.head.c2,H.tail.head.c3,H.tail.tail.head.c0,H.tail.tail.head.c1,H.tail.tail.head.c2,H.tail.tail.head.c3,H.tail.tail.tail.head.c0,H.tail.tail.tail.head.c1,H.tail.tail.tail.head.c2,H.tail.tail.tail.head.c3,H⟩
theorem or4(a b c d:Nat)(e:a<18446744073709551616)(k:b<18446744073709551616)(f:c<18446744073709551616)(hd:d<18446744073709551616):
 ∃o:Nat,bits .or .u64 (bits .or .u64 (bits .or .u64 (a:Int) (b:Int)) (c:Int)) (d:Int)=(o:Int)/\(o=0↔(a=0/\b=0/\c=0/\d=0)):=by
 have lt:∀x y:Nat,x<18446744073709551616->y<18446744073709551616->x ||| y<18446744073709551616:=λx y g i=>yAN (n:=64) g i
 refine⟨a ||| b ||| c ||| d,?_,?_⟩
 ·rw[XW a b e k,XW _ c (lt _ _ e k) f,XW _ d (lt _ _ (lt _ _ e k) f) hd]
 ·constructor
  ·intro h;have s:=ZN (n:=a ||| b ||| c) (m:=d);have p:=ZD (n:=a ||| b ||| c) (m:=d);have q:=ZN (n:=a ||| b) (m:=c);have l:=ZD (n:=a ||| b) (m:=c);have j:=ZN (n:=a) (m:=b);have r:=ZD (n:=a) (m:=b);omega
  ·rintro⟨rfl,rfl,rfl,rfl⟩;rfl
theorem GL{c k cc P gk:Nat}(d:P+cc=top)(g:top<2*P)(b:0<k)(f:gk=c+top*k):k*cc+c<gk/\(k*cc+c)%P=gk%P:=by
 have e:gk=k*cc+c+P*k:=by rw[f,<-d,WE,Ut cc];omega
 rw[e,Nat.add_mul_mod_self_left];have:0<P*k:=Nat.mul_pos oM b;exact⟨oM,rfl⟩
theorem rX(p0 p1 z A E F u D P:Nat)(x:TC)(m:Nat)(kd:p0<18446744073709551616)(kc:p1<18446744073709551616)(kf:z<18446744073709551616)(kv:A<18446744073709551616)
 (k6:E<18446744073709551616) (hu:F<18446744073709551616) (B:u<18446744073709551616) (hy:D<18446744073709551616) (eP:P=val p0 p1 z A) (hP:P+val E F u D=top) (h7:top<2*P) (hx:mG x m) (w:TA) :
 TW prog 100 #[.agg #[uZ p0,uZ p1,uZ z,uZ A,uZ E,uZ F,uZ u,uZ D],x] w (rZ w λe w'=>Four e (m%P)):=by
 obtain⟨a,b,c,d,e,f,g,h,rfl,ha,hb,hc,hd,he,hf,hg,hh,em⟩:=hx;go_enter func100,ntmps100;go_wp2;have hn:=mk1 (eP);go_loopg [] (val a b c d+top*val e f g h) (λgk wr=>∃(a b c d e f g h:Nat),LessI w wr p0 p1 z A E F u D a b c d e f g h/\gk=val a b c d+top*val e f g h/\Hid (gk%P=m%P))
 case atStart =>
  refine⟨a,b,c,d,e,f,g,h,⟨below3 _ _ _ _,?_,?_,?_,ha,hb,hc,hd,he,hf,hg,hh⟩,rfl,?_⟩
  ·exact(((At8.made w 112 p0 p1 z A E F u D rfl).alloc _).alloc _)
  ·exact(At8.made (w.alloc _) 167 a b c d e f g h (TQ _ _)).alloc _
  ·exact At4.made ((w.alloc _).alloc _) 68 0 0 0 0 (by simp)
  ·rw[em];rfl
 case round =>
  obtain⟨a,b,c,d,e,f,g,h,hI,J,HE⟩:=hrel;obtain⟨bl,l,s,y,ha,hb,hc,hd,he,hf,hg,hh⟩:=hI;have U:=mk1 (bl);generalize q2:w.heap.size+1+1=G at y⊢;generalize q1:w.heap.size+1=t at s⊢;have H:Hid (w.heap.size+1=t/\w.heap.size+1+1=G):=⟨q1,q2⟩
  have Q1:Hid (w.heap.size<=t):=by unfold Hid;omega
  have Q2:Hid (w.heap.size<=G):=by unfold Hid;omega
  generalize q0:w.heap.size=n at l U Q1 Q2⊢;have H0:Hid (w.heap.size=n):=q0;have kk:n≠t:=oM;have n12:t≠G:=oM;have L:=l.lt;have z1:=s.lt;have z2:=y.lt;clear q0 q1 q2;obtain⟨o,ho,I⟩:=or4 e f g h he hf hg hh;obtain⟨k4,hs,hq,hp,kr,ky,kx,ke,ff⟩:=id l;obtain⟨V,h5,h9,W,S,Y,Z,h4,wf⟩:=id s;obtain⟨h3,X,hk,R,rf⟩:=id y;by_cases hz:o=0
  ·obtain⟨rfl,rfl,rfl,rfl⟩:=I.1 hz;have K:gk=val a b c d:=by rw[J];rfl
   have q:Hid (val a b c d%P=m%P):=by unfold Hid;rw[<-K];exact HE.out
   clear J HE I K;subst hz;go_wp2;have N:=At4.made wr 68 a b c d rfl;have M0:n≠wr.heap.size:=Vl L;have M2:G≠wr.heap.size:=Vl z2;have M5:Hid (n<=wr.heap.size):=V6 L;have hl:Hid (Below n w _):=U.alloc (V6 L) (.cells #[uZ a,uZ b,uZ c,uZ d] 68);replace l:=l.alloc (.cells #[uZ a,uZ b,uZ c,uZ d] 68);replace y:=y.alloc (.cells #[uZ a,uZ b,uZ c,uZ d] 68);clear s k4 hs hq hp kr ky kx ke ff V h5 h9 W S Y Z h4 wf h3 X hk R rf L z1 z2 U ho;generalize U2 _ _=W0 at N l y hl⊢;generalize wr.heap.size=k5 at N M0 M2 M5⊢;have k:Hid (a<18446744073709551616/\b<18446744073709551616/\c<18446744073709551616/\d<18446744073709551616):=⟨ha,hb,hc,hd⟩
   have kj:Hid (0<P):=by unfold Hid;have:=h7;omega
   clear ha hb hc hd hP h7;have p:Kept w n [⟨k5,0,a,b,c,d⟩,⟨n,0,p0,p1,z,A⟩,⟨G,0,0,0,0,0⟩] W0:=
    (((Kept.mk1 hl.out (V6 l.lt)).cons y.blk).cons (x:=⟨n,0,p0,p1,z,A⟩) ⟨l.c0,l.c1,l.c2,l.c3,l.fz⟩).cons N.blk
   clear l y N hl;go_loopg [] (val a b c d) (λkq ko=>∃(a b c d:Nat),kq=val a b c d/\Kept w n [⟨k5,0,a,b,c,d⟩,⟨n,0,p0,p1,z,A⟩,⟨G,0,0,0,0,0⟩] ko/\Hid (a<18446744073709551616/\b<18446744073709551616/\c<18446744073709551616/\d<18446744073709551616)/\Hid (val a b c d%P=m%P))
   case atStart=>exact⟨a,b,c,d,rfl,p,k,q⟩
   case round =>
    clear p k q;obtain⟨a,b,c,d,b3,p,k,q⟩:=hrel;obtain⟨T,hi,O,Q,xf⟩:=p.head.at4;obtain⟨kl,km,kh,kt,pf⟩:=p.tail.head.at4;have z5:=p.head.lt;have L:=p.tail.head.lt;go_wp2_with fail
    refine(nW _ _ _ _ (Four.mk k.1 k.2.1 k.2.2.1 k.2.2.2 rfl) (Four.mk kd kc kf kv rfl) _).mono ?_;rintro r w2 ⟨v,rfl,C,v2,t2,j,rfl,⟨a2,b2,u,d2,rfl,k8,M,B,hw,hm⟩,hj,ht⟩;clear T hi O Q xf kl km kh kt pf z5 L;replace p:=p.call C;clear C;have h8:Hid (val a2 b2 u d2+P=val a b c d+top*j):=by unfold Hid;rw[<-hm,hn.out];exact ht
    clear ht hm;have kn:j=0\/j=1:=oM;rcases kn with rfl|rfl
    ·obtain⟨T,hi,O,Q,xf⟩:=p.head.at4;have z5:=p.head.lt;go_wp2;go_roundg (val a2 b2 u d2)
     case measure=>have:=h8.out;have:=kj.out;omega
     case rel =>
      refine⟨a2,b2,u,d2,rfl,?_,⟨k8,M,B,hw⟩,?_⟩
      ·exact(p.put M5.out (by simp only[U0,Ud,or_false];rintro x (rfl|rfl);exact M0.symm;exact M2.symm) a2 b2 u d2).alloc _
      ·unfold Hid;rw[<-q.out,show val a b c d=val a2 b2 u d2+P by have:=h8.out;omega,Nat.add_mod_right]
    ·obtain⟨T,hi,O,Q,xf⟩:=p.head.at4;obtain⟨h3,X,hk,R,rf⟩:=p.tail.tail.head.at4;have z5:=p.head.lt;have z3:=p.tail.tail.head.lt;go_wp2;have RF:=(p.tail.tail.head.at4.self4 a b c d).alloc (.cells #[uZ a2,uZ b2,uZ u,uZ d2] 68);unfold set4 at RF;refine TM (v:=?v) ?hr rfl ?hR
     case hr=>simp[results,Tryz.results100,go_sem,RF.c0,RF.c1,RF.c2,RF.c3];rfl
     refine⟨_,rfl,?_,Four.mk k.1 k.2.1 k.2.2.1 k.2.2.2 ?_⟩
     ·rw[H0.out];exact(aF p.bl Q2.out _ _ _ _).alloc (by rw[Gi];exact p.le) _
     ·rw[<-q.out,Uf (by have:=h8.out;have:=iU k8 M B hw;omega)]
  ·have M:0<val e f g h:=by
    rcases yAB (val e f g h)with k|k
    ·exact absurd (I.2 (by unfold val at k;omega)) hz
    ·exact k
   have HL:Hid (_/\_):=GL hP h7 M J;clear I J M;go_wp2;have p:Kept w n [⟨n,0,p0,p1,z,A⟩,⟨n,4,E,F,u,D⟩,⟨t,0,a,b,c,d⟩,⟨t,4,e,f,g,h⟩,⟨G,0,0,0,0,0⟩] wr:=
    (((((Kept.mk1 U.out (V6 L)).cons y.blk).cons (x:=⟨t,4,e,f,g,h⟩) ⟨s.c4,s.c5,s.c6,s.c7,s.fz⟩).cons (x:=⟨t,0,a,b,c,d⟩) ⟨s.c0,s.c1,s.c2,s.c3,s.fz⟩).cons (x:=⟨n,4,E,F,u,D⟩) ⟨l.c4,l.c5,l.c6,l.c7,l.fz⟩).cons (x:=⟨n,0,p0,p1,z,A⟩) ⟨l.c0,l.c1,l.c2,l.c3,l.fz⟩
   clear hn h3 X hk R rf k4 hs hq hp l s y U;refine anyTill.begin (λw'=>w'.cell? ⟨n,4,none⟩=some (uZ E)/\w'.cell? ⟨n,5,none⟩=some (uZ F)/\w'.cell? ⟨n,6,none⟩=some (uZ u)/\w'.cell? ⟨n,7,none⟩=some (uZ D)/\w'.cell? ⟨t,0,none⟩=some (uZ a)/\w'.cell? ⟨t,1,none⟩=some (uZ b)/\w'.cell? ⟨t,2,none⟩=some (uZ c)/\w'.cell? ⟨t,3,none⟩=some (uZ d)/\w'.cell? ⟨t,4,none⟩=some (uZ e)/\w'.cell? ⟨t,5,none⟩=some (uZ f)/\w'.cell? ⟨t,6,none⟩=some (uZ g)/\w'.cell? ⟨t,7,none⟩=some (uZ h)/\Kept w n [⟨n,0,p0,p1,z,A⟩,⟨n,4,E,F,u,D⟩,⟨t,0,a,b,c,d⟩,⟨t,4,e,f,g,h⟩,⟨G,0,0,0,0,0⟩] w') 22 mixed (wL p.drew) (λq=>?_);refine anyTill.tk (i:=0) (v:=?_) rfl (Ub ⟨by rfl,?_⟩) q ?_
   rotate_left
   ·intro w k
    (try dsimp only at k)
    go_simp;try(with_reducible rfl)
   simp only[Ug,TD];refine anyTill.tk (i:=1) (v:=?_) rfl (Ub ⟨by rfl,?_⟩) q ?_
   rotate_left
   ·intro w k
    (try dsimp only at k)
    go_simp;try(with_reducible rfl)
   simp only[Ug];refine anyTill.tk (i:=2) (v:=?_) rfl (Ub ⟨by rfl,?_⟩) q ?_
   rotate_left
   ·intro w k
    (try dsimp only at k)
    go_simp;try(with_reducible rfl)
   simp only[Ug];refine anyTill.tk (i:=3) (v:=?_) rfl (Ub ⟨by rfl,?_⟩) q ?_
   rotate_left
   ·intro w k
    (try dsimp only at k)
    go_simp;try(with_reducible rfl)
   simp only[Ug];refine anyTill.tk (i:=4) (v:=?_) rfl (Ub ⟨by rfl,?_⟩) q ?_
   rotate_left
   ·intro w k
    (try dsimp only at k)
    go_simp;try(with_reducible rfl)
   simp only[Ug];refine anyTill.tk (i:=5) (v:=?_) rfl (Ub ⟨by rfl,?_⟩) q ?_
   rotate_left
   ·intro w k
    (try dsimp only at k)
    go_simp;try(with_reducible rfl)
   simp only[Ug];refine anyTill.tk (i:=6) (v:=?_) rfl (Ub ⟨by rfl,?_⟩) q ?_
   rotate_left
   ·intro w k
    (try dsimp only at k)
    go_simp;try(with_reducible rfl)
   simp only[Ug];refine anyTill.tk (i:=7) (v:=?_) rfl (Ub ⟨by rfl,?_⟩) q ?_
   rotate_left
   ·intro w k
    (try dsimp only at k)
    go_simp;try(with_reducible rfl)
   simp only[Ug];refine anyTill.tk (i:=8) (v:=?_) rfl (Ub ⟨by rfl,?_⟩) q ?_
   rotate_left
   ·intro w k
    (try dsimp only at k)
    go_simp;try(with_reducible rfl)
   simp only[Ug];refine anyTill.tk (i:=9) (v:=?_) rfl (Ub ⟨by rfl,?_⟩) q ?_
   rotate_left
   ·intro w k
    (try dsimp only at k)
    go_simp;try(with_reducible rfl)
   simp only[Ug];refine anyTill.tk (i:=10) (v:=?_) rfl (Ub ⟨by rfl,?_⟩) q ?_
   rotate_left
   ·intro w k
    (try dsimp only at k)
    go_simp;try(with_reducible rfl)
   simp only[Ug];refine anyTill.tk (i:=12) (v:=?_) rfl (Ub ⟨by rfl,?_⟩) q ?_
   rotate_left
   ·intro w k
    (try dsimp only at k)
    go_simp;try(with_reducible rfl)
   simp only[Ug];refine anyTill.tk (i:=13) (v:=?_) rfl (Ub ⟨by rfl,?_⟩) q ?_
   rotate_left
   ·intro w k
    (try dsimp only at k)
    go_simp;try(with_reducible rfl)
   simp only[Ug];refine anyTill.tk (i:=14) (v:=?_) rfl (Ub ⟨by rfl,?_⟩) q ?_
   rotate_left
   ·intro w k
    (try dsimp only at k)
    go_simp;try(with_reducible rfl)
   simp only[Ug];refine anyTill.tk (i:=15) (v:=?_) rfl (Ub ⟨by rfl,?_⟩) q ?_
   rotate_left
   ·intro w k
    (try dsimp only at k)
    go_simp;try(with_reducible rfl)
   simp only[Ug];refine anyTill.tk (i:=16) (v:=?_) rfl (Ub ⟨by rfl,?_⟩) q ?_
   rotate_left
   ·intro w k
    (try dsimp only at k)
    go_simp;try(with_reducible rfl)
   simp only[Ug];refine anyTill.tk (i:=17) (v:=?_) rfl (Ub ⟨by rfl,?_⟩) q ?_
   rotate_left
   ·intro w k
    (try dsimp only at k)
    go_simp;try(with_reducible rfl)
   simp only[Ug];refine anyTill.tk (i:=18) (v:=?_) rfl (Ub ⟨by rfl,?_⟩) q ?_
   rotate_left
   ·intro w k
    (try dsimp only at k)
    go_simp;try(with_reducible rfl)
   simp only[Ug];refine anyTill.tk (i:=19) (v:=?_) rfl (Ub ⟨by rfl,?_⟩) q ?_
   rotate_left
   ·intro w k
    (try dsimp only at k)
    go_simp;try(with_reducible rfl)
   simp only[Ug];refine anyTill.tk (i:=20) (v:=?_) rfl (Ub ⟨by rfl,?_⟩) q ?_
   rotate_left
   ·intro w k
    (try dsimp only at k)
    go_simp;try(with_reducible rfl)
   simp only[Ug];refine anyTill.step (i:=11) rfl kR (λK O=>?_);go_simp;refine(lP _ _ _ _ (Four.mk he hf hg hh rfl) (Four.mk k6 hu B hy rfl) _).mono ?_;rintro r w1 ⟨v,rfl,k7,Q⟩;obtain⟨x0,x1,x2,x3,x4,x5,x6,x7,rfl,ba,b5,b4,b7,b6,bb,b8,b9,kg⟩:=id Q;clear kg q;have h6:=p.drew.call k7;clear k7 p;refine O.out _ _ (λ_=>wL h6) ?_;clear O K;try simp only[Ug,TD,TL,TK]
   refine anyTill.step (i:=21) rfl kR (λK O=>?_);go_simp;refine(rS _ _ _ _ Q ⟨a,b,c,d,0,0,0,0,rfl,ha,hb,hc,hd,dC,dC,dC,dC,rfl⟩ (by have h1:=Dv (iU he hf hg hh) (iU k6 hu B hy);have h2:=iU ha hb hc hd;have e0:val 0 0 0 0=0:=rfl;rw[e0,XZ,VK];omega) _).mono ?_;rintro r w2 ⟨v,rfl,C,k3⟩;obtain⟨y0,y1,y2,y3,y4,y5,y6,y7,rfl,kz,kw,ka,ku,kp,k9,kb,ki,T⟩:=id k3;rw[show val 0 0 0 0=0 from rfl,XZ,VK]at T;have HY:Hid (_=_):=T;clear T Q k3;have k:=h6.call C;clear C h6;refine O.out _ _ (λ_=>wL k) ?_;clear O K;try simp only[Ug,TD,TL,TK]
   have l:At8 w2 n p0 p1 z A E F u D:=⟨k.head.c0,k.head.c1,k.head.c2,k.head.c3,k.tail.head.c0,k.tail.head.c1,k.tail.head.c2,k.tail.head.c3,k.head.f⟩
   have s:At8 w2 t a b c d e f g h:=⟨k.tail.tail.head.c0,k.tail.tail.head.c1,k.tail.tail.head.c2,k.tail.tail.head.c3,k.tail.tail.tail.head.c0,k.tail.tail.tail.head.c1,k.tail.tail.tail.head.c2,k.tail.tail.tail.head.c3,k.tail.tail.head.f⟩
   have y:At4 w2 G 0 0 0 0:=k.tail.tail.tail.tail.head.at4;have U:Hid (Below n w w2):=k.bl;clear k V h5 h9 W S Y Z h4 wf L z1 z2;obtain⟨V,h5,h9,W,S,Y,Z,h4,wf⟩:=id s;have z1:=s.lt;refine anyTill.step (i:=22) rfl kR (λK O=>?_);go_simp;refine O.out _ _ (λh=>XQ h) ?_;clear O K;try simp only[Ug,TD,TL,TK]
   refine anyTill.done kR ?_ _;obtain⟨q1,q2⟩:=H.out;have q0:=H0.out;subst q1 q2 q0;go_wp2;go_roundg (val y0 y1 y2 y3+top*val y4 y5 y6 y7)
   case measure=>rw[<-HY.out];exact HL.1
   case rel =>
    refine⟨y0,y1,y2,y3,y4,y5,y6,y7,⟨?_,?_,?_,?_,kz,kw,ka,ku,kp,k9,kb,ki⟩,rfl,?_⟩
    ·exact Co U.out Q1.out _ _ _ _ _ _ _ _
    ·exact At8.other8x l kk.symm _ _ _ _ _ _ _ _
    ·exact At8.self8x s y0 y1 y2 y3 y4 y5 y6 y7
    ·exact At4.other8x y n12 _ _ _ _ _ _ _ _
    ·unfold Hid;rw[<-HY.out,<-HE.out];exact HL.2
end
section
open Go.RowKit Go.Sort
variable {P:Nat}[NeZero P]{N:Nat}
theorem fD{w W:TA}{k e f p0 p1 m j g l i n a b c d p q r s:Nat}(h:Kept w k [⟨k,0,p0,p1,m,j⟩,⟨k,4,g,l,i,n⟩,⟨e,0,a,b,c,d⟩,⟨f,0,p,q,r,s⟩] W):W.cell? ⟨k,0,none⟩=some (uZ p0)/\W.cell? ⟨k,1,none⟩=some (uZ p1)/\W.cell? ⟨k,2,none⟩=some (uZ m)/\W.cell? ⟨k,3,none⟩=some (uZ j)/\W.cell? ⟨k,4,none⟩=some (uZ g)/\W.cell? ⟨k,5,none⟩=some (uZ l)/\W.cell? ⟨k,6,none⟩=some (uZ i)/\W.cell? ⟨k,7,none⟩=some (uZ n)/\W.cell? ⟨e,0,none⟩=some (uZ a)/\W.cell? ⟨e,1,none⟩=some (uZ b)/\W.cell? ⟨e,2,none⟩=some (uZ c)/\W.cell? ⟨e,3,none⟩=some (uZ d)/\W.cell? ⟨f,0,none⟩=some (uZ p)/\W.cell? ⟨f,1,none⟩=some (uZ q)/\W.cell? ⟨f,2,none⟩=some (uZ r)/\W.cell? ⟨f,3,none⟩=some (uZ s)/\Kept w k [⟨k,0,p0,p1,m,j⟩,⟨k,4,g,l,i,n⟩,⟨e,0,a,b,c,d⟩,⟨f,0,p,q,r,s⟩] W:=
 ⟨h.head.c0,h.head.c1,h.head.c2,h.head.c3,h.tail.head.c0,h.tail.head.c1,h.tail.head.c2,h.tail.head.c3,h.tail.tail.head.c0,h.tail.tail.head.c1,h.tail.tail.head.c2,h.tail.tail.head.c3,h.tail.tail.tail.head.c0,h.tail.tail.tail.head.c1,h.tail.tail.tail.head.c2,h.tail.tail.tail.head.c3,h⟩
theorem Iz(p0 p1 l o g j t f P:Nat)(x y:TC)(m n:Nat)(K:p0<18446744073709551616)(J:p1<18446744073709551616)(L:l<18446744073709551616)(U:o<18446744073709551616)
 (W:g<18446744073709551616) (Q:j<18446744073709551616) (H:t<18446744073709551616) (T:f<18446744073709551616) (eP:P=val p0 p1 l o) (hP:P+val g j t f=top) (S:top<2*P) (hx:Four x m) (hy:Four y n) (w:TA) :
 TW prog 55 #[.agg #[.int .u64 p0,.int .u64 p1,.int .u64 l,.int .u64 o,.int .u64 g,.int .u64 j,.int .u64 t,.int .u64 f],x,y] w (Ret λe w'=>Below w.heap.size w w'/\Four e (m*n%P)):=by
 obtain⟨a,b,c,d,rfl,ha,hb,hc,hd,em⟩:=id hx;obtain⟨p,q,r,s,rfl,hp,hq,hr,hs,en⟩:=id hy;have HX:Hid (Four _ _):=hx;have HY:Hid (Four _ _):=hy;have HL:Hid (∀(v:TC) (k:Nat) (w:TA),mG v k->TW prog 100 #[.agg #[.int .u64 p0,.int .u64 p1,.int .u64 l,.int .u64 o,.int .u64 g,.int .u64 j,.int .u64 t,.int .u64 f],v] w (Ret λe w'=>Below w.heap.size w w'/\Four e (k%P))):=
  λv k w hv=>rX p0 p1 l o g j t f P v k K J L U W Q H T eP hP S hv w
 clear em en hx hy ha hb hc hd hp hq hr hs K J L U W Q H T eP hP S;go_enter func55,ntmps55;go_wp2_with fail
 have A:=((((At8.made w 112 p0 p1 l o g j t f rfl).alloc (.cells #[.int .u64 a,.int .u64 b,.int .u64 c,.int .u64 d] 68)).alloc (.cells #[.int .u64 p,.int .u64 q,.int .u64 r,.int .u64 s] 68)).alloc (.cells #[.int .u64 0,.int .u64 0,.int .u64 0,.int .u64 0] 68))
 have X:=(((At4.made (w.alloc (.cells #[.int .u64 p0,.int .u64 p1,.int .u64 l,.int .u64 o,.int .u64 g,.int .u64 j,.int .u64 t,.int .u64 f] 112)) 68 a b c d (TQ _ _)).alloc (.cells #[.int .u64 p,.int .u64 q,.int .u64 r,.int .u64 s] 68)).alloc (.cells #[.int .u64 0,.int .u64 0,.int .u64 0,.int .u64 0] 68))
 have Y:=((At4.made ((w.alloc (.cells #[.int .u64 p0,.int .u64 p1,.int .u64 l,.int .u64 o,.int .u64 g,.int .u64 j,.int .u64 t,.int .u64 f] 112)).alloc (.cells #[.int .u64 a,.int .u64 b,.int .u64 c,.int .u64 d] 68)) 68 p q r s (k:=w.heap.size+1+1) (by simp)).alloc (.cells #[.int .u64 0,.int .u64 0,.int .u64 0,.int .u64 0] 68))
 have T3:=At4.made (((w.alloc (.cells #[.int .u64 p0,.int .u64 p1,.int .u64 l,.int .u64 o,.int .u64 g,.int .u64 j,.int .u64 t,.int .u64 f] 112)).alloc (.cells #[.int .u64 a,.int .u64 b,.int .u64 c,.int .u64 d] 68)).alloc (.cells #[.int .u64 p,.int .u64 q,.int .u64 r,.int .u64 s] 68)) 68 0 0 0 0 (k:=w.heap.size+1+1+1) (by simp);have i:=((((Kept.mk1 (hZ w (.cells #[.int .u64 p0,.int .u64 p1,.int .u64 l,.int .u64 o,.int .u64 g,.int .u64 j,.int .u64 t,.int .u64 f] 112) (.cells #[.int .u64 a,.int .u64 b,.int .u64 c,.int .u64 d] 68) (.cells #[.int .u64 p,.int .u64 q,.int .u64 r,.int .u64 s] 68) (.cells #[.int .u64 0,.int .u64 0,.int .u64 0,.int .u64 0] 68)) (hZ w (.cells #[.int .u64 p0,.int .u64 p1,.int .u64 l,.int .u64 o,.int .u64 g,.int .u64 j,.int .u64 t,.int .u64 f] 112) (.cells #[.int .u64 a,.int .u64 b,.int .u64 c,.int .u64 d] 68) (.cells #[.int .u64 p,.int .u64 q,.int .u64 r,.int .u64 s] 68) (.cells #[.int .u64 0,.int .u64 0,.int .u64 0,.int .u64 0] 68)).size).cons Y.blk).cons X.blk).cons (x:=⟨w.heap.size,4,g,j,t,f⟩) ⟨A.c4,A.c5,A.c6,A.c7,A.fz⟩).cons (x:=⟨w.heap.size,0,p0,p1,l,o⟩) ⟨A.c0,A.c1,A.c2,A.c3,A.fz⟩;simp only[Ux]at T3;clear A X Y;generalize U2 _ _=W0 at i T3⊢;generalize h3:w.heap.size+1+1+1=k3 at T3⊢;generalize h2:w.heap.size+1+1=F at i⊢;generalize h1:w.heap.size+1=G at i⊢;have Q3:Hid (w.heap.size<=k3):=by unfold Hid;omega
 generalize h0:w.heap.size=u at i Q3⊢;have H0:=mk1 (h0);have N:∀x∈([⟨u,0,p0,p1,l,o⟩,⟨u,4,g,j,t,f⟩,⟨G,0,a,b,c,d⟩,⟨F,0,p,q,r,s⟩]:List Blk),k3≠x.k:=by simp only[U0,Ud,or_false];rintro x (rfl|rfl|rfl|rfl)<;>simp only<;>omega
 obtain⟨M,O,R,Z,tf⟩:=id T3;have zt:=T3.lt;go_region_held3 (λw'=>w'.cell? ⟨u,0,none⟩=some (.int .u64 p0)/\w'.cell? ⟨u,1,none⟩=some (.int .u64 p1)/\w'.cell? ⟨u,2,none⟩=some (.int .u64 l)/\w'.cell? ⟨u,3,none⟩=some (.int .u64 o)/\w'.cell? ⟨u,4,none⟩=some (.int .u64 g)/\w'.cell? ⟨u,5,none⟩=some (.int .u64 j)/\w'.cell? ⟨u,6,none⟩=some (.int .u64 t)/\w'.cell? ⟨u,7,none⟩=some (.int .u64 f)/\w'.cell? ⟨G,0,none⟩=some (.int .u64 a)/\w'.cell? ⟨G,1,none⟩=some (.int .u64 b)/\w'.cell? ⟨G,2,none⟩=some (.int .u64 c)/\w'.cell? ⟨G,3,none⟩=some (.int .u64 d)/\w'.cell? ⟨F,0,none⟩=some (.int .u64 p)/\w'.cell? ⟨F,1,none⟩=some (.int .u64 q)/\w'.cell? ⟨F,2,none⟩=some (.int .u64 r)/\w'.cell? ⟨F,3,none⟩=some (.int .u64 s)/\Kept w u [⟨u,0,p0,p1,l,o⟩,⟨u,4,g,j,t,f⟩,⟨G,0,a,b,c,d⟩,⟨F,0,p,q,r,s⟩] w') (first|(with_reducible exact fD i)|(with_reducible exact fD i.drew)|(with_reducible exact fD (i.set4' Q3.out N _ _ _ _))|(with_reducible exact fD (i.set4' Q3.out N _ _ _ _).drew)|fail) (first|(go_at_call 101;refine(lP _ _ _ _ HX.out HY.out _).mono ?_;rintro e w1 ⟨v,rfl,E,B⟩;obtain⟨x0,x1,x2,x3,x4,x5,x6,x7,rfl,hn,he,h9,hh,hg,ht,hj,hm,h6⟩:=id B;clear h6;have h4:Hid (mG _ _):=B;clear B;have z:=i.drew.call E;have V:=T3.drew.call E;clear i T3 E;have i:=z;have T3:=V;clear z V;obtain⟨M,O,R,Z,tf⟩:=id T3;have zt:=T3.lt)|(go_at_call 100;refine(HL _ _ _ h4.out).mono ?_;rintro e w2 ⟨v,rfl,D,C⟩;obtain⟨a',b',c',d',rfl,h8,hk,hl,hi,h7⟩:=id C;clear h7;have h5:Hid (Four _ _):=C;clear C;have z:=i.call D;have V:=T3.call D;clear i T3 D;have i:=z;have T3:=V;clear z V;obtain⟨M,O,R,Z,tf⟩:=id T3;have zt:=T3.lt))
 go_wp2;have I:=T3.self4 a' b' c' d';unfold set4 at I;refine TM (v:=?v) ?hr rfl ?hR
 case hr=>simp[results,Tryz.results55,go_sem,I.c0,I.c1,I.c2,I.c3];rfl
 refine⟨_,rfl,?_,h5.out⟩;rw[H0.out];exact aF i.bl Q3.out _ _ _ _
theorem Four.eight{a b c d m:Nat}(h:Four (.agg #[uZ a,uZ b,uZ c,uZ d]) m):
 mG (.agg #[uZ a,uZ b,uZ c,uZ d,uZ 0,uZ 0,uZ 0,uZ 0]) m:=by
 obtain⟨p,q,r,s,e,i,f,k,g,rfl⟩:=h;simp only[Um.injEq,YV.injEq,Yn.injEq,UV.injEq,true_and,and_true,XY]at e;obtain⟨rfl,rfl,rfl,rfl⟩:=e;exact⟨a,b,c,d,0,0,0,0,rfl,i,f,k,g,dC,dC,dC,dC,rfl⟩
theorem G7{v u:TC}{m n:Nat}(b:Four v m)(k:Four u n):m+n<top*top:=by
 have e:=b.lt;have c:=k.lt;have d:top+top<=top*top:=by unfold top;decide
 omega
theorem IE(p0 p1 l o g j t f P:Nat)(x y:TC)(m n:Nat)(K:p0<18446744073709551616)(J:p1<18446744073709551616)(L:l<18446744073709551616)(U:o<18446744073709551616)
 (W:g<18446744073709551616) (Q:j<18446744073709551616) (H:t<18446744073709551616) (T:f<18446744073709551616) (eP:P=val p0 p1 l o) (hP:P+val g j t f=top) (S:top<2*P) (hx:Four x m) (hy:Four y n) (w:TA) :
 TW prog 60 #[.agg #[.int .u64 p0,.int .u64 p1,.int .u64 l,.int .u64 o,.int .u64 g,.int .u64 j,.int .u64 t,.int .u64 f],x,y] w (Ret λe w'=>Below w.heap.size w w'/\Four e ((m+n)%P)):=by
 obtain⟨a,b,c,d,rfl,ha,hb,hc,hd,em⟩:=id hx;obtain⟨p,q,r,s,rfl,hp,hq,hr,hs,en⟩:=id hy;have HX:Hid (Four _ _):=hx;have HY:Hid (Four _ _):=hy;have HL:Hid (∀(v:TC) (k:Nat) (w:TA),mG v k->TW prog 100 #[.agg #[.int .u64 p0,.int .u64 p1,.int .u64 l,.int .u64 o,.int .u64 g,.int .u64 j,.int .u64 t,.int .u64 f],v] w (Ret λe w'=>Below w.heap.size w w'/\Four e (k%P))):=
  λv k w hv=>rX p0 p1 l o g j t f P v k K J L U W Q H T eP hP S hv w
 clear em en hx hy ha hb hc hd hp hq hr hs K J L U W Q H T eP hP S;go_enter func60,ntmps60;go_wp2_with fail
 have A:=((((At8.made w 112 p0 p1 l o g j t f rfl).alloc (.cells #[.int .u64 a,.int .u64 b,.int .u64 c,.int .u64 d] 68)).alloc (.cells #[.int .u64 p,.int .u64 q,.int .u64 r,.int .u64 s] 68)).alloc (.cells #[.int .u64 0,.int .u64 0,.int .u64 0,.int .u64 0] 68))
 have X:=(((At4.made (w.alloc (.cells #[.int .u64 p0,.int .u64 p1,.int .u64 l,.int .u64 o,.int .u64 g,.int .u64 j,.int .u64 t,.int .u64 f] 112)) 68 a b c d (TQ _ _)).alloc (.cells #[.int .u64 p,.int .u64 q,.int .u64 r,.int .u64 s] 68)).alloc (.cells #[.int .u64 0,.int .u64 0,.int .u64 0,.int .u64 0] 68))
 have Y:=((At4.made ((w.alloc (.cells #[.int .u64 p0,.int .u64 p1,.int .u64 l,.int .u64 o,.int .u64 g,.int .u64 j,.int .u64 t,.int .u64 f] 112)).alloc (.cells #[.int .u64 a,.int .u64 b,.int .u64 c,.int .u64 d] 68)) 68 p q r s (k:=w.heap.size+1+1) (by simp)).alloc (.cells #[.int .u64 0,.int .u64 0,.int .u64 0,.int .u64 0] 68))
 have T3:=At4.made (((w.alloc (.cells #[.int .u64 p0,.int .u64 p1,.int .u64 l,.int .u64 o,.int .u64 g,.int .u64 j,.int .u64 t,.int .u64 f] 112)).alloc (.cells #[.int .u64 a,.int .u64 b,.int .u64 c,.int .u64 d] 68)).alloc (.cells #[.int .u64 p,.int .u64 q,.int .u64 r,.int .u64 s] 68)) 68 0 0 0 0 (k:=w.heap.size+1+1+1) (by simp);have i:=((((Kept.mk1 (hZ w (.cells #[.int .u64 p0,.int .u64 p1,.int .u64 l,.int .u64 o,.int .u64 g,.int .u64 j,.int .u64 t,.int .u64 f] 112) (.cells #[.int .u64 a,.int .u64 b,.int .u64 c,.int .u64 d] 68) (.cells #[.int .u64 p,.int .u64 q,.int .u64 r,.int .u64 s] 68) (.cells #[.int .u64 0,.int .u64 0,.int .u64 0,.int .u64 0] 68)) (hZ w (.cells #[.int .u64 p0,.int .u64 p1,.int .u64 l,.int .u64 o,.int .u64 g,.int .u64 j,.int .u64 t,.int .u64 f] 112) (.cells #[.int .u64 a,.int .u64 b,.int .u64 c,.int .u64 d] 68) (.cells #[.int .u64 p,.int .u64 q,.int .u64 r,.int .u64 s] 68) (.cells #[.int .u64 0,.int .u64 0,.int .u64 0,.int .u64 0] 68)).size).cons Y.blk).cons X.blk).cons (x:=⟨w.heap.size,4,g,j,t,f⟩) ⟨A.c4,A.c5,A.c6,A.c7,A.fz⟩).cons (x:=⟨w.heap.size,0,p0,p1,l,o⟩) ⟨A.c0,A.c1,A.c2,A.c3,A.fz⟩;simp only[Ux]at T3;clear A X Y;generalize U2 _ _=W0 at i T3⊢;generalize h3:w.heap.size+1+1+1=k3 at T3⊢;generalize h2:w.heap.size+1+1=F at i⊢;generalize h1:w.heap.size+1=G at i⊢;have Q3:Hid (w.heap.size<=k3):=by unfold Hid;omega
 generalize h0:w.heap.size=u at i Q3⊢;have H0:=mk1 (h0);have N:∀x∈([⟨u,0,p0,p1,l,o⟩,⟨u,4,g,j,t,f⟩,⟨G,0,a,b,c,d⟩,⟨F,0,p,q,r,s⟩]:List Blk),k3≠x.k:=by simp only[U0,Ud,or_false];rintro x (rfl|rfl|rfl|rfl)<;>simp only<;>omega
 obtain⟨M,O,R,Z,tf⟩:=id T3;have zt:=T3.lt;go_region_held3 (λw'=>w'.cell? ⟨u,0,none⟩=some (.int .u64 p0)/\w'.cell? ⟨u,1,none⟩=some (.int .u64 p1)/\w'.cell? ⟨u,2,none⟩=some (.int .u64 l)/\w'.cell? ⟨u,3,none⟩=some (.int .u64 o)/\w'.cell? ⟨u,4,none⟩=some (.int .u64 g)/\w'.cell? ⟨u,5,none⟩=some (.int .u64 j)/\w'.cell? ⟨u,6,none⟩=some (.int .u64 t)/\w'.cell? ⟨u,7,none⟩=some (.int .u64 f)/\w'.cell? ⟨G,0,none⟩=some (.int .u64 a)/\w'.cell? ⟨G,1,none⟩=some (.int .u64 b)/\w'.cell? ⟨G,2,none⟩=some (.int .u64 c)/\w'.cell? ⟨G,3,none⟩=some (.int .u64 d)/\w'.cell? ⟨F,0,none⟩=some (.int .u64 p)/\w'.cell? ⟨F,1,none⟩=some (.int .u64 q)/\w'.cell? ⟨F,2,none⟩=some (.int .u64 r)/\w'.cell? ⟨F,3,none⟩=some (.int .u64 s)/\Kept w u [⟨u,0,p0,p1,l,o⟩,⟨u,4,g,j,t,f⟩,⟨G,0,a,b,c,d⟩,⟨F,0,p,q,r,s⟩] w') (first|(with_reducible exact fD i)|(with_reducible exact fD i.drew)|(with_reducible exact fD (i.set4' Q3.out N _ _ _ _))|(with_reducible exact fD (i.set4' Q3.out N _ _ _ _).drew)|fail) (first|(go_at_call 104;refine(rS _ _ _ _ (Four.eight HX.out) (Four.eight HY.out) (G7 HX.out HY.out) _).mono ?_;rintro e w1 ⟨v,rfl,E,B⟩;obtain⟨x0,x1,x2,x3,x4,x5,x6,x7,rfl,hn,he,h9,hh,hg,ht,hj,hm,h6⟩:=id B;clear h6;have h4:Hid (mG _ _):=B;clear B;have z:=i.drew.call E;have V:=T3.drew.call E;clear i T3 E;have i:=z;have T3:=V;clear z V;obtain⟨M,O,R,Z,tf⟩:=id T3;have zt:=T3.lt)|(go_at_call 100;refine(HL _ _ _ h4.out).mono ?_;rintro e w2 ⟨v,rfl,D,C⟩;obtain⟨a',b',c',d',rfl,h8,hk,hl,hi,h7⟩:=id C;clear h7;have h5:Hid (Four _ _):=C;clear C;have z:=i.call D;have V:=T3.call D;clear i T3 D;have i:=z;have T3:=V;clear z V;obtain⟨M,O,R,Z,tf⟩:=id T3;have zt:=T3.lt))
 go_wp2;have I:=T3.self4 a' b' c' d';unfold set4 at I;refine TM (v:=?v) ?hr rfl ?hR
 case hr=>simp[results,Tryz.results60,go_sem,I.c0,I.c1,I.c2,I.c3];rfl
 refine⟨_,rfl,?_,h5.out⟩;rw[H0.out];exact aF i.bl Q3.out _ _ _ _
theorem Da(x y:TC)(m n:Nat)(o:Four x m)(u:Four y n)(w:TA):
 TW prog 96 #[x,y] w (rZ w λe w'=>e=.bool (decide (m<n))):=by
 obtain⟨a,b,c,d,rfl,P,I,E,hd,U⟩:=id o;obtain⟨p,q,r,s,rfl,L,J,Q,K,R⟩:=id u;have j:=mk1 (o);have l:=mk1 (u);go_enter func96,ntmps96;go_wp2_with fail
 refine(nW _ _ _ _ j.out l.out _).mono ?_;rintro e F ⟨v,rfl,g,v2,t,k,rfl,i,T,O⟩;have f:=mk1 ((below2 w _ _).trans (g.mono (below2 w _ _).size));have hd:decide (m<n)=decide (k=1):=by
  have B:=i.lt;have z:=j.lt;have A:=l.lt;have:k=0\/k=1:=oM;rcases this with rfl|rfl
  ·rw[decide_eq_false oM,decide_eq_false oM]
  ·rw[decide_eq_true oM,decide_eq_true rfl]
 have z:=mk1 (hd);obtain⟨S,M,G,N,rfl,A,B,C,D,H⟩:=id i;have:k=0\/k=1:=oM;rcases this with rfl|rfl
 ·go_wp2;go_ret;exact⟨_,rfl,f.alloc f.size _,by rw[z.out];rfl⟩
 ·go_wp2;go_ret;exact⟨_,rfl,f.alloc f.size _,by rw[z.out];rfl⟩
end
section
open Go.RowKit Go.Sort Go.Deep
variable {P:Nat}[NeZero P]{N:Nat}
theorem At4.setq{w:TA}{k a b c d:Nat}(h:At4 w k a b c d)(q o:Nat)(f:q<4):
 At4 (w.setCell ⟨k,q,none⟩ (uZ o)) k (if q=0 then o else a) (if q=1 then o else b) (if q=2 then o else c) (if q=3 then o else d):=by
 have e:q=0\/q=1\/q=2\/q=3:=oM;rcases e with rfl|rfl|rfl|rfl
 ·exact h.set0 o
 ·exact h.set1 o
 ·exact h.set2 o
 ·exact h.set3 o
theorem L9{a b c d M k B:Nat}(m:a<18446744073709551616)(i:b<18446744073709551616)(e:c<18446744073709551616)(hd:d<18446744073709551616)(n:k<32)(j:B<256)(hv:val a b c d=M*256^(k+1)):
 bits .or .u64 (wd a b c d (k/8):Int) ((B*2^(8*(k%8)):Nat):Int)=((wd a b c d (k/8)+B*2^(8*(k%8)):Nat):Int)/\wd a b c d (k/8)+B*2^(8*(k%8))<18446744073709551616:=by
 have l:wd a b c d (k/8)=256^(k%8+1)*(M%256^(7-k%8)):=by
  rw[He (k/8) oM m i e hd,hv,OW rfl rfl]
 obtain⟨f,g⟩:=QO (y:=M%256^(7-k%8)) (x:=B) (r:=k%8) oM j (Vm _ (Nat.pow_pos dC));rw[l];refine⟨?_,g⟩;rw[XW _ _ oM oM,f]
theorem Ma{a b c d k B o:Nat}(f:k<32)(ho:o=wd a b c d (k/8)+B*2^(8*(k%8))):
 val (if k/8=0 then o else a) (if k/8=1 then o else b) (if k/8=2 then o else c) (if k/8=3 then o else d)=val a b c d+B*256^k:=by
 have h:=Et a b c d (k/8) o oM;have e:(256:Nat)^k=2^(64*(k/8))*2^(8*(k%8)):=by
  rw[<-Nat.pow_add,show 64*(k/8)+8*(k%8)=8*k by omega,Nat.pow_mul]
 rw[ho,WL,<-VV,Ut (2^(64*(k/8))) B,VV,<-e]at h;rw[ho];omega
theorem JU(s:ByteArray)(i:Nat)(k:i<s.size):beV (s.data.extract 0 (i+1)).toList=beV (s.data.extract 0 i).toList*256+s[i].toNat:=by
 have e:(s.data.extract 0 (i+1)).toList=(s.data.extract 0 i).toList++[s[i]]:=by
  rw[Array.extract_succ_right oM k,Array.toList_push];rfl
 rw[e,jR];simp[beV]
theorem EK(s:ByteArray)(R:s.size=32)(w:TA):
 TW prog 95 #[.string s] w (rZ w λe w'=>Four e (beV s.data.toList)):=by
 go_enter func95,ntmps95;go_wp2;have f:=((Kept.mk1 (below2 w (.cells #[uZ 0,uZ 0,uZ 0,uZ 0] 68) (.cells #[uZ 0,uZ 0,uZ 0,uZ 0] 68)) (below2 w _ _).size).cons ((At4.made w 68 0 0 0 0 rfl).alloc (.cells #[uZ 0,uZ 0,uZ 0,uZ 0] 68)).blk).cons (At4.made (w.alloc (.cells #[uZ 0,uZ 0,uZ 0,uZ 0] 68)) 68 0 0 0 0 (TQ _ _)).blk;generalize z:w.heap.size+1=A at f⊢;have D:A≠w.heap.size:=oM;have O:Hid (w.heap.size<=A):=by unfold Hid;omega
 go_loopg [4] 32 (λgk s4 wr=>∃i a b c d:Nat,i+gk=32/\s4=iZ i/\Kept w w.heap.size [⟨A,0,a,b,c,d⟩,⟨w.heap.size,0,0,0,0,0⟩] wr/\Hid (Four (.agg #[uZ a,uZ b,uZ c,uZ d]) (beV (s.data.extract 0 i).toList*256^(32-i))))
 case atStart =>
  refine⟨0,0,0,0,0,rfl,rfl,f,?_⟩;have:beV (s.data.extract 0 0).toList=0:=by simp[beV]
  rw[this,Nat.zero_mul];exact Four.mk dC dC dC dC rfl
 case round =>
  obtain⟨i,a,b,c,d,U,rfl,f,J⟩:=hrel;by_cases P:i<32
  ·obtain⟨k,V⟩:∃k,31-i=k:=⟨_,rfl⟩
   have n:k<32:=oM;have l:i<s.size:=oM;have m:val a b c d=beV (s.data.extract 0 i).toList*256^(k+1)/\a<18446744073709551616/\b<18446744073709551616/\c<18446744073709551616/\d<18446744073709551616:=by
    obtain⟨g,H,u,C,e',z,E,p,G,F⟩:=J.out;obtain⟨rfl,rfl,rfl,rfl⟩:g=a/\H=b/\u=c/\C=d:=by
     simp only[Um.injEq,YV.injEq,Yn.injEq,UV.injEq,true_and,and_true,XY]at e';exact⟨e'.1.symm,e'.2.1.symm,e'.2.2.1.symm,e'.2.2.2.symm⟩
    exact⟨by rw[<-F,show 32-i=k+1 by omega],z,E,p,G⟩
   obtain⟨B,I⟩:∃B,s[i].toNat=B:=⟨_,rfl⟩
   have p:=I ▸ s[i].toNat_lt;obtain⟨hor,g⟩:=L9 m.2.1 m.2.2.1 m.2.2.2.1 m.2.2.2.2 n p m.1;have H:=f.head.at4.wd (k/8) oM;obtain⟨o,ho⟩:∃o,wd a b c d (k/8)+B*2^(8*(k%8))=o:=⟨_,rfl⟩
   rw[ho]at hor g;have F:=Ma (a:=a) (b:=b) (c:=c) (d:=d) n ho.symm;have u:Hid (Four (.agg #[uZ ((if k/8=0 then o else a:Nat):Int),uZ ((if k/8=1 then o else b:Nat):Int),uZ ((if k/8=2 then o else c:Nat):Int),uZ ((if k/8=3 then o else d:Nat):Int)]) (beV (s.data.extract 0 (i+1)).toList*256^(32-(i+1)))):=by
    refine Four.mk ?_ ?_ ?_ ?_ ?_
    ·split;exact g;exact m.2.1
    ·split;exact g;exact m.2.2.1
    ·split;exact g;exact m.2.2.2.1
    ·split;exact g;exact m.2.2.2.2
    ·rw[F,m.1,JU s i l,I,show 32-(i+1)=k by omega,WE,Nat.pow_succ,VV,Ut (256^k) 256]
   obtain⟨y,G⟩:∃y,B*2^(8*(k%8))=y:=⟨_,rfl⟩
   rw[G]at hor;obtain⟨v,hv⟩:∃v,wd a b c d (k/8)=v:=⟨_,rfl⟩
   rw[hv]at hor H;obtain⟨q,M⟩:∃q,k/8=q:=⟨_,rfl⟩
   obtain⟨r,hr⟩:∃r,k%8=r:=⟨_,rfl⟩
   obtain⟨t,S⟩:∃t,8*r=t:=⟨_,rfl⟩
   have C:q<4:=oM;have N:=λ(v:TC)=>f.tail.set (j:=A) (i:=q) O.out (by simp only[U0,Ud,or_false];rintro x rfl;exact D) v
   rw[M]at H u;have L:Uv.wrap ((B:Int)*2^t)=(y:Int):=by
    rw[<-S,<-hr,<-G,V0,WC];have:=wrapN (B*2^(8*(k%8))) oM;rw[V0,WC]at this;exact this
   have Q:=f.head.at4.setq q o C;have K:=f.head.lt;have T:=f.head.f;go_wp2;go_region
   go_wp2;go_roundg (gk-1)
   case measure=>omega
   case rel =>
    refine⟨i+1,_,_,_,_,oM,rfl,?_,u⟩;exact((N _).cons Q.blk).drew
  ·have l:i=32:=oM;subst l;have n:s.data.extract 0 32=s.data:=by
    have E:=R;rw[<-E];exact Array.extract_size
   have z:=J.out;rw[Yg,Nat.pow_zero,Wq,n]at z;have m:=mk1 (z);obtain⟨F,E,G,H,N⟩:=f.head.at4;obtain⟨C,u,I,p,L⟩:=f.tail.head.at4;have K:=f.head.lt;have M:=f.tail.head.lt;go_wp2;have g:=f.tail.head.at4.self4 a b c d;unfold set4 at g;refine TM (v:=?v) ?hr rfl ?hR
   case hr=>simp[results,Tryz.results95,go_sem,g.c0,g.c1,g.c2,g.c3];rfl
   exact⟨_,rfl,aF f.bl (TG _) _ _ _ _,m.out⟩
theorem Pj(w:TA)(p0 p1 g j k f i e a b c d p q r s:Nat):
 Kept w w.heap.size [⟨w.heap.size,0,p0,p1,g,j⟩,⟨w.heap.size,4,k,f,i,e⟩,⟨w.heap.size+1,0,a,b,c,d⟩,⟨w.heap.size+1+1,0,p,q,r,s⟩,⟨w.heap.size+1+1+1,0,0,0,0,0⟩]
  ((((w.alloc (.cells #[uZ p0,uZ p1,uZ g,uZ j,uZ k,uZ f,uZ i,uZ e] 112)).alloc (.cells #[uZ a,uZ b,uZ c,uZ d] 68)).alloc (.cells #[uZ p,uZ q,uZ r,uZ s] 68)).alloc (.cells #[uZ 0,uZ 0,uZ 0,uZ 0] 68)):=by
 have F:=(((At8.made w 112 p0 p1 g j k f i e rfl).alloc (.cells #[uZ a,uZ b,uZ c,uZ d] 68)).alloc (.cells #[uZ p,uZ q,uZ r,uZ s] 68)).alloc (.cells #[uZ 0,uZ 0,uZ 0,uZ 0] 68);refine(((((Kept.mk1 (hZ w _ _ _ _) (hZ w _ _ _ _).size).cons ?_).cons ?_).cons ?_).cons ?_).cons ?_
 ·exact(At4.made _ 68 0 0 0 0 (by simp)).blk
 ·exact((At4.made _ 68 p q r s (by simp)).alloc _).blk
 ·exact(((At4.made _ 68 a b c d (by simp)).alloc _).alloc _).blk
 ·exact⟨F.c4,F.c5,F.c6,F.c7,F.fz⟩
 ·exact⟨F.c0,F.c1,F.c2,F.c3,F.fz⟩
theorem Dy(w:TA)(p0 p1 g j k f i e a b c d:Nat):
 Kept w w.heap.size [⟨w.heap.size,0,p0,p1,g,j⟩,⟨w.heap.size,4,k,f,i,e⟩,⟨w.heap.size+1,0,a,b,c,d⟩,⟨w.heap.size+1+1,0,0,0,0,0⟩]
  (((w.alloc (.cells #[uZ p0,uZ p1,uZ g,uZ j,uZ k,uZ f,uZ i,uZ e] 112)).alloc (.cells #[uZ a,uZ b,uZ c,uZ d] 68)).alloc (.cells #[uZ 0,uZ 0,uZ 0,uZ 0] 68)):=by
 have F:=((At8.made w 112 p0 p1 g j k f i e rfl).alloc (.cells #[uZ a,uZ b,uZ c,uZ d] 68)).alloc (.cells #[uZ 0,uZ 0,uZ 0,uZ 0] 68);refine((((Kept.mk1 (below3 w _ _ _) (below3 w _ _ _).size).cons ?_).cons ?_).cons ?_).cons ?_
 ·exact(At4.made _ 68 0 0 0 0 (by simp)).blk
 ·exact((At4.made _ 68 a b c d (by simp)).alloc _).blk
 ·exact⟨F.c4,F.c5,F.c6,F.c7,F.fz⟩
 ·exact⟨F.c0,F.c1,F.c2,F.c3,F.fz⟩
theorem Pk(w:TA)(p0 p1 d f k c e b:Nat):
 Kept w w.heap.size [⟨w.heap.size,0,p0,p1,d,f⟩,⟨w.heap.size,4,k,c,e,b⟩,⟨w.heap.size+1,0,0,0,0,0⟩] ((w.alloc (.cells #[uZ p0,uZ p1,uZ d,uZ f,uZ k,uZ c,uZ e,uZ b] 112)).alloc (.cells #[uZ 0,uZ 0,uZ 0,uZ 0] 68)):=by
 have F:=(At8.made w 112 p0 p1 d f k c e b rfl).alloc (.cells #[uZ 0,uZ 0,uZ 0,uZ 0] 68);refine(((Kept.mk1 (below2 w _ _) (below2 w _ _).size).cons ?_).cons ?_).cons ?_
 ·exact(At4.made _ 68 0 0 0 0 (by simp)).blk
 ·exact⟨F.c4,F.c5,F.c6,F.c7,F.fz⟩
 ·exact⟨F.c0,F.c1,F.c2,F.c3,F.fz⟩
theorem mU(p0 p1 y r l u q z P:Nat)(x:ByteArray)(hR:RefP p0 p1 y r l u q z P)(w:TA):
 TW prog 50 #[.agg #[uZ p0,uZ p1,uZ y,uZ r,uZ l,uZ u,uZ q,uZ z],.string x] w (rZ w λe w'=>∃(a b c d:Nat) (ok:Bool),e=.tuple #[.agg #[uZ a,uZ b,uZ c,uZ d],.bool ok]/\(ok=true->NM P x.data/\Four (.agg #[uZ a,uZ b,uZ c,uZ d]) (beV x.data.toList))/\(ok=false->¬NM P x.data)/\(x.size=32->Four (.agg #[uZ a,uZ b,uZ c,uZ d]) (beV x.data.toList))/\(¬x.size=32->a=0/\b=0/\c=0/\d=0)):=by
 have g:=mk1 (hR);by_cases o:x.size=32
 ·have p:=mk1 (o);have m:(x.size:Int)=32:=oM;go_enter func50,ntmps50;go_wp2_with fail
  have f:=Pk w p0 p1 y r l u q z;refine(EK x p.out _).mono ?_;rintro e C ⟨v,rfl,t,A⟩;obtain⟨a,b,c,d,rfl,ha,X,S,hd,W⟩:=id A;have s:=mk1 (A);replace f:=f.call t;obtain⟨M,R,L,O,Z⟩:=f.head.at4;have E:=f.head.lt;have T:=Vl E;go_wp2_with fail
  refine(Da _ _ _ _ s.out (Four.mk g.hp0 g.hp1 g.hp2 g.hp3 g.eP) _).mono ?_;rintro e w2 ⟨v,rfl,n,rfl⟩;have k:=((f.alloc (.cells #[uZ a,uZ b,uZ c,uZ d] 68)).cons (At4.made C 68 a b c d rfl).blk).call n;have V:=Vl f.tail.tail.head.lt;obtain⟨D,Q,H,I,U⟩:=k.head.at4;obtain⟨N,J,K,F,Y⟩:=k.tail.tail.tail.head.at4;have z5:=k.head.lt;have z1:=k.tail.tail.tail.head.lt;obtain⟨ok,i⟩:∃ok,decide (beV x.data.toList<P)=ok:=⟨_,rfl⟩
  rw[i];have B:=mk1 (i);go_wp2;have j:=k.tail.tail.tail.head.at4.self4 a b c d;unfold set4 at j;refine TM (v:=?v) ?hr rfl ?hR
  case hr=>simp[results,Tryz.results50,go_sem,j.c0,j.c1,j.c2,j.c3];rfl
  refine⟨_,rfl,aF k.bl (Nat.le_succ _) _ _ _ _,a,b,c,d,ok,rfl,λh=>⟨⟨p.out,?_⟩,s.out⟩,λh G=>?_,λ_=>s.out,λh=>absurd p.out h⟩
  ·exact of_decide_eq_true (B.trans h)
  ·have:=B.out;rw[h]at this;exact of_decide_eq_false this G.2
 ·have m:¬(x.size:Int)=32:=oM;go_enter func50,ntmps50;go_wp2;refine TM (v:=?v2) ?hr2 rfl ?hR2
  case hr2=>simp[results,Tryz.results50,go_sem];rfl
  exact⟨_,rfl,below2 _ _ _,0,0,0,0,false,rfl,λh=>XQ h,λ_ h=>o h.1,λh=>absurd h o,λ_=>⟨rfl,rfl,rfl,rfl⟩⟩
theorem lU(n:Nat)(_:n<18446744073709551616)(w:TA):TW prog 102 #[uZ n] w (rZ w λe w'=>e=.agg #[uZ n,uZ 0,uZ 0,uZ 0]):=by
 go_enter func102,ntmps102;go_wp2;refine TM (v:=?v) ?hr rfl ?hR
 case hr=>simp[results,Tryz.results102,go_sem];rfl
 exact⟨_,rfl,aD _ _,rfl⟩
theorem qP(x:TC)(m i:Nat)(u:Four x m)(s:i<256)(w:TA):TW prog 61 #[x,iZ i] w (rZ w λe w'=>∃t:Nat,e=uZ t/\t=m/2^i%2):=by
 obtain⟨a,b,c,d,rfl,p,n,l,hd,y⟩:=id u;have q:=(At4.made w 68 a b c d rfl).wd (i/64) oM;have f:wd a b c d (i/64)<18446744073709551616:=Hd _ p n l hd;have k:wd a b c d (i/64)/2^(i%64)%2=m/2^i%2:=by rw[y];exact Cx i s p n l hd
 have B:(i:Int).tdiv 64=((i/64:Nat):Int):=by rw[Int.tdiv_eq_ediv_of_nonneg oM];omega
 have A:(i:Int).tmod 64=((i%64:Nat):Int):=by rw[Int.tmod_eq_emod_of_nonneg oM];omega
 have z:(i/64:Nat)<4:=oM;generalize wd a b c d (i/64)=v at q f k;have j:v/2^(i%64)<18446744073709551616:=Nat.lt_of_le_of_lt (Nat.div_le_self _ _) f;have g:bits .and .u64 ((v:Int)/2^(i%64)) 1=((m/2^i%2:Nat):Int):=by
  have:=and_one (v/2^(i%64)) j;rw[k]at this;rw[<-this,Int.natCast_ediv,WC];rfl
 obtain⟨t,o⟩:∃t,m/2^i%2=t:=⟨_,rfl⟩
 rw[o]at g;have r:=mk1 (o.symm);go_enter func61,ntmps61
 go_upto_region 1 with fail
 have zx:w.heap.size<(w.alloc (.cells #[uZ a,uZ b,uZ c,uZ d] 68)).heap.size:=by simp
 have BL:=aD w (.cells #[uZ a,uZ b,uZ c,uZ d] 68);go_wp2;go_ret;exact⟨_,rfl,BL,t,rfl,r.out⟩
theorem Dp(a b:Nat)(c:a<18446744073709551616)(k:b<18446744073709551616):∃x:Nat,bits .or .u64 (a:Int) (b:Int)=(x:Int)/\(x=0↔a=0/\b=0)/\x<18446744073709551616:=
 ⟨a ||| b,XW a b c k,Nat.or_eq_zero_iff,yAN (n:=64) c k⟩
theorem nY(x:TC)(m:Nat)(g:Four x m)(w:TA):TW prog 56 #[x] w (rZ w λe w'=>e=.bool (decide (m=0))):=by
 obtain⟨a,b,c,d,rfl,l,f,k,hd,p⟩:=id g;obtain⟨y,q,j,l1⟩:=Dp a b l f;obtain⟨z,s,o,l2⟩:=Dp y c l1 k;obtain⟨t,r,n,l3⟩:=Dp z d l2 hd;have i:decide (m=0)=decide (t=0):=by
  rw[decide_eq_decide,n,o,j,p];unfold val;omega
 rw[i];go_enter func56,ntmps56;go_wp2;go_ret;exact⟨_,rfl,aD _ _,by by_cases h:t=0<;>simp[h]⟩
theorem neg_val{P m s k:Nat}(f:m<P)(_:P<top)(c:¬m=0)(d:s<top)(e:k<=1)(h:s+m=P+top*k):s=(P-m)%P:=by
 have:k=0\/k=1:=oM;rw[Uf oM];rcases this with b|b<;>rw[b]at h<;>omega
theorem Bt(p0 p1 p2 p3 c0 c1 c2 c3 P : Nat)(x : TC)(m : Nat)(hR : RefP p0 p1 p2 p3 c0 c1 c2 c3 P)(hx : Four x m)(hm : m < P)(w : TA):
    TW prog 103 #[.agg #[uZ (p0 : Int), uZ (p1 : Int), uZ (p2 : Int), uZ (p3 : Int), uZ (c0 : Int), uZ (c1 : Int), uZ (c2 : Int), uZ (c3 : Int)], x] w (rZ w λe w'=>Four e ((P - m) % P)) := by
  have HR : Hid (RefP p0 p1 p2 p3 c0 c1 c2 c3 P) := hR;have HX : Hid (Four x m) := hx;have HM : Hid (m < P) := hm;obtain⟨a, b, c, d, rfl, ha, hb, hc, hd, em⟩ := id hx;clear hR hx hm em ha hb hc hd;go_enter func103, ntmps103;go_wp2_with fail
  have KP := Dy w p0 p1 p2 p3 c0 c1 c2 c3 a b c d;generalize U2 _ _ = W0 at KP⊢;generalize h2 : w.heap.size + 1 + 1 = k2 at KP⊢;generalize h1 : w.heap.size + 1 = k1 at KP⊢;have Q2 : Hid (w.heap.size <= k2) := by unfold Hid; omega
  generalize h0 : w.heap.size = k0 at KP Q2⊢;have H0 := mk1 (h0);refine(nY _ _ HX.out _).mono ?_;rintro e w1 ⟨v, rfl, hb1, rfl⟩;replace KP := KP.call hb1;obtain⟨xc0, xc1, xc2, xc3, xf⟩ := KP.tail.tail.head.at4;have zx := KP.tail.tail.head.lt;by_cases hz : m = 0
  · have hd := decide_eq_true hz
    rw [hd];have HZ := mk1 (hz);obtain⟨rc0, rc1, rc2, rc3, rf⟩ := KP.tail.tail.tail.head.at4;have zr := KP.tail.tail.tail.head.lt;go_wp2;have RF := KP.tail.tail.tail.head.at4.self4 a b c d;unfold set4 at RF;refine TM (v := ?v) ?hr rfl ?hR
    case hr => simp [results, Tryz.results103, go_sem, RF.c0, RF.c1, RF.c2, RF.c3]; rfl
    refine⟨_, rfl, by rw [H0.out]; exact aF KP.bl Q2.out _ _ _ _, ?_⟩;have h1 := HX.out;rw [HZ.out]at h1⊢;rw [Nat.sub_zero, Nat.mod_self];exact h1
  · have hd := decide_eq_false hz
    rw [hd];have HZ := mk1 (hz);obtain⟨fc0, fc1, fc2, fc3, ff⟩ := KP.head.at4;have zf := KP.head.lt;go_wp2_with fail
    refine(nW _ _ _ _ (Four.mk HR.hp0 HR.hp1 HR.hp2 HR.hp3 HR.eP) HX.out _).mono ?_;rintro e w2 ⟨v, rfl, hb2, v2, t, k, rfl, hF, hk, he⟩;have HF : Hid (Four v2 ((P - m) % P)) := by
      have h1 := neg_val HM.out (by have h3 := HR.hP; have h4 := HR.hP2; have h5 := HM.out; have h6 : 0 < val c0 c1 c2 c3 ∨ val c0 c1 c2 c3 = 0 := oM
                                    rcases h6 with h6 | h6
                                    · omega
                                    · have h7 := Four.mk HR.hp0 HR.hp1 HR.hp2 HR.hp3 HR.eP
                                      exact h7.lt) HZ.out hF.lt hk he
      rw [<-h1]; exact hF
    obtain⟨ra, rb, rc, rd, rfl, -⟩ := id hF;replace KP := KP.call hb2;obtain⟨rc0, rc1, rc2, rc3, rf⟩ := KP.tail.tail.tail.head.at4;have zr := KP.tail.tail.tail.head.lt;go_wp2;have RF := (KP.tail.tail.tail.head.at4.self4 ra rb rc rd).alloc (.cells #[uZ (ra : Int), uZ (rb : Int), uZ (rc : Int), uZ (rd : Int)] 68);unfold set4 at RF;refine TM (v := ?v2) ?hr2 rfl ?hR2
    case hr2 => simp [results, Tryz.results103, go_sem, RF.c0, RF.c1, RF.c2, RF.c3]; rfl
    refine⟨_, rfl, ?_, HF.out⟩;rw [H0.out];exact(aF KP.bl Q2.out _ _ _ _).alloc (by simpa [set4]using KP.le) _
theorem uFq:(prog.underlying 112).map (·.isRow)=some true:=kR
theorem iFq:(prog.info? 112).map (·.size)=some 8:=kR
def rl1:List TC:=[uZ 13822214165235122497,uZ 13451932020343611451,uZ 18446744073709551614,uZ 18446744073709551615,uZ 4624529908474429119,uZ 4994812053365940164,uZ 1,uZ 0]
def rv1:TC:=.agg rl1.toArray
theorem IC:Gives 94 #[iZ 1] rv1:=λw=>(Ov w).mono (by rintro e w' ⟨v,rfl,k,rfl⟩;exact⟨_,rfl,k,rfl⟩)
theorem Kf:Gives 49 #[] rv1:=by
 intro w;go_enter func49,ntmps49;refine RG.M.enter [] 2 kR ?_;intro a0 c;repeat refine TI ?_
 refine c.T [.m 0] [(0,RG.z 8)] [] [RG.z 8] [0] ⟨RG.mk 0 112,yB5⟩ ?_;intro g f e b;repeat refine TI ?_
 refine b.T [.c rv1,.u 0] [] [(0,1,rl1)] [rl1] [0] ⟨RG.cl IC,RG.pt iFq,yB5⟩ ?_;intro d i k;refine UZ ?_;refine TM (v:=rv1) (RG.aC k.st 0 112 rfl 0 _ rfl (k.at (s:=(.p 0 0))) uFq iFq) k.sl.defers ?_;exact⟨_,rfl,k.st.bel.below,rfl⟩
def nuV(k:Bs):Nat:=if k.size=32 then beV k.toList else 0
theorem Ou{N:Nat}(n:RefP 13822214165235122497 13451932020343611451 18446744073709551614 18446744073709551615 4624529908474429119 4994812053365940164 1 0 N)(s:ByteArray):Gives 50 #[rv1,.string s] (.tuple #[nv (nuV s.data),.bool (rq N s.data).isSome]):=λw =>
 (mU _ _ _ _ _ _ _ _ N s n w).mono (by
  rintro e w' ⟨v,rfl,j,a,b,c,d,ok,rfl,m,i,l,g⟩;refine⟨_,rfl,j,?_⟩;unfold nuV rq;cases ok with
  | true =>
   obtain⟨k,f⟩:=m rfl;rw[yB3 (show s.data.size=32/\beV s.data.toList<N from k),yB3 (show s.data.size=32 from k.1),f.nv];rfl
  | false =>
   rw[yB4 (show ¬(s.data.size=32/\beV s.data.toList<N) from i rfl)];by_cases k:s.data.size=32
   ·rw[yB3 k,(l k).nv];rfl
   ·rw[yB4 k];obtain⟨rfl,rfl,rfl,rfl⟩:=g k;rfl)
theorem QC{N:Nat}{k:Bs}{n:Nat}(h:rq N k=some n):n=nuV k:=by
 unfold rq at h;split at h
 ·rename_i hc
  unfold nuV;rw[yB3 hc.1];exact(Uc.inj h).symm
 ·cases h
theorem Db{p0 p1 g d b f c i P:Nat}{x y:TC}{m n:Nat}(k:RefP p0 p1 g d b f c i P)(j:Four x m)(l:Four y n)(w:TA):
 TW prog 60 #[.agg #[uZ p0,uZ p1,uZ g,uZ d,uZ b,uZ f,uZ c,uZ i],x,y] w (rZ w λe w'=>Four e ((m+n)%P)):=
 IE p0 p1 g d b f c i P x y m n k.hp0 k.hp1 k.hp2 k.hp3 k.hc0 k.hc1 k.hc2 k.hc3 k.eP k.hP k.hP2 j l w
theorem rW{p0 p1 g d b f c i P:Nat}{x y:TC}{m n:Nat}(k:RefP p0 p1 g d b f c i P)(j:Four x m)(l:Four y n)(w:TA):
 TW prog 55 #[.agg #[uZ p0,uZ p1,uZ g,uZ d,uZ b,uZ f,uZ c,uZ i],x,y] w (rZ w λe w'=>Four e (m*n%P)):=
 Iz p0 p1 g d b f c i P x y m n k.hp0 k.hp1 k.hp2 k.hp3 k.hc0 k.hc1 k.hc2 k.hc3 k.eP k.hP k.hP2 j l w
theorem KV{P m n:Nat}(k:n<P):(m+(P-n)%P)%P=(m+P-n)%P:=by
 rw[XG,Nat.mod_mod,<-XG,show m+P-n=m+(P-n) by omega]
theorem Iy(p0 p1 l o i j t g P:Nat)(x y:TC)(m n:Nat)(hR:RefP p0 p1 l o i j t g P)(T:Four x m)(S:Four y n)(hn:n<P)(w:TA):
 TW prog 59 #[.agg #[.int .u64 p0,.int .u64 p1,.int .u64 l,.int .u64 o,.int .u64 i,.int .u64 j,.int .u64 t,.int .u64 g],x,y] w (Ret λe w'=>Below w.heap.size w w'/\Four e ((m+P-n)%P)):=by
 obtain⟨a,b,c,d,rfl,ha,hb,hc,hd,em⟩:=id T;obtain⟨p,q,r,s,rfl,hp,hq,hr,hs,en⟩:=id S;have HX:Hid (Four _ _):=T;have HY:Hid (Four _ _):=S;have V:Hid (RefP p0 p1 l o i j t g P):=hR;have Z:Hid (n<P):=hn;clear em en T S ha hb hc hd hp hq hr hs hR hn;go_enter func59,ntmps59;go_wp2_with fail
 have A:=((((At8.made w 112 p0 p1 l o i j t g rfl).alloc (.cells #[.int .u64 a,.int .u64 b,.int .u64 c,.int .u64 d] 68)).alloc (.cells #[.int .u64 p,.int .u64 q,.int .u64 r,.int .u64 s] 68)).alloc (.cells #[.int .u64 0,.int .u64 0,.int .u64 0,.int .u64 0] 68))
 have X:=(((At4.made (w.alloc (.cells #[.int .u64 p0,.int .u64 p1,.int .u64 l,.int .u64 o,.int .u64 i,.int .u64 j,.int .u64 t,.int .u64 g] 112)) 68 a b c d (TQ _ _)).alloc (.cells #[.int .u64 p,.int .u64 q,.int .u64 r,.int .u64 s] 68)).alloc (.cells #[.int .u64 0,.int .u64 0,.int .u64 0,.int .u64 0] 68))
 have Y:=((At4.made ((w.alloc (.cells #[.int .u64 p0,.int .u64 p1,.int .u64 l,.int .u64 o,.int .u64 i,.int .u64 j,.int .u64 t,.int .u64 g] 112)).alloc (.cells #[.int .u64 a,.int .u64 b,.int .u64 c,.int .u64 d] 68)) 68 p q r s (k:=w.heap.size+1+1) (by simp)).alloc (.cells #[.int .u64 0,.int .u64 0,.int .u64 0,.int .u64 0] 68))
 have T3:=At4.made (((w.alloc (.cells #[.int .u64 p0,.int .u64 p1,.int .u64 l,.int .u64 o,.int .u64 i,.int .u64 j,.int .u64 t,.int .u64 g] 112)).alloc (.cells #[.int .u64 a,.int .u64 b,.int .u64 c,.int .u64 d] 68)).alloc (.cells #[.int .u64 p,.int .u64 q,.int .u64 r,.int .u64 s] 68)) 68 0 0 0 0 (k:=w.heap.size+1+1+1) (by simp);have f:=((((Kept.mk1 (hZ w (.cells #[.int .u64 p0,.int .u64 p1,.int .u64 l,.int .u64 o,.int .u64 i,.int .u64 j,.int .u64 t,.int .u64 g] 112) (.cells #[.int .u64 a,.int .u64 b,.int .u64 c,.int .u64 d] 68) (.cells #[.int .u64 p,.int .u64 q,.int .u64 r,.int .u64 s] 68) (.cells #[.int .u64 0,.int .u64 0,.int .u64 0,.int .u64 0] 68)) (hZ w (.cells #[.int .u64 p0,.int .u64 p1,.int .u64 l,.int .u64 o,.int .u64 i,.int .u64 j,.int .u64 t,.int .u64 g] 112) (.cells #[.int .u64 a,.int .u64 b,.int .u64 c,.int .u64 d] 68) (.cells #[.int .u64 p,.int .u64 q,.int .u64 r,.int .u64 s] 68) (.cells #[.int .u64 0,.int .u64 0,.int .u64 0,.int .u64 0] 68)).size).cons Y.blk).cons X.blk).cons (x:=⟨w.heap.size,4,i,j,t,g⟩) ⟨A.c4,A.c5,A.c6,A.c7,A.fz⟩).cons (x:=⟨w.heap.size,0,p0,p1,l,o⟩) ⟨A.c0,A.c1,A.c2,A.c3,A.fz⟩;simp only[Ux]at T3;clear A X Y;generalize U2 _ _=W0 at f T3⊢;generalize h3:w.heap.size+1+1+1=W at T3⊢;generalize h2:w.heap.size+1+1=F at f⊢;generalize h1:w.heap.size+1=G at f⊢;have O:Hid (w.heap.size<=W):=by unfold Hid;omega
 generalize h0:w.heap.size=u at f O⊢;have H0:=mk1 (h0);have J:∀x∈([⟨u,0,p0,p1,l,o⟩,⟨u,4,i,j,t,g⟩,⟨G,0,a,b,c,d⟩,⟨F,0,p,q,r,s⟩]:List Blk),W≠x.k:=by simp only[U0,Ud,or_false];rintro x (rfl|rfl|rfl|rfl)<;>simp only<;>omega
 obtain⟨I,K,L,N,tf⟩:=id T3;have zt:=T3.lt;go_region_held3 (λw'=>w'.cell? ⟨u,0,none⟩=some (.int .u64 p0)/\w'.cell? ⟨u,1,none⟩=some (.int .u64 p1)/\w'.cell? ⟨u,2,none⟩=some (.int .u64 l)/\w'.cell? ⟨u,3,none⟩=some (.int .u64 o)/\w'.cell? ⟨u,4,none⟩=some (.int .u64 i)/\w'.cell? ⟨u,5,none⟩=some (.int .u64 j)/\w'.cell? ⟨u,6,none⟩=some (.int .u64 t)/\w'.cell? ⟨u,7,none⟩=some (.int .u64 g)/\w'.cell? ⟨G,0,none⟩=some (.int .u64 a)/\w'.cell? ⟨G,1,none⟩=some (.int .u64 b)/\w'.cell? ⟨G,2,none⟩=some (.int .u64 c)/\w'.cell? ⟨G,3,none⟩=some (.int .u64 d)/\w'.cell? ⟨F,0,none⟩=some (.int .u64 p)/\w'.cell? ⟨F,1,none⟩=some (.int .u64 q)/\w'.cell? ⟨F,2,none⟩=some (.int .u64 r)/\w'.cell? ⟨F,3,none⟩=some (.int .u64 s)/\Kept w u [⟨u,0,p0,p1,l,o⟩,⟨u,4,i,j,t,g⟩,⟨G,0,a,b,c,d⟩,⟨F,0,p,q,r,s⟩] w') (first|(with_reducible exact fD f)|(with_reducible exact fD f.drew)|(with_reducible exact fD (f.set4' O.out J _ _ _ _))|(with_reducible exact fD (f.set4' O.out J _ _ _ _).drew)|fail) (first|(go_at_call 103;refine(Bt p0 p1 l o i j t g P _ _ V.out HY.out Z.out _).mono ?_;rintro e w1 ⟨v,rfl,E,C⟩;obtain⟨x0,x1,x2,x3,rfl,-⟩:=id C;have Q:Hid (Four _ _):=C;clear C;have z:=f.drew.call E;have M:=T3.drew.call E;clear f T3 E;have f:=z;have T3:=M;clear z M;obtain⟨I,K,L,N,tf⟩:=id T3;have zt:=T3.lt)|(go_at_call 60;refine(Db V.out HX.out Q.out _).mono ?_;rintro e w2 ⟨v,rfl,D,B⟩;rw[KV Z.out]at B;obtain⟨a',b',c',d',rfl,h4,h6,h7,h5,U⟩:=id B;clear U;have R:Hid (Four _ _):=B;clear B;have z:=f.call D;have M:=T3.call D;clear f T3 D;have f:=z;have T3:=M;clear z M;obtain⟨I,K,L,N,tf⟩:=id T3;have zt:=T3.lt))
 go_wp2;have H:=T3.self4 a' b' c' d';unfold set4 at H;refine TM (v:=?v) ?hr rfl ?hR
 case hr=>simp[results,Tryz.results59,go_sem,H.c0,H.c1,H.c2,H.c3];rfl
 refine⟨_,rfl,?_,R.out⟩;rw[H0.out];exact aF f.bl O.out _ _ _ _
end
end Go.Proofs.YtjnchldodncnbaaGreat
