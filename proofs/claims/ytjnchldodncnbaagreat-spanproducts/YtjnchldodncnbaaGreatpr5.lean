import Derived.Deep.RegionHeld3
import Derived.Lib.LazyBuf
import Derived.RangeFuncNested
import Derived.RangeFuncBound
import Derived.RangeFuncCalls
import Derived.RangeFuncLeaves
import Derived.Shelf.Abstract
import Derived.Shelf.RegionOpen
import Derived.WalkKit
import Derived.OwnWalkIn
import Derived.TacticsInMore
import Derived.LoopNIn
import Derived.LoopIn
import Derived.Deep.RegionWith
import Derived.Deep.LoopGhost
import Derived.Deep.CutRange
import Derived.Deep.DeepCutAuto
import Derived.Deep.OwnRows
import Derived.Great.BuildSlice
import Derived.Test.YtjnchldodncnbaaGreatpr4
set_option linter.unusedVariables false
set_option linter.constructorNameAsVariable false
set_option linter.unusedSimpArgs false
set_option maxRecDepth 1000000
set_option maxHeartbeats 4000000
namespace Go.Proofs.YtjnchldodncnbaaGreat
open _root_.Array renaming ext->Z5,extract_size->yAs,getElem_extract->yAb,getElem_replicate->U9,length_toList->TR,map_id->yBt,replicate->TP,size->ZQ,size_append->UA,size_extract->VJ,size_replicate->TY,toList_append->YU
open _root_.ByteArray renaming data_append->Yl,empty->YZ,mk->XE
open _root_.Fin renaming ext->Yx,ext_iff->yA1,ofNat->Vy,val_mul->Xq
open _root_.Go renaming Calls->TW,Oper->UI,Operand->Yj,Program->Vd,TypeId->Uw,Value->TC,World->TA,bodyPost_ret->TM,execOp->UD,run_loadVar_mid->Z9,run_make_row'->XO,undef->VU,wpList_load_mid->UL,wpList_plain->Xw,wp_block->V3,wp_cond_false->UG,wp_cond_true->UC,wp_ret->UZ,wp_seq->TI,wp_skip->Vg
open _root_.Go.Calls renaming mono->yBK
open _root_.Go.Instr renaming box->U6,build->YP,buildSlice->We,findAsking->yAJ,findKey->yBl,makeSlice->VI,sureAddr->Yk
open _root_.Go.IntKind renaming i64->UR,u64->Uv
open _root_.Go.IntWalk renaming i64_in->UO
open _root_.Go.Lib renaming wpList_append_run->Vi
open _root_.Go.Oper renaming about->yBR,semAt_eq->yBr,wp->Vp
open _root_.Go.OwnFrom renaming and->yBk
open _root_.Go.Result renaming andThen_ok->UE
open _root_.Go.RowKit.Below renaming refl->TX
open _root_.Go.Sem renaming run_bind->Ue,run_pure->VA
open _root_.Go.Value renaming agg->Um,int->UV,string->yBp
open _root_.Go.World renaming alloc->U2,block_lt_of_cell?->Vt,cell?_of_block->Ua,frozen?_of_block->UY,size_alloc->TQ,size_setCell->yAq,there_setCells->VM
open _root_.Int renaming tmod_eq_emod_of_nonneg->Ys
open _root_.List renaming cons_append->YG,drop_succ_cons->yAp,drop_zero->yBi,getElem?_eq_none->VW,getElem?_toArray->XJ,length_append->TT,length_cons->Uy,length_map->Uk,length_replicate->VF,mem_cons->U0,mem_cons_of_mem->Uq,mem_cons_self->Uz,mem_map->UM,mem_range->U4,nil_append->yA5,not_mem_nil->Ud,range->US,size_toArray->UH,take_succ_cons->yAn,take_zero->YX
open _root_.Nat renaming add_mod->XG,add_mul->WE,add_sub_cancel_left->WM,add_zero->VK,le_of_lt->V6,le_refl->TG,le_trans->TU,lt_of_lt_of_le->TF,lt_succ_self->Xs,mod_eq_of_lt->Uf,mod_lt->Vm,mod_mod->yAO,mul_comm->Ut,mul_mod->VT,mul_zero->XZ,ne_of_gt->U3,ne_of_lt->Vl,pos_of_neZero->XU,pow_two->yBN,sub_zero->YD,succ_mul->yBC,zero_add->TO
open _root_.Option renaming map_eq_some_iff->TJ,map_some->XK,some->Uc
open _root_.Or renaming inl->Ub,inr->T8
open _root_.UInt8 renaming ofNat->TV,toNat_inj->yAL
open Go.Proofs.Tryz
section
open Go.RowKit Go.Sort Go.Deep
variable {P:Nat}[NeZero P]{N:Nat}
theorem cell_below{w c:TA}{k j:Nat}{v:TC}(h:w.cell? ⟨k,j,none⟩=some v)(d:Below w.heap.size w c)(f:k<w.heap.size):c.cell? ⟨k,j,none⟩=some v:=by
 have e:w.rangeAt k j [v]:=λi u b=>by
  cases i with
  | zero =>
   obtain rfl:v=u:=Uc.inj b;exact h
  | succ i=>exact absurd b (by simp)
 exact RG.range_below e d f 0 v rfl
theorem ArgsPts.below{w c:TA}{q:Option Addr}{n:Nat}{L:Nat->Bs}(h:ArgsPts w q n L)(b:Below w.heap.size w c):ArgsPts c q n L:=λe=>by
 obtain⟨g,i,k,d⟩:=h e;refine⟨g,i,TF k b.size,λj f=>?_⟩;obtain⟨v,hv,l⟩:=d j f;exact⟨v,cell_below hv b k,l.below b⟩
def SumR(P:Nat)[NeZero P](N:Nat)(w:TA)(n a:Nat)(L M:Nat->Bs)(e:TC)(w':TA):Prop:=
 (n≠a/\MY 2 e)\/(n=a/\512<n/\MY 1 e)\/(n=a/\n<=512/\(((∃j,j<n/\rq N (L j)=none)/\MY 3 e) \/
  ∃ns:Nat->Nat,(∀j,j<n->rq N (L j)=some (ns j))/\(((∃j,j<n/\rd P (M j)=none)/\MY 4 e) \/
   ∃xs ys:Nat->Fin P,(∀j,j<n->rd P (M j)=some (xs j,ys j))/\Kk w (yC (ptP (kS ns xs ys n 257)).1 (ptP (kS ns xs ys n 257)).2) e w')))
theorem wX{A:Type}[Inhabited A]{n:Nat}{p:Nat->A->Prop}(h:∀j,j<n->∃a,p j a):∃f:Nat->A,∀j,j<n->p j (f j):=
 ⟨λj=>if k:j<n then(h j k).choose else default,λj k=>by
  show p j (if k:j<n then(h j k).choose else default);rw[dif_pos k];exact(h j k).choose_spec⟩
theorem Ol{N:Nat}(b:N<=top){k:Bs}{m:Nat}(h:rq N k=some m):m<top:=by
 unfold rq at h;split at h
 ·rename_i h1
  obtain rfl:beV k.toList=m:=Uc.inj h;exact TF h1.2 b
 ·exact absurd h (by simp)
theorem PK{N:Nat}(C:Fld P)(hG:Gap 4624529908474429119 4994812053365940164 1 N)(hN:N<=top)(q V:Option Addr)(n cap a p:Nat)(L M:Nat->Bs)(w:TA)(hL:AQ w q n L)(hM:ArgsPts w V a M):
 TW prog 41 #[.slice q n cap,.slice V a p] w (rZ w λe w'=>SumR P N w n a L M e w'):=by
 have HL:=mk1 (hL);have HM:=mk1 (hM);by_cases B:n=a
 ·subst B;by_cases I:512<n
  ·go_enter func41,ntmps41;go_wp2
   go_ret2
   exact⟨_,rfl,TX _ _,T8 (Ub ⟨rfl,I,rfl⟩)⟩
  ·have y:n<=512:=oM;go_enter func41,ntmps41;go_wp2_with fail
   refine(RZ hG n cap y q L w HL.out).mono ?_;rintro e Q ⟨v,rfl,G,⟨k,U,u,rfl,c⟩|⟨r,rfl⟩⟩
   ·obtain⟨ns,E⟩:=wX c;have t:=mk1 (G);have T:Hid (k<Q.heap.size/\∀j,j<n->Q.rangeAt k (4*j) (wn (ns j))):=⟨u,λj f=>(E j f).2⟩
    have HN:Hid (∀j,j<n->rq N (L j)=some (ns j)):=λj f=>(E j f).1
    go_wp2_with fail
    refine(R7 C n p y V M Q (HM.below t.out)).mono ?_;rintro e m ⟨v,rfl,l,⟨K,U,u,rfl,c⟩|⟨r,rfl⟩⟩
    ·obtain⟨b,J⟩:=wX c;have d:=mk1 (t.trans (l.mono t.size));have D:Hid (k<m.heap.size/\∀j,j<n->m.rangeAt k (4*j) (wn (ns j))):=⟨TF T.1 l.size,λj f=>RG.range_below (T.2 j f) l T.1⟩
     have HP:Hid (K<m.heap.size/\∀j,j<n->m.rangeAt K (8*j) (ws (b j).1++ws (b j).2)):=⟨u,λj f=>(J j f).2⟩
     have O:Hid (∀j,j<n->rd P (M j)=some ((b j).1,(b j).2)):=λj f=>(J j f).1
     have H:∀w,TW prog 88 #[pv (ptP (kS ns (λj=>(b j).1) (λj=>(b j).2) n 257)).1 (ptP (kS ns (λj=>(b j).1) (λj=>(b j).2) n 257)).2] w (rZ w λe w'=>sV w (yC (ptP (kS ns (λj=>(b j).1) (λj=>(b j).2) n 257)).1 (ptP (kS ns (λj=>(b j).1) (λj=>(b j).2) n 257)).2) e w'):=Fx C _ _;have hS:TW prog 87 #[.slice (some (aZ k)) n n,.slice (some (aZ K)) n n] m (rZ m λe w'=>e=pv (ptP (kS ns (λj=>(b j).1) (λj=>(b j).2) n 257)).1 (ptP (kS ns (λj=>(b j).1) (λj=>(b j).2) n 257)).2):=by
      refine(NY C n y ns (λj=>(b j).1) (λj=>(b j).2) (λi x=>Ol hN (HN i x)) k K m D.1 HP.1 D.2 HP.2).mono ?_;rintro e w' ⟨v,rfl,o,s,rfl,rfl⟩;exact⟨_,rfl,o,rfl⟩
     generalize hz:ptP (kS ns (λj=>(b j).1) (λj=>(b j).2) n 257)=z at hS H;have HZ:Hid (ptP (kS ns (λj=>(b j).1) (λj=>(b j).2) n 257)=z):=hz;go_wp2_with fail
     refine hS.mono ?_;rintro e w3 ⟨v,rfl,Z,rfl⟩;have x:=mk1 (d.trans (Z.mono d.size));go_wp2_with fail
     refine(H _).mono ?_;rintro e w4 ⟨v,rfl,W,g,o,rfl,X,R,F,S⟩;have Y:=mk1 (x.trans (W.mono x.size));have A:Hid (Kk w (yC z.1 z.2) (.tuple #[.slice (some (aZ g)) 33 o,iZ 0]) w4):=⟨g,o,rfl,X,TU x.size R,F,S⟩
     go_wp2
     go_ret2
     refine⟨_,rfl,Y.out,T8 (T8 ⟨rfl,y,T8 ⟨ns,HN.out,T8 ⟨_,_,O.out,?_⟩⟩⟩)⟩;rw[HZ.out];exact A.out
    ·have d:=mk1 (t.trans (l.mono t.size));have A:=mk1 (r);go_wp2
     go_ret2
     exact⟨_,rfl,d.out,T8 (T8 ⟨rfl,y,T8 ⟨ns,HN.out,Ub ⟨A.out,rfl⟩⟩⟩)⟩
   ·have t:=mk1 (G);have A:=mk1 (r);go_wp2
    go_ret2
    exact⟨_,rfl,t.out,T8 (T8 ⟨rfl,y,Ub ⟨A.out,rfl⟩⟩)⟩
 ·go_enter func41,ntmps41;go_wp2
  go_ret2
  exact⟨_,rfl,TX _ _,Ub ⟨B,rfl⟩⟩
def FZ:Bs:=TP 33 0
theorem N8(r d:Nat):d*d%(r+d)=r*r%(r+d):=by
 have h:d*d+(r+d)*r=r*r+(r+d)*d:=by
  rw[WE,WE,Ut d r];omega
 have k:=congrArg (· % (r+d)) h;simp only[Nat.add_mul_mod_self_left]at k;exact k
theorem Nj{m y:Fin P}(h:rt m=some y):y*y=m:=by
 have k:=Ii h;unfold rt at h;rw[yB3 k]at h;obtain rfl:=Uc.inj h;have c:=XU P;have d:m.val^(P/4+1)%P<P:=Vm _ c;generalize m.val^(P/4+1)%P=r at k d;apply Yx;rw[Xq];show(even P r%P)*(even P r%P)%P=m.val;rw[Uf (E7 c d),<-k];unfold even;split
 ·have b:=N8 r (P-r);rw[show r+(P-r)=P by omega]at b;exact b
 ·rfl
theorem Cw{k:Bs}(g:k.size=33):sU k↔k=FZ:=by
 constructor
 ·intro h;apply Z5
  ·rw[g];rfl
  ·intro i e c;have:=h i (U4.2 oM);rw[getElem!_pos k i e]at this;have d:k[i].toNat=0:=by
    have b:ub k[i]=(k[i].toNat:Int):=rfl;rw[b]at this;omega
   have f:(FZ)[i]=0:=by
    have b:(TP 33 (0:UInt8))[i]'c=0:=U9 _;exact b
   rw[f];exact yAL.1 d
 ·rintro rfl i b;have b:=U4.1 b;unfold FZ;rw[getElem!_pos _ i (by rw[TY];exact b),U9];rfl
theorem IR{x y:Fin P}(h:y*y=x*x*x+7):EC.On (.some (x,y):EC.Pt P):=by
 show y^2=x^3+7
 grobner
theorem OV{x y:Fin P}(h:y*y=x*x*x+7):EC.On (.some (x,0-y):EC.Pt P):=by
 show(0-y)^2=x^3+7
 grobner
def wr:EC.Pt P->Bs
 | none=>FZ
 | some (x,y)=>#[mark y.val]++bx x.val
theorem Fy(C:Fld P){x y:Fin P}{p:EC.Pt P}(h:EC.Pair x y p)(ho:EC.On p):yC x y=wr p:=by
 unfold yC;match p,h,ho with
 | none,h,_=>rw[yB3 (show x=0/\y=0 from h)];rfl
 | some (a,b),h,ho =>
  obtain⟨rfl,rfl⟩:=h;rw[yB4 (λe=>C.cur.y_ne ho e.2)];rfl
def pt(p:Fin P × Fin P):EC.Pt P:=if p.1=0/\p.2=0 then none else some p
theorem LS(C:Fld P){x y:Fin P}{q:EC.Pt P}(h:EC.Pair x y q)(ho:EC.On q):q=pt (x,y):=by
 unfold pt;match q,h,ho with
 | none,h,_=>rw[yB3 (show x=0/\y=0 from h)]
 | some (a,b),h,ho =>
  obtain⟨rfl,rfl⟩:=h;rw[yB4 (λe=>C.cur.y_ne ho e.2)]
theorem QF(C:Fld P){b:Bs}{p:Fin P × Fin P}(h:rd P b=some p):EC.Pair p.1 p.2 (pt p)/\EC.On (pt p):=by
 have key:∃q:EC.Pt P,EC.Pair p.1 p.2 q/\EC.On q:=by
  unfold rd at h;split at h
  ·split at h
   ·obtain rfl:=Uc.inj h;exact⟨none,⟨rfl,rfl⟩,EC.iY⟩
   ·split at h
    ·split at h
     ·obtain⟨y,c,rfl⟩:=TJ.1 h;have k:=Nj c;refine⟨some (rdx P b,if ub b[0]! = 3 then 0-y else y),⟨rfl,rfl⟩,?_⟩;split
      ·exact OV k
      ·exact IR k
     ·cases h
    ·cases h
  ·cases h
 obtain⟨q,c,k⟩:=key;have:=LS C c k;rw[show pt p=q from this.symm];exact⟨c,k⟩
omit [NeZero P] in
theorem bX(p:EC.Pt P):(wr p).size=33:=by
 match p with
 | none=>rfl
 | some (x,y) =>
  show(#[mark y.val]++bx x.val).size=33;rw[UA,gJ];rfl
end
section
variable {P:Nat}[NeZero P]{N:Nat}
theorem Io{a P:Nat}(h:NT.IsP P)(k:P%4=3):(a*a%P)^(P/4+1)%P*((a*a%P)^(P/4+1)%P)%P=a*a%P:=by
 rw[<-VT,<-Nat.pow_add,<-Nat.pow_mod,<-yBN,<-Nat.pow_mul,show 2*(P/4+1+(P/4+1))=P+1 by omega,Nat.pow_succ,VT,h.fermat a,<-VT,yBN]
theorem Lq{a R P:Nat}(h:NT.IsP P)(f:a<P)(g:R<P)(e:R*R%P=a*a%P):R=a\/R+a=P:=by
 have key:∀x y:Nat,x<P->y<P->y<=x->x*x%P=y*y%P->x=y\/x+y=P:=by
  intro x y j l i d;have hd:P ∣ x*x-y*y:=by
   refine Nat.dvd_of_mod_eq_zero ?_;exact Nat.sub_mod_eq_zero_of_mod_eq d
  have hf:x*x-y*y=(x-y)*(x+y):=by
   rw[Ut (x-y),Nat.mul_self_sub_mul_self_eq]
  rw[hf]at hd;rcases h.euclid hd with b|b
  ·left;have:=Nat.eq_zero_of_dvd_of_lt b oM;omega
  ·obtain⟨k,m⟩:=b;have:k=0\/k=1\/2<=k:=oM;rcases this with rfl|rfl|c
   ·left;omega
   ·right;omega
   ·have:=Nat.mul_le_mul_left P c;omega
 rcases Nat.le_total a R with b|b
 ·exact key R a g f b e
 ·rcases key a R f g b e.symm with c|c
  ·left;exact c.symm
  ·right;omega
end
section
open Go.RowKit Go.Sort Go.Deep
theorem zR(x:Nat)(k:x<18446744073709551616):
 w8 (TV (x/72057594037927936)) (TV (x/281474976710656)) (TV (x/1099511627776)) (TV (x/4294967296)) (TV (x/16777216)) (TV (x/65536)) (TV (x/256)) (TV x)=x:=by
 unfold w8;simp only[UInt8.toNat_ofNat'];omega
theorem G6(a b c d:Nat):(be32 a b c d).toList=[TV (d/72057594037927936),TV (d/281474976710656),TV (d/1099511627776),TV (d/4294967296),TV (d/16777216),TV (d/65536),TV (d/256),TV d,TV (c/72057594037927936),TV (c/281474976710656),TV (c/1099511627776),TV (c/4294967296),TV (c/16777216),TV (c/65536),TV (c/256),TV c,TV (b/72057594037927936),TV (b/281474976710656),TV (b/1099511627776),TV (b/4294967296),TV (b/16777216),TV (b/65536),TV (b/256),TV b,TV (a/72057594037927936),TV (a/281474976710656),TV (a/1099511627776),TV (a/4294967296),TV (a/16777216),TV (a/65536),TV (a/256),TV a]:=by
 simp only[be32,be8,YU,YG,yA5]
theorem val_congr{a b c d p q r s:Nat}(g:a=p)(e:b=q)(f:c=r)(k:d=s):val a b c d=val p q r s:=by subst g e f k;rfl
theorem JV(a b c d:Nat)(f:a<18446744073709551616)(e:b<18446744073709551616)(k:c<18446744073709551616)(hd:d<18446744073709551616):beV (be32 a b c d).toList=val a b c d:=
 (congrArg beV (G6 a b c d)).trans ((JW _ _ _ _ _ _ _ _ _ _ _ _ _ _ _ _ _ _ _ _ _ _ _ _ _ _ _ _ _ _ _ _).trans (val_congr (zR a f) (zR b e) (zR c k) (zR d hd)))
theorem JQ{n:Nat}(k:n<top):beV (bx n).toList=n:=by
 unfold bx;rw[JV _ _ _ _ oM oM oM oM];unfold val;unfold top at k;omega
variable {P:Nat}[NeZero P]
theorem Nk(C:Fld P){y m:Fin P}(h:y*y=m):rt m=some (if y.val%2=1 then 0-y else y):=by
 have d:y.val*y.val%P=m.val:=by rw[<-h,Xq]
 have k:=Io (a:=y.val) C.cur.pr C.p3;rw[d]at k;unfold rt;rw[yB3 k];have f:=XU P;have c:m.val^(P/4+1)%P<P:=Vm _ f;generalize m.val^(P/4+1)%P=r at k c;have b:=y.isLt;have i:=C.p3;have hor:=Lq C.cur.pr b c (k.trans d.symm)
 congr 1
 apply Yx;show even P r%P=_;unfold even;have g:(0-y:Fin P).val=(P-y.val)%P:=by rw[<-uA,EC.val_zero,TO]
 by_cases ho:y.val%2=1
 ·rw[yB3 ho,g];rcases hor with e|e
  ·rw[e,yB3 ho]
  ·rw[yB4 oM,show P-y.val=r by omega]
 ·rw[yB4 ho];rcases hor with e|e
  ·rw[e,yB4 ho,Uf b]
  ·by_cases j:y.val=0
   ·omega
   ·rw[yB3 oM,show P-r=y.val by omega,Uf b]
theorem KH(n:Nat):ub (mark n)=if n%2=1 then 3 else 2:=by
 unfold mark;split<;>rfl
theorem KO{m:UInt8}{b:Bs}(h:b.size=32):tY (#[m]++b)=b:=by
 unfold tY;rw[Array.extract_append];have k:(#[m]:Bs).extract 1 33=#[]:=by rfl
 rw[k];simp[h]
theorem O8(m:UInt8)(b:Bs):(#[m]++b)[0]! = m:=by
 rw[getElem!_pos _ 0 (by rw[UA];simp;omega),Array.getElem_append_left (by simp)];rfl
theorem QG(C:Fld P){b:Bs}(g:b.size=33){x y:Fin P}(c:ub b[0]! = if y.val%2=1 then 3 else 2)(hv:beV (tY b).toList=x.val)(h:EC.On (some (x,y):EC.Pt P)):rd P b=some (x,y):=by
 have k:¬sU b:=λk=>by
  have:=k 0 (U4.2 dC);rw[c]at this;split at this<;>omega
 have f:rdx P b=x:=by
  unfold rdx;rw[hv];exact Yx (Uf x.isLt)
 have d:y*y=x*x*x+7:=by
  have:y^2=x^3+7:=h
  grobner
 unfold rd;rw[yB3 g,yB4 k,c,hv,yB3 x.isLt,f,Nk C d];by_cases ho:y.val%2=1
 ·rw[yB3 ho,yB3 (T8 rfl),yB3 ho,XK,yB3 rfl];have e:0-(0-y)=y:=by grobner
  rw[e]
 ·rw[yB4 ho,yB3 (Ub rfl),yB4 ho,XK,yB4 dC]
theorem Nl(C:Fld P){X:EC.Pt P}(h:EC.On X):∃p,rd P (wr X)=some p/\pt p=X:=by
 match X,h with
 | none,_ =>
  refine⟨(0,0),?_,by unfold pt;rw[yB3 ⟨rfl,rfl⟩]⟩;have k:(wr (none:EC.Pt P)).size=33:=bX _;have b:=(Cw k).2 rfl;unfold rd;rw[yB3 k,yB3 b]
 | some (x,y),h =>
  have c:=bX (P:=P) (some (x,y));have k:(wr (some (x,y):EC.Pt P))[0]! = mark y.val:=O8 _ _;have b:tY (wr (some (x,y):EC.Pt P))=bx x.val:=KO (gJ _);refine⟨(x,y),QG C c (by rw[k,KH]) (by rw[b,JQ (C.top x)]) h,by unfold pt;rw[yB4 (λe=>C.cur.y_ne h e.2)]⟩
end
section
open Go.RowKit Go.Sort Go.Deep
variable {P:Nat}[NeZero P]{N:Nat}
def gxl:List TC:=[uZ 6481385041966929816,uZ 188021827762530521,uZ 6170039885052185351,uZ 8772561819708210092]
def gyl:List TC:=[uZ 11261198710074299576,uZ 18237243440184513561,uZ 6747795201694173352,uZ 5204712524664259685]
def gX(P:Nat)[NeZero P]:Fin P:=Vy P 55066263022277343669578718895168534326250603453777594175500187360389116729240
def gY(P:Nat)[NeZero P]:Fin P:=Vy P 32670510020758816978083085130507043184471273380659243275938904335757337482424
def gG(P:Nat)[NeZero P]:EC.Pt P:=some (gX P,gY P)
theorem Fld.eq(C:Fld P):P=115792089237316195423570985008687907853269984665640564039457584007908834671663:=by
 have h:=C.gap.hP;have e:val 4294968273 0 0 0=4294968273:=dC;rw[e]at h;unfold Go.Proofs.YtjnchldodncnbaaGreat.top at h;omega
theorem DO(C:Fld P):(gX P).val=55066263022277343669578718895168534326250603453777594175500187360389116729240:=by
 have h:=C.eq;exact Uf oM
theorem DN(C:Fld P):(gY P).val=32670510020758816978083085130507043184471273380659243275938904335757337482424:=by
 have h:=C.eq;exact Uf oM
theorem PD(C:Fld P):gxl=ws (gX P):=by
 show _=wn (gX P).val;rw[DO C];kernel_rfl
theorem PC(C:Fld P):gyl=ws (gY P):=by
 show _=wn (gY P).val;rw[DN C];kernel_rfl
theorem Jj(C:Fld P):EC.On (gG P):=by
 refine IR (Yx ?_);have k:(7:Fin P).val=7:=Uf C.p7;rw[Xq,Fin.val_add,Xq,Xq,DO C,DN C,k];have h:=C.eq;rw[h]
theorem P0:Gives 137 #[] (.agg (gxl++gyl).toArray):=by
 intro w;go_enter func137,ntmps137;refine RG.M.enter [] 4 kR ?_;intro a0 c;repeat refine TI ?_
 refine c.T [.m 0] [(0,RG.z 8)] [] [RG.z 8] [0] ⟨RG.mk 0 148,yB5⟩ ?_;intro g f e b;repeat refine TI ?_
 refine b.T [.x (.agg gxl.toArray),.x (.agg gyl.toArray),.x (.agg (gxl++gyl).toArray),.u 0] [] [(0,3,gxl++gyl)] [gxl++gyl] [0] ⟨RG.st,RG.st,RG.st,RG.pt i109,yB5⟩ ?_;intro d i k;refine UZ ?_;refine TM (v:=.agg (gxl++gyl).toArray) (RG.aC k.st 0 148 rfl 0 _ rfl (k.at (s:=.p 0 0)) iM i109) k.sl.defers ?_;exact⟨_,rfl,k.st.bel.below,rfl⟩
theorem P3(C:Fld P):Gives 137 #[] (pv (gX P) (gY P)):=by
 unfold pv;rw[<-PD C,<-PC C];exact P0
end
section
open Go.RowKit Go.Sort Go.Deep Go.Shelf
attribute [local go_sem] Oper.semAt_some
section
variable {F:Fence}{n:Nat}{P:Vd}{ops:Array UI}{rest:List UI}{op:UI}{a:Act}{w:TA}{Q:Exit->Act->TA->Prop}
theorem jX(g:op.guard=none)(k:Uw)(x:Yj)(ho:op.op=.load k x)(b o:Nat)(m:a.eval x=.pointer (some ⟨b,o,none⟩))(cs:List TC)(d:TypeDesc)(i:w.rangeAt b o cs)
 (j:P.underlying k=some d) (hd:d.isRow=true) (l:(P.info? k).map (·.size)=some cs.length) (h:wpListIn F n P ops Q rest (a.put op.dst (.agg cs.toArray)) w):wpListIn F n P ops Q (op :: rest) a w:=
 wpListIn_plain g λK p=>by
  refine⟨λf hf=>(by unfold yBR at hf;rw[ho]at hf;cases hf),?_⟩;rw[yBr _ _ _ (λc=>by rw[ho];intro e;cases e)];unfold UD;simp only[ho,m,Instr.loadAt,Yk,Ue,VA,UE,Z9 w b o k cs d i j hd l];exact p _ _ h
theorem bG(d:op.guard=none)(g:Uw)(x y:Yj)(ho:op.op=.store g x y)(b o:Nat)(k:Array TC)(j:a.eval x=.pointer (some ⟨b,o,none⟩))(p:a.eval y=.agg k)
 (l:w.there b o k.size) (i:(P.info? g).map (·.size)=some k.size) (q:k.all (·.oneCell')=true)
 (h:wpListIn F n P ops Q rest (a.put op.dst VU) (w.setCells b o k.toList)):wpListIn F n P ops Q (op :: rest) a w:=
 wpListIn_plain d λK m=>by
  refine⟨λf hf=>(by unfold yBR at hf;rw[ho]at hf;cases hf),?_⟩;rw[yBr _ _ _ (λc=>by rw[ho];intro e;cases e)];unfold UD;simp only[ho,j,p,Instr.storeAt,Yk,Ue,VA,UE,run_storeVar_mid w b o g k l i q];exact m _ _ h
end
def Row(W:TA)(k:Nat)(vs:List TC):Prop:=k<W.heap.size/\W.rangeAt k 0 vs/\W.there k 0 vs.length
theorem qJ(k:Nat)(vs:List TC):Own (λ(_:Unit) W=>Row W k vs):=λs A B row d c e=>by
 refine⟨TF d.1 c.size,λj v b=>?_,λj b=>?_⟩
 ·exact cell_kept (d.2.1 j v b) c e
 ·have f:=d.2.1 j vs[j] (List.getElem?_eq_getElem b);have g:=cell_kept f c e;exact⟨by rw[g];rfl,(frozen_kept f c e).trans (d.2.2 j b).2⟩
theorem nC(k:Nat):∀(vs:List TC) (o:Nat) (W:TA),KeepsOthers W (W.setCells k o vs)
 | [],_,W=>KeepsOthers.refl W
 | v :: vs,o,W=>(KeepsOthers.setCell W ⟨k,o,none⟩ v).trans (nC k vs (o+1) _)
theorem Row.alloc{W:TA}{k:Nat}{vs:List TC}(h:Row W k vs)(o:Obj):Row (W.alloc o) k vs:=
 qJ k vs () W (W.alloc o) none h (World.grownBy_alloc W o none) (λ_ e=>by cases e)
theorem Row.putObj{W:TA}{k D:Nat}{vs:List TC}(h:Row W k vs){o:Obj}(c:W.heap[D]? = some o)(ho:o.isCells=false)(b:Obj):Row (W.putObj D b) k vs:=
 qJ k vs () W (W.putObj D b) (some D) h (grownBy_putObj' W D b) (λr e=>by cases e;exact⟨_,c,ho⟩)
theorem Row.below{W W':TA}{k:Nat}{vs:List TC}(h:Row W k vs)(c:Below W.heap.size W W'):Row W' k vs:=by
 have e:=c.block k h.1;refine⟨TF h.1 c.size,λj v b=>?_,λj b=>?_⟩
 ·exact(Ua e).trans (h.2.1 j v b)
 ·have d:=h.2.2 j b;exact⟨by rw[Ua e];exact d.1,(UY e).trans d.2⟩
theorem aL{P:Vd}{c:Func}{tmps:Array TC}{W:TA}{k:Nat}{vs:List TC}(t:Tmp)(T:Uw)(f:c.results=#[.cell t T])(h:Row W k vs)(g:tmps[t]? = some (pZ k))
 (b:(P.underlying T).map (·.isRow)=some true) (i:(P.info? T).map (·.size)=some vs.length):(results c tmps).run P W=.ok (.agg vs.toArray) W:=by
 obtain⟨d,b,hd⟩:=TJ.1 b;have j:=Z9 (P:=P) W k 0 T vs d h.2.1 b hd i;have e:tmps.getD t VU=pZ k:=by rw[Array.getD_eq_getD_getElem?,g];rfl
 unfold results;rw[f];simp only[Array.mapM_eq_mapM_toList,List.mapM_cons,List.mapM_nil,e,asAddr];simp[Ue,j]
theorem Row.put{W:TA}{k:Nat}{vs b:List TC}(h:Row W k vs)(c:b.length=vs.length):Row (W.setCells k 0 b) k b:=
 ⟨by rw[RG.setCells_size];exact h.1,World.rangeAt_setCells_same W k 0 b (by rw[c];exact h.2.2),by rw[c];exact VM h.2.2 _ _ _⟩
theorem Row.other{W:TA}{k j:Nat}{vs c:List TC}(h:Row W k vs)(b:k≠j):Row (W.setCells j 0 c) k vs:=
 ⟨by rw[RG.setCells_size];exact h.1,World.rangeAt_setCells_apart h.2.1 j 0 c (Ub b),VM h.2.2 _ _ _⟩
variable {P:Nat}[NeZero P]
theorem MC(C:Fld P)(lb:Array TC)(L:List (Fin P × Fin P))(N:Nat)(w:TA)
 (E:∀n,SeqStopsK Fence.wide n prog 138 lb (λx:Fin P × Fin P=>#[pv x.1 x.2]) (Below w.heap.size) (λxs=>xs=L) (λb=>b <+: L) N w) :
 TW prog 110 #[.func (.func 138) #[] lb] w (rZ w λe w'=>e=pv (L.headD (gX P,gY P)).1 (L.headD (gX P,gY P)).2):=by
 refine(callsIn_wide (n:=5)).1 ?_;refine callsIn_of_wp_marks func110 rfl trivial ?_ rfl;simp only[ntmps110,UH,Uy,List.length_nil,Nat.reduceAdd,Nat.reduceSub,Array.replicate_succ,Array.replicate_zero,List.push_toArray,List.append_toArray,yA5,YG]
 gi_wp2
 have y:=RG.Made.alloc w [uZ 0,uZ 0,uZ 0,uZ 0,uZ 0,uZ 0,uZ 0,uZ 0] 148;have a:Row (w.alloc (.cells #[uZ 0,uZ 0,uZ 0,uZ 0,uZ 0,uZ 0,uZ 0,uZ 0] 148)) w.heap.size [uZ 0,uZ 0,uZ 0,uZ 0,uZ 0,uZ 0,uZ 0,uZ 0]:=⟨y.lt,y.range,y.there⟩
 have p:Below w.heap.size w (w.alloc (.cells #[uZ 0,uZ 0,uZ 0,uZ 0,uZ 0,uZ 0,uZ 0,uZ 0] 148)):=y.bel;clear y;obtain⟨z,m⟩:∃z,z=w.alloc (.cells #[uZ 0,uZ 0,uZ 0,uZ 0,uZ 0,uZ 0,uZ 0,uZ 0] 148):=⟨_,rfl⟩
 have I:z.heap.size=w.heap.size+1:=by rw[m,TQ]
 rw[<-m]at a p⊢;clear m;refine wpIn_rangeFunc_ownH (α:=Fin P × Fin P) rfl dC (gf:=138) (lb:=lb) rfl trivial (enters_of func138 kR rfl) (E 4) belowK_t (belowK_b oM) p (λ_=>rfl)
  (λb W=>(b=[]/\Row W w.heap.size [uZ 0,uZ 0,uZ 0,uZ 0,uZ 0,uZ 0,uZ 0,uZ 0])/\Below w.heap.size w W)
  (λc b W=>(c=.ret/\∃x:Fin P × Fin P,b=[x]/\Row W w.heap.size (ws x.1++ws x.2))/\Below w.heap.size w W)
  (yBk (Own.from (λs A B row k g o=>⟨k.1,qJ _ _ () A B row k.2 g o⟩) _) (ownFrom_below (TG _) oM))
  (λc=>yBk (Own.from (λs A B row k g o=>⟨k.1,k.2.imp λx f=>⟨f.1,qJ _ _ () A B row f.2 g o⟩⟩) _) (ownFrom_below (TG _) oM))
  ⟨⟨rfl,a⟩,p⟩
  (λx u W=>∃j,w.heap.size<j/\Row W j (ws x.1++ws x.2)/\u = { tmps:=#[.func (.func 138) #[] lb,VU,.pointer (some ⟨w.heap.size,0,none⟩),pZ j,.func (.func 138) #[] lb,pv x.1 x.2,VU,VU],defers:=[] })
  (λx u=>Own.from (λs A B row k g o=>k.imp λj f=>⟨f.1,qJ _ _ () A B row f.2.1 g o,f.2.2⟩) _) ?assign ?body ?done ?stop
 case assign =>
  intro l b x W K t i;have k:=RG.Made.alloc W [uZ 0,uZ 0,uZ 0,uZ 0,uZ 0,uZ 0,uZ 0,uZ 0] 148;have g:=k.there
  gi_wp2_with (refine bG rfl 148 _ _ rfl W.heap.size 0 (ws x.1++ws x.2).toArray rfl rfl g i109 kR ?_)
  have f:=t.1.2.1;have q:Below w.heap.size W ((W.alloc (.cells #[uZ 0,uZ 0,uZ 0,uZ 0,uZ 0,uZ 0,uZ 0,uZ 0] 148)).setCells W.heap.size 0 (ws x.1++ws x.2)):=
   RG.below_setCells (V6 f) _ _ _ ((TX _ W).alloc (V6 f) _)
  exact i _ _ (((KeepsOthers.alloc W _).trans (nC _ _ _ _)).from _) q ⟨⟨t.1.1,(t.1.2.alloc _).other (Vl f)⟩,t.2.trans q⟩
   ⟨W.heap.size,f,Row.put (vs:=[uZ 0,uZ 0,uZ 0,uZ 0,uZ 0,uZ 0,uZ 0,uZ 0]) ⟨k.lt,k.range,k.there⟩ rfl,rfl⟩
 case body =>
  rintro l b x u W J ⟨r,o⟩ ⟨⟨rfl,k⟩,t⟩ ⟨j,H,G,rfl⟩ F;obtain⟨d,A,f⟩:=TJ.1 iM;have q:=G.2.1;have g:=k.2.2
  gi_wp2_with (first|refine jX rfl 148 _ rfl j 0 rfl (ws x.1++ws x.2) d q A f i109 ?_|refine bG rfl 148 _ _ rfl w.heap.size 0 (ws x.1++ws x.2).toArray rfl rfl g i109 kR ?_)
  exact⟨(nC _ _ _ _).from _,⟨rfl,x,rfl,k.put rfl⟩,RG.below_setCells (TG _) _ _ _ t⟩
 case done =>
  rintro D ys W F rfl ⟨⟨rfl,k⟩,t⟩ i;have g:=k.2.2
  gi_wp2_with fail
  refine⟨trivial,(callsIn_wide.2 (P3 C _)).mono ?_⟩;rintro e A ⟨v,rfl,o,rfl⟩;have f:Row A w.heap.size [uZ 0,uZ 0,uZ 0,uZ 0,uZ 0,uZ 0,uZ 0,uZ 0]:=k.below o;have u:=f.2.2
  gi_wp2_with (refine bG rfl 148 _ _ rfl w.heap.size 0 (ws (gX P)++ws (gY P)).toArray rfl rfl u i109 kR ?_)
  have j:(A.setCells w.heap.size 0 (ws (gX P)++ws (gY P))).heap[D]? = some (.deferred (some [])):=by
   rw[RG.aG _ _ _ _ _ oM,o.block D (Array.getElem?_eq_some_iff.1 i).1];exact i
  have G:Below w.heap.size w (A.setCells w.heap.size 0 (ws (gX P)++ws (gY P))):=RG.below_setCells (TG _) _ _ _ (t.trans (o.mono t.size));have q:Row (A.setCells w.heap.size 0 (ws (gX P)++ws (gY P))) w.heap.size (ws (gX P)++ws (gY P)):=f.put rfl;refine⟨by simp,.inl ⟨_,_,rfl,run_takeDeferred j,?_⟩⟩;exact⟨_,aL 2 148 rfl (q.putObj j rfl _) rfl iM i109,_,rfl,G.trans (belowK_b (w:=z) oM _ D _ _ F j rfl rfl),rfl⟩
 case stop =>
  rintro D c b W F f ⟨⟨rfl,x,rfl,k⟩,t⟩ i
  gi_wp2
  obtain⟨o,j⟩:=f;have g:L=x :: o:=j.symm;rw[g];refine⟨by simp,.inl ⟨_,_,rfl,run_takeDeferred i,?_⟩⟩;exact⟨_,aL 2 148 rfl (k.putObj i rfl _) rfl iM i109,_,rfl,t.trans (belowK_b (w:=z) oM _ D _ _ F i rfl rfl),rfl⟩
end
section
open Go.RowKit Go.Sort Go.Deep
variable {P:Nat}[NeZero P]{N:Nat}
theorem kC{w W:TA}{k e d b c:Nat}(h:Kept w k [⟨k,0,d,b,c,0⟩,⟨e,0,0,0,0,0⟩] W):W.cell? ⟨k,0,none⟩=some (uZ d)/\W.cell? ⟨k,1,none⟩=some (uZ b)/\W.cell? ⟨k,2,none⟩=some (uZ c)/\W.cell? ⟨k,3,none⟩=some (uZ 0)/\Kept w k [⟨k,0,d,b,c,0⟩,⟨e,0,0,0,0,0⟩] W:=⟨h.head.c0,h.head.c1,h.head.c2,h.head.c3,h⟩
theorem kX{w W:TA}{k e d b c:Nat}(h:W.cell? ⟨k,0,none⟩=some (uZ d)/\W.cell? ⟨k,1,none⟩=some (uZ b)/\W.cell? ⟨k,2,none⟩=some (uZ c)/\W.cell? ⟨k,3,none⟩=some (uZ 0)/\Kept w k [⟨k,0,d,b,c,0⟩,⟨e,0,0,0,0,0⟩] W):Kept w k [⟨k,0,d,b,c,0⟩,⟨e,0,0,0,0,0⟩] W:=h.2.2.2.2
theorem C6{w W:TA}{k e d b c:Nat}{o:Obj}(h:W.cell? ⟨k,0,none⟩=some (uZ d)/\W.cell? ⟨k,1,none⟩=some (uZ b)/\W.cell? ⟨k,2,none⟩=some (uZ c)/\W.cell? ⟨k,3,none⟩=some (uZ 0)/\Kept w k [⟨k,0,d,b,c,0⟩,⟨e,0,0,0,0,0⟩] W):(W.alloc o).cell? ⟨k,0,none⟩=some (uZ d)/\(W.alloc o).cell? ⟨k,1,none⟩=some (uZ b)/\(W.alloc o).cell? ⟨k,2,none⟩=some (uZ c)/\(W.alloc o).cell? ⟨k,3,none⟩=some (uZ 0)/\Kept w k [⟨k,0,d,b,c,0⟩,⟨e,0,0,0,0,0⟩] (W.alloc o):=kC ((kX h).alloc o)
theorem Bn{w W:TA}{k e d b c:Nat}{o:Obj}(h:W.drew.cell? ⟨k,0,none⟩=some (uZ d)/\W.drew.cell? ⟨k,1,none⟩=some (uZ b)/\W.drew.cell? ⟨k,2,none⟩=some (uZ c)/\W.drew.cell? ⟨k,3,none⟩=some (uZ 0)/\Kept w k [⟨k,0,d,b,c,0⟩,⟨e,0,0,0,0,0⟩] W.drew):(W.alloc o).drew.cell? ⟨k,0,none⟩=some (uZ d)/\(W.alloc o).drew.cell? ⟨k,1,none⟩=some (uZ b)/\(W.alloc o).drew.cell? ⟨k,2,none⟩=some (uZ c)/\(W.alloc o).drew.cell? ⟨k,3,none⟩=some (uZ 0)/\Kept w k [⟨k,0,d,b,c,0⟩,⟨e,0,0,0,0,0⟩] (W.alloc o).drew:=kC (((kX h).undrew).alloc o).drew
theorem wM{w:TA}{g o:Nat}{k:Bs}(p l:Nat)(h:Holds encB w g o k)(c:p+l<=k.size):Holds encB w g (o+p) (k.extract p (p+l)):=by
 refine Holds.part h (by rw[VJ];omega) (λj b=>?_);rw[VJ]at b;rw[getElem!_pos (k.extract p (p+l)) j (by rw[VJ];omega),getElem!_pos k (p+j) oM,yAb]
theorem BZ{w:TA}{g o:Nat}{k:Bs}(f:Nat)(h:Holds encB w g o k)(hf:f<=k.size):Holds encB w g o (k.extract 0 f):=by
 have:=wM 0 f h oM;rwa[TO,VK]at this
def RedR(w:TA)(e f l i j N:Nat)(s6:TC)(g:TA):Prop:=
 ∃k a b c d:Nat,s6=pZ k/\Kept w e [⟨k,0,a,b,c,d⟩,⟨e,0,l,i,j,0⟩,⟨f,0,0,0,0,0⟩] g/\k≠e/\k≠f/\e<=k /\
  Hid (Four (.agg #[uZ a,uZ b,uZ c,uZ d]) N)
theorem RedR.made{w k:TA}{f g l i j N a b c d:Nat}(e:Kept w f [⟨f,0,l,i,j,0⟩,⟨g,0,0,0,0,0⟩] k)(m:Hid (Four (.agg #[uZ a,uZ b,uZ c,uZ d]) N)):
 RedR w f g l i j N (.pointer (some ⟨k.heap.size,0,none⟩)) (k.alloc (.cells #[uZ a,uZ b,uZ c,uZ d] 87)):=
 ⟨k.heap.size,a,b,c,d,rfl,(e.alloc _).cons (At4.made k 87 a b c d rfl).blk,U3 e.head.lt,U3 e.tail.head.lt,e.le,m⟩
theorem RedR.put{w m:TA}{e f k i g j N a b c d x y z u:Nat}(q:Kept w e [⟨e,0,i,g,j,0⟩,⟨f,0,0,0,0,0⟩] m)(T:At4 m k x y z u)(n:e<=k)(l:∀x∈([⟨e,0,i,g,j,0⟩,⟨f,0,0,0,0,0⟩]:List Blk),x.k<k)(o:Hid (Four (.agg #[uZ a,uZ b,uZ c,uZ d]) N)):
 RedR w e f i g j N (pZ k) ((((m.setCell (aZ k) (uZ a)).setCell ⟨k,1,none⟩ (uZ b)).setCell ⟨k,2,none⟩ (uZ c)).setCell ⟨k,3,none⟩ (uZ d)):=
 ⟨k,a,b,c,d,rfl,(q.set4' n (λx p=>U3 (l x p)) _ _ _ _).cons (T.self4 a b c d).blk,U3 (l ⟨e,0,i,g,j,0⟩ (by simp)),U3 (l ⟨f,0,0,0,0,0⟩ (by simp)),n,o⟩
theorem Iu{P:Nat}(k:Bs)(p:Nat)(d:p+32<=k.size):(beV (k.extract p (p+32)).toList+top*(beV (k.extract 0 p).toList%P))%P=beV (k.extract 0 (p+32)).toList%P:=by
 have e:(k.extract 0 (p+32)).toList=(k.extract 0 p).toList++(k.extract p (p+32)).toList:=by
  rw[<-YU,Array.extract_append_extract,Nat.min_eq_left oM,Nat.max_eq_right oM]
 have b:(k.extract p (p+32)).toList.length=32:=by rw[TR,VJ];omega
 have c:256^32=top:=by unfold top;decide
 rw[e,jR,b,c,Nat.add_comm,XG,VT,yAO,<-VT,<-XG,Ut]
theorem Ct(g0 g1 g2 P g o n cap : Nat)(bs : Bs)(hG : Gap g0 g1 g2 P)(w : TA)(hs : bs.size = n)(hc : n <= cap)(hg : g < w.heap.size)(hB : Holds encB w g o bs):
    TW prog 176 #[.agg #[.int .u64 (g0 : Int), .int .u64 (g1 : Int), .int .u64 (g2 : Int), .int .u64 0], .slice (some ⟨g, o, none⟩) n cap] w (Ret λe w' => Below w.heap.size w w' /\ Four e (beV bs.toList % P)) := by
  obtain⟨f, hf⟩ : ∃f, f = n % 32 := ⟨_, rfl⟩;have hf32 : f < 32 := oM;have hfn : f <= n := oM;have e1 : (n : Int) % 32 = (f : Int) := oM;have e2 : (f : Int) <= (cap : Int) := oM;have e3 : (f : Int) <= (n : Int) := oM;have e4 : f <= cap := oM;have hsz0 : (bs.extract 0 f).size = f := by rw [VJ]; omega
  have Hf : Hid (f = n % 32) := hf;have HS : Hid ((bs.extract 0 f).size = f) := hsz0;have hbs : f <= bs.size := oM;have HSZ : Hid (bs.size = n) := hs;have HG : Hid (Gap g0 g1 g2 P) := hG;clear hf hsz0 hG;go_enter func176, ntmps176
  go_upto_region 2 with fail
  rw [e1];clear e1;have PR := (At4.made w 89 g0 g1 g2 0 rfl).alloc (.cells #[.int .u64 0, .int .u64 0, .int .u64 0, .int .u64 0] 44);have RE := At4.made (w.alloc (.cells #[.int .u64 (g0 : Int), .int .u64 (g1 : Int), .int .u64 (g2 : Int), .int .u64 0] 89)) 44 0 0 0 0 (TQ _ _);have KP := ((Kept.mk1 (below2 w (.cells #[.int .u64 (g0 : Int), .int .u64 (g1 : Int), .int .u64 (g2 : Int), .int .u64 0] 89) (.cells #[.int .u64 0, .int .u64 0, .int .u64 0, .int .u64 0] 44)) (below2 w (.cells #[.int .u64 (g0 : Int), .int .u64 (g1 : Int), .int .u64 (g2 : Int), .int .u64 0] 89) (.cells #[.int .u64 0, .int .u64 0, .int .u64 0, .int .u64 0] 44)).size).cons RE.blk).cons PR.blk;clear PR RE;generalize U2 _ _ = W0 at KP⊢;generalize h1 : w.heap.size + 1 = k1 at KP⊢;have Q1 : Hid (w.heap.size <= k1) := by unfold Hid; omega
  generalize h0 : w.heap.size = k0 at KP Q1 hg⊢;have n01 : k0 ≠ k1 := oM;have H0 : Hid (w.heap.size = k0) := h0;have HBS : Hid (Holds encB w g o bs) := hB;clear h0 h1 hB hs
  go_cut [6] (λs6 wx => RedR w k0 k1 g0 g1 g2 (beV (bs.extract 0 f).toList % P) s6 wx)
  case first =>
    go_region_held3 (λw' => w'.cell? ⟨k0, 0, none⟩ = some (.int .u64 (g0 : Int)) /\ w'.cell? ⟨k0, 1, none⟩ = some (.int .u64 (g1 : Int)) /\ w'.cell? ⟨k0, 2, none⟩ = some (.int .u64 (g2 : Int)) /\ w'.cell? ⟨k0, 3, none⟩ = some (.int .u64 0) /\ Kept w k0 [⟨k0, 0, g0, g1, g2, 0⟩, ⟨k1, 0, 0, 0, 0, 0⟩] w') (first | (with_reducible exact kC KP) | (with_reducible exact kC KP.drew) | (with_reducible exact Bn (by assumption)) | (with_reducible exact C6 (by assumption)) | (with_reducible exact kC (KP.alloc _)) | (with_reducible exact kC (KP.set4' M7 (λx hx => U3 (N7 x hx)) _ _ _ _)) | (with_reducible exact kC (KP.alloc _).drew) | (with_reducible exact kC (KP.set4' M7 (λx hx => U3 (N7 x hx)) _ _ _ _).drew) | fail) (first | (go_at_call 69; refine(kO (some ⟨g, o, none⟩) g o f cap (bs.extract 0 f) _ (V6 hf32) e4 HS.out (T8 ⟨rfl, BZ f (Holds.below HBS.out (kX (by assumption)).bl hg) hbs⟩)).mono ?_; rintro e w1 ⟨v, rfl, hb1, hF1⟩; obtain⟨a1, b1, c1, d1, rfl, ha1, hb1', hc1, hd1, es1⟩ := id hF1; clear es1; have HF1 : Hid (Four _ _) := hF1; clear hF1; (try(with_reducible have T1 := T.call hb1; clear T; have T := T1; clear T1)); (try(first | (with_reducible have T := (At4.made _ 87 0 0 0 0 rfl).call hb1) | (with_reducible have T := (At4.made _ 87 0 0 0 0 rfl).drew.call hb1)); have N7 := KP.lts; have M7 := KP.le); have KP1 := Kept.call (kX (by assumption)) hb1; clear KP; have KP := KP1; clear KP1 hb1) | (go_at_call 71; refine(jP _ _ HF1.out _).mono ?_; rintro e w1 ⟨v, rfl, hb1, rfl⟩; (try(with_reducible have T1 := T.call hb1; clear T; have T := T1; clear T1)); (try(first | (with_reducible have T := (At4.made _ 87 0 0 0 0 rfl).call hb1) | (with_reducible have T := (At4.made _ 87 0 0 0 0 rfl).drew.call hb1)); have N7 := KP.lts; have M7 := KP.le); have KP1 := Kept.call (kX (by assumption)) hb1; clear KP; have KP := KP1; clear KP1 hb1) | (go_at_call 165; refine(wQ g0 g1 g2 _ _ _ _ P HG.h0 HG.h1 HG.h2 HG.hor HG.hP HG.hP2 HF1.out (Four.mk (a := 0) (b := 0) (c := 0) (d := 0) dC dC dC dC rfl) _).mono ?_; rintro e w1 ⟨v, rfl, hb1, hF3⟩; obtain⟨a', b', c', d', rfl, ha', hb', hc', hd', es3⟩ := id hF3; clear es3; have HF3 : Hid (Four _ _) := hF3; clear hF3; (try(with_reducible have T1 := T.call hb1; clear T; have T := T1; clear T1)); (try(first | (with_reducible have T := (At4.made _ 87 0 0 0 0 rfl).call hb1) | (with_reducible have T := (At4.made _ 87 0 0 0 0 rfl).drew.call hb1)); have N7 := KP.lts; have M7 := KP.le); have KP1 := Kept.call (kX (by assumption)) hb1; clear KP; have KP := KP1; clear KP1 hb1; (try(obtain⟨tc0, tc1, tc2, tc3, tf⟩ := id T; have zt := T.lt))))
    all_goals (try go_wp2)
    all_goals (rw [show val 0 0 0 0 = 0 from rfl, XZ, VK]at HF3)
    all_goals (go_meet; first | (with_reducible exact RedR.made KP HF3) | (with_reducible exact(RedR.made KP HF3).drew) | (with_reducible exact RedR.put KP T M7 N7 HF3) | (with_reducible exact(RedR.put KP T M7 N7 HF3).drew) | fail)
  case rest =>
    clear KP;obtain⟨k6, a, b, c, d, rfl, KP, n60, n61, M6, HF⟩ := hcut;have f0 : (0 : Int) <= (f : Int) := Int.natCast_nonneg _
    go_upto_region 3 with fail
    go_cut [1] (λs1 wx => ∃q : Nat, s1 = .slice (some ⟨g, q, none⟩) (n - f) (cap - f) /\ Hid (0 < n - f -> q = o + f) /\ Kept w k0 [⟨k6, 0, a, b, c, d⟩, ⟨k0, 0, g0, g1, g2, 0⟩, ⟨k1, 0, 0, 0, 0, 0⟩] wx)
    case first =>
      by_cases ec : cap = f
      · have en : n = f := oM
        have HEN : Hid (n = f /\ cap = f) := ⟨en, ec⟩;go_wp2
        go_meet
        refine⟨o, ?_, λh => ?_, KP⟩
        · rw [HEN.1, HEN.2]; try simp
        · have := HEN.1; omega
      · go_wp2
        go_meet
        exact⟨o + f, rfl, λ_ => rfl, KP⟩
    case rest =>
    clear KP;obtain⟨q0, rfl, HQ0, KP⟩ := hcut;go_wp2_with fail
    go_loopg [1] (n - f) (λgk s1 wr => ∃(l q lc a b c d : Nat), gk = l /\ l <= n /\ s1 = .slice (some ⟨g, q, none⟩) l lc /\ Hid (l % 32 = 0 /\ (0 < l -> q = o + (n - l)) /\ lc = cap - (n - l)) /\ Kept w k0 [⟨k6, 0, a, b, c, d⟩, ⟨k0, 0, g0, g1, g2, 0⟩, ⟨k1, 0, 0, 0, 0, 0⟩] wr /\
      Hid (Four (.agg #[.int .u64 (a : Int), .int .u64 (b : Int), .int .u64 (c : Int), .int .u64 (d : Int)]) (beV (bs.extract 0 (n - l)).toList % P)))
    case atStart =>
      refine⟨n - f, q0, cap - f, a, b, c, d, rfl, oM, rfl, ⟨by have := Hf.out; omega, λh => by have := HQ0.out h; omega, oM⟩, KP, ?_⟩;rw [show n - (n - f) = f by omega];exact HF
    case round =>
      clear KP HF;obtain⟨l, q, lc, a, b, c, d, hgk, hln, rfl, HQ3, KP, HF⟩ := hrel;clear e2 e3 e4 f0 hbs HS hf32 hfn HQ0;have hlcl : l <= lc := by have := HQ3.out; omega
      by_cases h0 : l = 0
      · subst h0
        obtain⟨xc0, xc1, xc2, xc3, xf⟩ := KP.head.at4;have z7 := KP.head.lt;go_wp2_with fail
        refine(jM _ _ HF.out _).mono ?_;rintro e w3 ⟨v, rfl, hb3, rfl⟩;have KP3 := KP.call hb3;clear hb3 xc0 xc1 xc2 xc3 xf z7 KP;obtain⟨rc0, rc1, rc2, rc3, rf⟩ := KP3.tail.tail.head.at4;have z3 := KP3.tail.tail.head.lt;go_wp2;have RF := KP3.tail.tail.head.at4.self4 a b c d;unfold set4 at RF;refine TM (v := ?v) ?hr rfl ?hR
        case hr => simp [results, Tryz.results176, go_sem, RF.c0, RF.c1, RF.c2, RF.c3]; rfl
        refine⟨_, rfl, ?_, ?_⟩
        · rw [H0.out]
          exact aF KP3.bl Q1.out _ _ _ _
        · have := HF.out
          rw [YD, <-HSZ.out, yAs]at this;exact this
      · have h32 : 32 <= l := by have := HQ3.out; omega
        have HQ : Hid (o + (n - l) = q) := (HQ3.2.1 oM).symm;have h32c : 32 <= lc := oM;have i1 : (32 : Int) <= (lc : Int) := oM;have i2 : (32 : Int) <= (l : Int) := oM;have i3 : (0 : Int) < (l : Int) := oM;have HSL : Hid (n - l + 32 <= bs.size) := by unfold Hid; have := HSZ.out; omega
        have HS3 : Hid ((bs.extract (n - l) (n - l + 32)).size = 32) := by unfold Hid; rw [VJ]; have := HSL.out; omega
        obtain⟨tc0, tc1, tc2, tc3, tf⟩ := KP.head.at4;have zt := KP.head.lt;obtain⟨pc0, pc1, pc2, pc3, pf⟩ := KP.tail.head.at4;have hl6 : ∀x ∈ ([⟨k0, 0, g0, g1, g2, 0⟩, ⟨k1, 0, 0, 0, 0, 0⟩] : List Blk), k6 ≠ x.k := by simp only [U0, Ud, or_false]; rintro x (rfl | rfl); exact n60; exact n61
        have HFF : Hid (_ = _) := Iu (P := P) bs (n - l) HSL.out;go_wp2_with fail
        go_region_with (first | (go_at_call 69; refine(kO (some ⟨g, q, none⟩) g q 32 lc (bs.extract (n - l) (n - l + 32)) _ (TG 32) h32c HS3.out (T8 ⟨rfl, HQ.out ▸ wM (n - l) 32 (by first | (with_reducible exact Holds.below HBS.out KP.bl hg) | (with_reducible exact Holds.below HBS.out KP.drew.bl hg) | fail) HSL.out⟩)).mono ?_; rintro e w1 ⟨v, rfl, hb1, hF1⟩; obtain⟨a1, b1, c1, d1, rfl, ha1, hb1', hc1, hd1, es1⟩ := id hF1; clear es1; have HF1 : Hid (Four _ _) := hF1; clear hF1; (first | (with_reducible have KP1 := KP.call hb1) | (with_reducible have KP1 := KP.drew.call hb1) | fail); clear KP; have KP := KP1; clear KP1 hb1; obtain⟨tc0, tc1, tc2, tc3, tf⟩ := KP.head.at4; have zt := KP.head.lt; obtain⟨pc0, pc1, pc2, pc3, pf⟩ := KP.tail.head.at4) | (go_at_call 71; refine(jP _ _ HF1.out _).mono ?_; rintro e w1 ⟨v, rfl, hb1, rfl⟩; (first | (with_reducible have KP1 := KP.call hb1) | (with_reducible have KP1 := KP.drew.call hb1) | fail); clear KP; have KP := KP1; clear KP1 hb1; obtain⟨tc0, tc1, tc2, tc3, tf⟩ := KP.head.at4; have zt := KP.head.lt; obtain⟨pc0, pc1, pc2, pc3, pf⟩ := KP.tail.head.at4) | (go_at_call 165; refine(wQ g0 g1 g2 _ _ _ _ P HG.h0 HG.h1 HG.h2 HG.hor HG.hP HG.hP2 HF1.out HF.out _).mono ?_; rintro e w1 ⟨v, rfl, hb1, hF3⟩; obtain⟨a', b', c', d', rfl, ha', hb', hc', hd', es3⟩ := id hF3; clear es3; have HF3 : Hid (Four _ _) := hF3; clear hF3; (first | (with_reducible have KP1 := KP.call hb1) | (with_reducible have KP1 := KP.drew.call hb1) | fail); clear KP; have KP := KP1; clear KP1 hb1; obtain⟨tc0, tc1, tc2, tc3, tf⟩ := KP.head.at4; have zt := KP.head.lt; obtain⟨pc0, pc1, pc2, pc3, pf⟩ := KP.tail.head.at4))
        all_goals (rw [HFF.out]at HF3)
        all_goals (by_cases i4 : lc = 32)
        all_goals (try go_wp2)
        all_goals
          (go_roundg (l - 32)
           case measure => omega
           case rel =>
            first
              | refine⟨l - 32, q + 32, lc - 32, a', b', c', d', rfl, oM, rfl, ⟨by have := HQ3.out; omega, λ_ => by have := HQ.out; omega, by have := HQ3.out; omega⟩, ?_, ?_⟩
              | refine⟨l - 32, q, lc - 32, a', b', c', d', rfl, oM, by first | rfl | (rw [i4]), ⟨by have := HQ3.out; omega, λh => oM, by have := HQ3.out; omega⟩, ?_, ?_⟩
              | fail
            · first | (with_reducible exact KP.put M6 hl6 a' b' c' d') | (with_reducible exact(KP.put M6 hl6 a' b' c' d').drew) | fail
            · rw [show n - (l - 32) = n - l + 32 by omega]; exact HF3)
def sPl(N a b:Nat):Nat:=(a+b)%N
theorem Ln(O:Ord N){a b:Nat}(c:a<N)(k:b<N):Gives 114 #[gv1,nv a,nv b] (nv (sPl N a b)):=λw =>
 (Cs _ _ _ N _ _ a b O.gap (O.four c) (O.four k) c k w).mono (by rintro e w' ⟨v,rfl,k,d⟩;exact⟨_,rfl,k,d.nv⟩)
theorem CU(O:Ord N)(a b:Nat)(f:a<N)(c:b<N):Gives 81 #[(nv a),(nv b)] (nv (sPl N a b)):=by
 intro w;go_enter func81,ntmps81;refine RG.M.enter [(0,.v (nv a)),(1,.v (nv b))] 12 kR ?_;intro a0 e;repeat refine TI ?_
 refine e.T [.m 0,.m 1,.m 2] [(0,wn a),(1,wn b),(2,RG.z 4)] [] [wn a,wn b,RG.z 4] [2,3,4] ⟨RG.mk 0 46,RG.mk 1 46,RG.mk 2 46,yB5⟩ ?_;intro m o j l g d;repeat refine TI ?_
 refine d.D [.c gv1,.s (.p 0 0),.x (nv a),.s (.p 1 0),.x (nv b),.c (nv (sPl N a b)),.x (nv (sPl N a b)),.u 2] [] [(2,7,wn (sPl N a b))] [wn a,wn b,wn (sPl N a b)] [4] ⟨RG.cl iD,RG.st,RG.ld u38 i38,RG.st,RG.ld u38 i38,RG.cl (Ln O f c),RG.st,RG.pt i40,yB5⟩ ?_;intro i n k;refine UZ ?_;refine TM (v:=(nv (sPl N a b))) (RG.aC k.st 4 46 rfl 2 _ rfl (k.at (s:=(.p 2 0))) u40 i40) k.sl.defers ?_;exact⟨_,rfl,k.st.bel.below,rfl⟩
def qO(N:Nat)(k:Bs):Nat:=beV k.toList%N
def Qh(v:TC)(n:Nat):List RG.It:=[.c 3 [] gv1,.x 4 [] v,.c 5 [(3,0),(4,1)] (nv n),.x 6 [(5,2)] (nv n),.u [(6,3)] 0]
theorem Gm(O:Ord N)(g:Nat)(k:Bs)(l:k.size=64)(w:TA)(f:g<w.heap.size)(j:Holds encB w g 0 k):TW prog 169 #[.slice (some (aZ g)) 64 64] w (rZ w λe w'=>e=nv (qO N k)):=by
 have i:∀w',RG.BelX w.heap.size [] w w'->TW prog 176 #[gv1,.slice (some (aZ g)) 64 64] w' (Ret λe b=>Below w'.heap.size w' b/\e=nv (qO N k)):=λw' d =>
  (Ct _ _ _ N g 0 64 64 k O.gap w' l (TG _) (TF f d.below.size) (Holds.below j d.below f)).mono (by rintro e b ⟨v,rfl,d,c⟩;exact⟨_,rfl,d,c.nv⟩)
 go_enter func169,ntmps169;refine RG.M.enter [(0,.v (.slice (some (aZ g)) 64 64))] 7 kR ?_;intro a0 m;repeat refine TI ?_
 refine m.T [.m 0] [(0,RG.z 4)] [] [RG.z 4] [0,2] ⟨RG.mk 0 46,yB5⟩ ?_;intro p r o n;repeat refine TI ?_
 refine n.t (Qh (.slice (some (aZ g)) 64 64) (qO N k)) [] [(0,4,wn (qO N k))] [wn (qO N k)] [(2,.p 0 0)] ⟨RG.cl iD,RG.st,RG.clB (λ_ _=>kR) i,RG.st,RG.pt i40,yB5⟩ ?_;intro q t c;refine UZ ?_;refine TM (v:=(nv (qO N k))) (RG.aC c.st 2 46 rfl 0 _ rfl (c.at (s:=(.p 0 0))) u40 i40) c.sl.defers ?_;exact⟨_,rfl,c.st.bel.below,rfl⟩
theorem uC(O:Ord N)(k:Bs):qO N k<N:=Vm _ O.pos
theorem aE(w:TA)(c:List TC)(T:Uw):Row (w.alloc (.cells c.toArray T)) w.heap.size c:=
 have h:=RG.Made.alloc w c T
 ⟨h.lt,h.range,h.there⟩
theorem bT(n:Nat):(wn n).toArray.all (·.oneCell')=true:=kR
end
section
open Go.RowKit Go.Sort Go.Deep
section
variable {P:Vd}{ops:Array UI}{rest:List UI}{op:UI}{a:Act}{w w':TA}{v:TC}{Q:Exit->Act->TA->Prop}
theorem cG(k:op.guard=none)(X:Op)(_:op.op=X)(b:(UD a.eval op).run P w=.ok (.value v) w')(h:wpList P ops Q rest (a.put op.dst v) w'):wpList P ops Q (op :: rest) a w:=
 Xw k λK c=>by
  unfold Vp;rw[b];exact c _ _ h
end
variable {N:Nat}
theorem Row.only{W W':TA}{k b o n:Nat}{vs:List TC}(h:Row W k vs)(f:SP.Only b o n W W')(d:k≠b):Row W' k vs:=by
 refine⟨TF h.1 f.size,λj v e=>?_,λj e=>?_⟩
 ·rw[(f.other (c:=k) (o:=0+j) d h.1).1];exact h.2.1 j v e
 ·have i:=h.2.2 j e;have g:=f.other (c:=k) (o:=0+j) d h.1;exact⟨by rw[g.1];exact i.1,by rw[g.2];exact i.2⟩
theorem cE{w W:TA}{y o n k:Nat}{vs:List TC}(h:SP.Only y o n w W)(e:y<w.heap.size)(f:w.heap.size<=k)(q:Nat):SP.Only y o n w (W.setCells k q vs):=
 have b:=RG.below_setCells f _ _ _ (TX _ _)
 ⟨b.os.trans h.os,b.tape.trans h.tape,b.output.trans h.output,TU h.size b.size,λj d c=>(b.block j d).trans (h.block j d c),λp g=>(Ua (a:=⟨y,p,none⟩) (b.block y e)).trans (h.cell p g),λp=>(UY (a:=⟨y,p,none⟩) (b.block y e)).trans (h.froz p)⟩
theorem Hid.mk'{p:Prop}(h:p):Hid p:=h
theorem u124:(prog.underlying 62).map (·.isRow)=some true:=kR
theorem i124:(prog.info? 62).map (·.size)=some 1:=kR
theorem Gj(k:ByteArray)(w:TA)(n:k.size<=1048576):TW prog 92 #[.string k] w (rZ w λe w'=>∃r,e=.agg #[pZ r]/\w.heap.size<=r/\r<w'.heap.size/\Holds encB w' r 0 (SP.newL k.data.toList)):=by
 obtain⟨L,s⟩:=hE (SP.newL k.data.toList);have x:L.size=32:=by rw[<-s.out];exact SP.sF _
 rw[s.out];obtain⟨c,g⟩:∃c,Hid (w.alloc (.cells #[.pointer none] 62)=c):=⟨_,rfl⟩
 have o:Hid (Row c w.heap.size [.pointer none]/\Below w.heap.size w c):=by rw[<-g.out];exact⟨aE w _ _,aD w _⟩
 go_enter func92,ntmps92;go_wp2_with fail
 rw[g.out];clear g;refine(SP.Ep k c n).mono ?_;rintro e f ⟨rfl,d,b⟩;rw[s.out]at b;have l:c.heap.size<f.heap.size:=Holds.lt b oM;obtain⟨r,t⟩:∃r,Hid (c.heap.size=r):=⟨_,rfl⟩
 rw[t.out]at b l⊢;have y:w.heap.size<r:=by rw[<-t.out];exact o.1.1
 have p:Hid (Row f w.heap.size [.pointer none]/\Below w.heap.size w f/\Holds encB f r 0 L):=⟨o.1.below d,o.2.trans (d.mono o.2.size),b⟩
 clear d b o t;obtain⟨i,m⟩:∃i,Hid (f.setCells w.heap.size 0 [pZ r]=i):=⟨_,rfl⟩
 have q:Hid (Row i w.heap.size [pZ r]/\Below w.heap.size w i/\Holds encB i r 0 L/\r<i.heap.size):=by
  rw[<-m.out];refine⟨p.1.put rfl,RG.below_setCells (TG _) _ _ _ p.2.1,λj u=>?_,by rw[RG.setCells_size];exact l⟩;have h:=p.2.2 j u;have e:=RG.aG w.heap.size [pZ r] 0 f r oM;rw[Ua (a:=⟨r,0+j,none⟩) e,UY (a:=⟨r,0+j,none⟩) e];exact h
 go_wp2_with (refine cG (v:=.agg #[pZ r]) (w':=f) rfl (.build 62 _) rfl ?_ ?_;kernel_rfl;refine Hid.out ?_)
 show wpList _ _ _ _ _ _;refine wpList_store_mid rfl 62 _ _ rfl w.heap.size 0 #[pZ r] ?_ ?_ ?_ ?_ ?_ ?_
 ·kernel_rfl
 ·kernel_rfl
 ·exact p.1.2.2
 ·exact i124
 ·kernel_rfl
 rw[show(#[pZ r]).toList=[pZ r] from rfl,m.out];go_wp2;refine TM (aL 2 62 rfl q.1 rfl u124 i124) rfl ?_;exact⟨_,rfl,q.2.1,r,rfl,oM,q.2.2.2,q.2.2.1⟩
def cha(N:Nat)(L:Bs):Nat:=qO N (SP.t7 L [99,104,97,108,108,101,110,103,101] 64)
end
namespace SP
open Go.RowKit Go.Sort Go.Deep
attribute [local go_sem] dO eC dV oY
theorem fN(a b:Int)(n:Nat)(w:TA)(c:0<=a/\a<=1000)(k:0<=b/\b<=1000)(h:a%5+5*(b%5)=(n:Int)):
 TW prog 188 #[iZ a,iZ b] w λe w'=>e=.returned (iZ n)/\w'=w:=by
 obtain⟨g,d⟩:=c;obtain⟨b1,f⟩:=k;rw[<-h];clear h;go_enter func188,ntmps188;go_wp2;go_ret;exact⟨rfl,rfl⟩
theorem BS(x:BitVec 64)(k:Nat)(w:TA)(g:k<64):
 TW prog 189 #[.int .u64 (u x),.int .i64 k] w λe w'=>e=.returned (.int .u64 (u (rol x k)))/\∃n,w'=w.drewN n:=by
 have f:(0:Int)<=64-(k:Int):=oM;have c:(64:Int)-(k:Int)<=64:=oM;have d:(k:Int)<=64:=oM;have b:UR.wrap (64-(k:Int))=64-(k:Int):=UO _ oM;have i:((64:Int)-(k:Int)).toNat=64-k:=oM;have s1:=yL x k;have s2:=ED x (64-k);go_enter func189,ntmps189;go_wp2;go_quiet (fail);go_wp2;go_ret;refine⟨ret_int ?_,_,rfl⟩;rfl
theorem MM(t:Nat)(w:TA)(o:t<=1000):
 TW prog 190 #[iZ t] w λe w'=>e=.returned (uZ (u (MN t)))/\w'=w:=by
 go_enter func190,ntmps190;go_wp2
 go_loop [3,4] (λs3 s4=>∃(i q:Nat),i<=t/\s4=iZ i/\s3=iZ q/\q<256/\Hid (Bh i=q)) (λ_ s4=>t-(intOf s4).toNat)
 case atStart=>exact⟨0,1,oM,rfl,rfl,dC,rfl⟩
 case round =>
  obtain⟨i,q,n,rfl,rfl,d,f⟩:=hrel;by_cases j:i<t
  ·have m:=Iw q d;rw[Int.mul_comm]at m;have b:=vN q d;have g:Hid (Bh (i+1)=mE q):=by show mE (Bh i)=_;rw[f.out]
   by_cases k:255<2*q
   ·have c:Hid (mE q=2*q ^^^ 369):=yB3 k;rw[c.out]at b;generalize 2*q ^^^ 369=l at *;go_wp2
    go_round
    case rel=>exact⟨i+1,l,oM,by go_num,rfl,b,by rw[g.out,c.out];rfl⟩
    case measure=>simp[intOf];omega
   ·have c:Hid (mE q=2*q):=yB4 k;go_wp2
    go_round
    case rel=>exact⟨i+1,2*q,oM,by go_num,by go_num,oM,by rw[g.out,c.out];rfl⟩
    case measure=>simp[intOf];omega
  ·have b:=Ix q d;have k:i=t:=oM;subst k;go_wp2;go_ret;unfold MN;rw[f.out];exact⟨rfl,rfl⟩
end SP
namespace SP
open Go.RowKit Go.Sort Go.Deep
attribute [local go_sem] dO eC dV oY
theorem Dh(j:Nat)(k:j<7):min (Uv.wrap (Uv.wrap ((2:Int)^j)-1)).toNat 64=2^j-1:=by
 have H:∀j:Fin 7,min (Uv.wrap (Uv.wrap ((2:Int)^j.val)-1)).toNat 64=2^j.val-1:=dK;exact H ⟨j,k⟩
theorem Ay(r:Nat)(w:TA)(i:r<24):
 TW prog 181 #[iZ r] w λe w'=>e=.returned (uZ (u (D4 r)))/\w'=w:=by
 go_enter func181,ntmps181;go_wp2
 go_loop [3,4] (λs3 s4=>∃(j:Nat) (c:BitVec 64),j<=7/\s4=iZ j/\s3=uZ (u c)/\Hid (Cf r j=c)) (λ_ s4=>7-(intOf s4).toNat)
 case atStart=>exact⟨0,0,oM,rfl,rfl,rfl⟩
 case round =>
  obtain⟨j,c,g,rfl,rfl,f⟩:=hrel;by_cases k:j<7
  ·have b:(j:Int)<=6:=oM;go_wp2_with fail
   rw[show(j:Int)+7*(r:Int)=((j+7*r:Nat):Int) from by omega];refine(MM (j+7*r) _ oM).mono ?_;rintro e w' ⟨rfl,rfl⟩;go_wp2
   go_round
   case rel =>
    refine⟨j+1,Cf r (j+1),oM,by go_num,?_,rfl⟩;rw[Dh j k,yL,dV];show _=uZ (u (Cf r j ||| MN (j+7*r) <<< (2^j-1)));rw[f.out]
   case measure=>simp[intOf];omega
  ·have b:¬(j:Int)<=6:=oM;have d:j=7:=oM;subst d;go_wp2;go_ret;unfold D4;rw[f.out];exact⟨rfl,rfl⟩
theorem Lk:prog.underlying 237=some (.slice 3):=kR
theorem info3:(prog.info? 3).map (λi=>(i.zero,i.size,i.bytes))=some (some (iZ 0),1,8):=kR
theorem P7{w:TA}{b off:Nat}{d:Array Nat}(h:Holds encI w b off d)(i:Nat)(k:i<d.size){x:Nat}(c:d[i]! = x):
 w.cell? ⟨b,off+i,none⟩=some (iZ x)/\w.frozen? ⟨b,off+i,none⟩=false:=by
 rw[<-c];exact h i k
theorem offs_int'(t:Nat)(h:t<24):(wrap64 ((wrap64 (((t:Int)+1)*((t:Int)+2))).tdiv 2)).tmod 64=(wB t:Int):=by
 have H:∀j:Fin 24,(wrap64 ((wrap64 (((j.val:Int)+1)*((j.val:Int)+2))).tdiv 2)).tmod 64=(wB j.val:Int):=dK;exact H ⟨t,h⟩
theorem BH(w:TA):
 TW prog 179 #[] w λe w'=>e=.returned (.slice (some ⟨w.heap.size,0,none⟩) 25 25)/\Below w.heap.size w w'/\Holds encI w' w.heap.size 0 dB:=by
 have v:∀w:TA,(VI 237 (iZ 25) (iZ 25)).run prog w=.ok (.slice (some ⟨w.heap.size,0,none⟩) 25 25) (w.alloc (.cells (madeCells #[iZ 0] 25) 3)):=
  XO (P:=prog) 237 3 (iZ 0) 8 Lk info3 rfl .i64 .i64 25 oM oM
 go_enter func179,ntmps179;go_wp2;generalize k:(w.alloc _)=a;go_loopg [2,3,4] 24 (λg sx q st wr=>∃t T,t+g=24/\st=iZ (t:Nat)/\sx=iZ (T.x:Nat)/\q=iZ (T.y:Nat)/\Holds encI wr w.heap.size 0 T.o/\Only w.heap.size 0 25 a wr/\Hid (T=kM t))
 case atStart =>
  refine⟨0,kM 0,rfl,rfl,rfl,rfl,?_,Only.refl _ _ _ _,rfl⟩;rw[<-k];exact Holds.made (enc:=encI) w 3 25 0
 case round =>
  obtain⟨t,⟨x,y,o⟩,A,rfl,rfl,rfl,j,n,m⟩:=hrel;have b:=Mb t;rw[<-m.out]at b;obtain⟨u,z,s⟩:=b;dsimp only at u z s j;by_cases l:t<24
  ·obtain⟨i,r⟩:∃i,x%5+5*(y%5)=i:=⟨_,rfl⟩
   obtain⟨c,f⟩:=j i oM;rw[TO]at c f;have d:=mk1 (r);go_wp2_with fail
   refine(fN (x:Int) (y:Int) i _ oM oM (by have:=d.out;omega)).mono ?_;rintro e w' ⟨rfl,rfl⟩;have p:=offs_int' t l;go_wp2;go_roundg (gk-1)
   case measure=>omega
   case rel =>
    refine⟨t+1,⟨y,(2*x+3*y)%5,o.setIfInBounds i (wB t)⟩,oM,by go_num,rfl,by go_num,?_,?_,?_⟩
    ·have:=Holds.set j (i:=i) oM (wB t);rw[TO]at this;exact this
    ·exact n.setCell (o:=i) oM oM _
    ·show _=(Of.mk (kM t).y ((2*(kM t).x+3*(kM t).y)%5) ((kM t).o.setIfInBounds ((kM t).x%5+5*((kM t).y%5)) (wB t)));rw[<-m.out];dsimp only;rw[d.out]
  ·have d:t=24:=oM;subst d;go_wp2;go_ret;refine⟨rfl,?_,?_⟩
   ·rw[<-k]at n;exact n.fresh
   ·unfold dB;rw[<-m.out];exact j
end SP
namespace SP
open Go.RowKit Go.Sort Go.Deep
attribute [local go_sem] dO eC dV pW oY
theorem zY:prog.underlying 236=some (.slice 42):=kR
theorem DF:(prog.info? 42).map (λi=>(i.zero,i.size,i.bytes))=some (some (uZ 0),1,8):=kR
theorem Gk(ab tb:Nat)(a:St)(n:Array Nat)(c:BitVec 64)(w:TA)(ha:a.size=25)(ht:n.size=25)(hA:Holds enc w ab 0 a)(hT:Holds encI w tb 0 n)(k1:∀i,i<25->n[i]! < 64):
 TW prog 180 #[.slice (some ⟨ab,0,none⟩) 25 25,.slice (some ⟨tb,0,none⟩) 25 25,.int .u64 (u c)] w λe w'=>∃r,e=.returned (.slice (some ⟨r,0,none⟩) 25 25)/\w.heap.size<=r/\Below w.heap.size w w'/\Holds enc w' r 0 (eZ a n c):=by
 have hh:=Holds.lt hA oM;have h6:=Holds.lt hT oM;have hb:∀w:TA,(VI 236 (.int .i64 5) (.int .i64 5)).run prog w=.ok (.slice (some ⟨w.heap.size,0,none⟩) 5 5) (w.alloc (.cells (madeCells #[.int .u64 0] 5) 42)):=
  XO (P:=prog) 236 42 (.int .u64 0) 8 zY DF rfl .i64 .i64 5 oM oM
 have A:∀w:TA,(VI 236 (.int .i64 25) (.int .i64 25)).run prog w=.ok (.slice (some ⟨w.heap.size,0,none⟩) 25 25) (w.alloc (.cells (madeCells #[.int .u64 0] 25) 42)):=
  XO (P:=prog) 236 42 (.int .u64 0) 8 zY DF rfl .i64 .i64 25 oM oM
 have J:Hid _:=A;clear A;go_enter func180,ntmps180;go_wp2;clear hb;have V:Holds enc (w.alloc (.cells (madeCells #[.int .u64 0] 5) 42)) w.heap.size 0 (nH a 0):=Holds.made (enc:=enc) w 42 5 0;have D:Below w.heap.size w (w.alloc (.cells (madeCells #[.int .u64 0] 5) 42)):=(TX _ _).alloc (TG _) _;generalize h1:(w.alloc _)=W1 at V D⊢;have hc:w.heap.size<W1.heap.size:=by rw[<-h1];simp
 have h4:=Holds.below hA D hh;have hk:=Holds.below hT D h6;clear h1;go_loopg [8] 5 (λg s8 wr=>∃(x:Nat) (f:St),x+g=5/\s8=.int .i64 x/\Holds enc wr w.heap.size 0 f/\Only w.heap.size 0 5 W1 wr/\Hid (f=nH a x))
 case atStart=>exact⟨0,_,rfl,rfl,V,Only.refl _ _ _ _,rfl⟩
 case round =>
  obtain⟨x,f,hx,rfl,hC,q,HE⟩:=hrel;have hq:f.size=5:=by rw[HE.out,D6]
  by_cases I:x<5
  ·have l5:(x:Int)<5:=oM;go_wp2;go_loopg [9] 5 (λg s9 L=>∃(y:Nat) (d:St),y+g=5/\s9=.int .i64 y/\Holds enc L w.heap.size 0 d/\Only w.heap.size 0 5 W1 L/\Hid (d=wW a x f y))
   case atStart=>exact⟨0,f,rfl,rfl,hC,q,rfl⟩
   case round =>
    obtain⟨y,d,hy,rfl,l,k,b⟩:=hrel;have m:d.size=5:=by rw[b.out,wV,hq]
    by_cases K:y<5
    ·have B:=Holds.other h4 k oM oM;obtain⟨z,C⟩:∃z,a[x+5*y]! = z:=⟨_,rfl⟩
     obtain⟨v,hv⟩:∃z,d[x]! = z:=⟨_,rfl⟩
     obtain⟨s,G⟩:=aR B (x+5*y) oM C;obtain⟨H,N⟩:=aR l x oM hv;rw[TO]at s H N;have HZ:Hid (a[x+5*y]! = z):=C;have HV:Hid (d[x]! = v):=hv;obtain⟨i,M⟩:∃i,x+5*y=i:=⟨_,rfl⟩
     rw[M]at s;have Hi:Hid (x+5*y=i):=M;have Y:i<25:=oM;have W:(i:Int)<25:=oM;have y5:(y:Int)<5:=oM;clear C hv M G;go_wp2_with fail
     refine wp_region_still_tail 14 mixed kR ?_;simp only[yAn,YX,yAp,yBi];repeat still_step
     still_call (fN (x:Int) (y:Int) i _ oM oM (by have:=Hi.out;omega))
     repeat still_step
     refine wpStill_nil ?_;go_wp2;go_roundg (gk-1)
     case measure=>omega
     case rel =>
      refine⟨y+1,bI d x z,oM,by go_num,?_,?_,?_⟩
      ·have:=Holds.xor l (i:=x) oM HV.out z;rw[TO]at this;exact Holds.drew this
      ·exact(k.setCell (o:=x) oM oM _).drew
      ·show _=bI (wW a x f y) x a[x+5*y]!;rw[HZ.out,b.out]
    ·have t:y=5:=oM;subst t;go_wp2;go_roundg (4-x)
     case measure=>omega
     case rel =>
      refine⟨x+1,d,oM,by go_num,l,k,?_⟩;show _=wW a x (nH a x) 5;rw[b.out,HE.out]
  ·have E:x=5:=oM;subst E;have he:Below w.heap.size w wr:=D.trans (q.below oM (TG _));have hn:w.heap.size<wr.heap.size:=TF hc q.size;clear I hx V D hc h4 hk q;have T:=J.out;go_wp2;clear T;have X:Holds enc (wr.alloc (.cells (madeCells #[.int .u64 0] 25) 42)) wr.heap.size 0 (m9 a n f 0):=Holds.made (enc:=enc) wr 42 25 0;have m:Below wr.heap.size wr (wr.alloc (.cells (madeCells #[.int .u64 0] 25) 42)):=(TX _ _).alloc (TG _) _;generalize h0:(wr.alloc _)=W3 at X m⊢;have h2:wr.heap.size<W3.heap.size:=by rw[<-h0];simp
   have hg:=Holds.below hC m hn;have F:=he.trans (m.mono oM);have h9:=Holds.below hA F hh;have h8:=Holds.below hT F h6;clear h0 m he hC;generalize k7:wr.heap.size=MB at *;go_loopg [11] 5 (λg s11 wr=>∃(x:Nat) (mk:St),x+g=5/\s11=.int .i64 x/\Holds enc wr MB 0 mk/\Only MB 0 25 W3 wr/\Hid (mk=m9 a n f x))
   case atStart=>exact⟨0,_,rfl,rfl,X,Only.refl _ _ _ _,rfl⟩
   case round =>
    obtain⟨x,mk,hx,rfl,hM,q,O⟩:=hrel;have hu:mk.size=25:=by rw[O.out,Dx]
    by_cases I:x<5
    ·have U:=Holds.other hg q oM oM;obtain⟨y0,R⟩:∃z,f[(x+4)%5]! = z:=⟨_,rfl⟩
     obtain⟨y1,Q⟩:∃z,f[(x+1)%5]! = z:=⟨_,rfl⟩
     obtain⟨s,G⟩:=aR U ((x+4)%5) oM R;obtain⟨H,N⟩:=aR U ((x+1)%5) oM Q;rw[TO]at s H;have HD:Hid (bP f x=y0 ^^^ rol y1 1):=by rw[<-R,<-Q];rfl
     clear R Q G N;have l5:(x:Int)<5:=oM;have q1:0<=((x:Int)+4)%5:=oM;have q2:((x:Int)+4)%5<5:=oM;have q3:(((x:Int)+4)%5).toNat=(x+4)%5:=oM;have q4:0<=((x:Int)+1)%5:=oM;have q5:((x:Int)+1)%5<5:=oM;have q6:(((x:Int)+1)%5).toNat=(x+1)%5:=oM;go_wp2_with fail
     go_quiet ((go_at_call 189;exact Calls.quiet_of (BS _ 1 _ dC)));clear s H q1 q2 q3 q4 q5 q6;go_wp2;have hm:=Holds.drewN hM nq;have hp:=q.drewN nq;generalize y0 ^^^ rol y1 1=dv at *;go_loopg [13] 5 (λg s13 L=>∃(y:Nat) (S:St),y+g=5/\s13=.int .i64 y/\Holds enc L MB 0 S/\Only MB 0 25 W3 L/\Hid (S=wG a n x dv mk y))
     case atStart=>exact⟨0,mk,rfl,rfl,hm,hp,rfl⟩
     case round =>
      obtain⟨y,S,hy,rfl,d,k,b⟩:=hrel;have k2:S.size=25:=by rw[b.out,wF,hu]
      by_cases K:y<5
      ·have B:=Holds.other h9 k oM oM;have hr:=Holds.other h8 k oM oM;obtain⟨z,C⟩:∃z,a[x+5*y]! = z:=⟨_,rfl⟩
       obtain⟨tv,l⟩:∃z,n[x+5*y]! = z:=⟨_,rfl⟩
       obtain⟨s,G⟩:=aR B (x+5*y) oM C;obtain⟨H,N⟩:=P7 hr (x+5*y) oM l;have Z:tv<64:=by rw[<-l];exact k1 _ oM
       obtain⟨i,M⟩:∃i,x+5*y=i:=⟨_,rfl⟩
       obtain⟨j,hj⟩:∃j,y%5+5*((2*x+3*y)%5)=j:=⟨_,rfl⟩
       obtain⟨c2,f2⟩:=d j oM;rw[TO]at s H c2 f2;rw[M]at s H;have Hi:Hid (x+5*y=i):=M;have Hj:Hid (y%5+5*((2*x+3*y)%5)=j):=hj;have HZ:Hid (a[x+5*y]! = z):=C;have HT:Hid (n[x+5*y]! = tv):=l;have Y:i<25:=oM;have k6:j<25:=oM;have W:(i:Int)<25:=oM;have k4:(j:Int)<25:=oM;have y5:(y:Int)<5:=oM;have s1:UR.wrap (2*(x:Int))=2*(x:Int):=UO _ oM;have s2:UR.wrap (3*(y:Int))=3*(y:Int):=UO _ oM;have s3:UR.wrap (2*(x:Int)+3*(y:Int))=2*(x:Int)+3*(y:Int):=UO _ oM;clear C l M hj G N;go_wp2_with fail
       have P1:∀w,Hid (TW prog 188 #[.int .i64 y,.int .i64 (2*(x:Int)+3*(y:Int))] w λe w'=>e=.returned (.int .i64 j)/\w'=w):=λw=>fN _ _ j w oM oM (by have:=Hj.out;omega)
       have P2:∀w,Hid (TW prog 188 #[.int .i64 x,.int .i64 y] w λe w'=>e=.returned (.int .i64 i)/\w'=w):=λw=>fN _ _ i w oM oM (by have:=Hi.out;omega)
       go_region_with (first|(go_at_call_of 188 (UV UR (x:Int));refine yBK (P2 _).out ?_;rintro e w2 ⟨rfl,rfl⟩)|(go_at_call 188;refine yBK (P1 _).out ?_;rintro e w2 ⟨rfl,rfl⟩)|(go_at_call 189;refine(BS (z ^^^ dv) tv _ Z).mono ?_;rintro e w2 ⟨rfl,n2,rfl⟩))
       all_goals
        go_wp2;go_roundg (gk-1)
        case measure=>omega
        case rel =>
         refine⟨y+1,S.setIfInBounds j (rol (z ^^^ dv) tv),oM,by go_num,?_,?_,?_⟩
         ·have:=Holds.set (Holds.drewN d (1+n2)) (i:=j) oM (rol (z ^^^ dv) tv);rw[TO]at this;exact this
         ·exact(k.drewN (1+n2)).setCell (o:=j) oM oM _
         ·show _=(wG a n x dv mk y).setIfInBounds (y%5+5*((2*x+3*y)%5)) (rol (a[x+5*y]! ^^^ dv) n[x+5*y]!);rw[HZ.out,HT.out,Hj.out,b.out]
      ·have t:y=5:=oM;subst t;go_wp2;go_roundg (4-x)
       case measure=>omega
       case rel =>
        refine⟨x+1,S,oM,by go_num,d,k,?_⟩;show _=wG a n x (bP f x) (m9 a n f x) 5;rw[b.out,O.out,HD.out]
    ·have E:x=5:=oM;subst E;have h7:Below w.heap.size w wr:=F.trans (q.below oM oM);have hw:MB<wr.heap.size:=TF h2 q.size;clear I hx F h2 h9 h8 hg X q;have T:=J.out;go_wp2;clear T;have h3:Holds enc (wr.alloc (.cells (madeCells #[.int .u64 0] 25) 42)) wr.heap.size 0 (oS mk 0):=Holds.made (enc:=enc) wr 42 25 0;have l:Below wr.heap.size wr (wr.alloc (.cells (madeCells #[.int .u64 0] 25) 42)):=(TX _ _).alloc (TG _) _;generalize h5:(wr.alloc _)=W5 at h3 l⊢;have k9:wr.heap.size<W5.heap.size:=by rw[<-h5];simp
     have hs:=Holds.below hM l hw;have k0:=h7.trans (l.mono oM);clear h5 l h7 hM;generalize kb:wr.heap.size=OB at *;go_loopg [15] 5 (λg s15 wr=>∃(x:Nat) (ok:St),x+g=5/\s15=.int .i64 x/\Holds enc wr OB 0 ok/\Only OB 0 25 W5 wr/\Hid (ok=oS mk x))
     case atStart=>exact⟨0,_,rfl,rfl,h3,Only.refl _ _ _ _,rfl⟩
     case round =>
      obtain⟨x,ok,hx,rfl,hU,q,S⟩:=hrel;have hl:ok.size=25:=by rw[S.out,vZ]
      by_cases I:x<5
      ·have l5:(x:Int)<5:=oM;go_wp2;go_loopg [16] 5 (λg s16 L=>∃(y:Nat) (oy:St),y+g=5/\s16=.int .i64 y/\Holds enc L OB 0 oy/\Only OB 0 25 W5 L/\Hid (oy=v8 mk x ok y))
       case atStart=>exact⟨0,ok,rfl,rfl,hU,q,rfl⟩
       case round =>
        obtain⟨y,oy,hy,rfl,Y,k,b⟩:=hrel;have k3:oy.size=25:=by rw[b.out,v7,hl]
        by_cases K:y<5
        ·have d:=Holds.other hs k oM oM;obtain⟨B,R⟩:∃i,x+5*y=i:=⟨_,rfl⟩
         obtain⟨i1,Q⟩:∃i,(x+1)%5+5*y=i:=⟨_,rfl⟩
         obtain⟨i2,M⟩:∃i,(x+2)%5+5*y=i:=⟨_,rfl⟩
         obtain⟨z0,W⟩:∃z,mk[B]! = z:=⟨_,rfl⟩
         obtain⟨z1,Z⟩:∃z,mk[i1]! = z:=⟨_,rfl⟩
         obtain⟨z2,U⟩:∃z,mk[i2]! = z:=⟨_,rfl⟩
         obtain⟨s,G⟩:=aR d B oM W;obtain⟨H,N⟩:=aR d i1 oM Z;obtain⟨c2,f2⟩:=aR d i2 oM U;obtain⟨c3,f3⟩:=Y B oM;rw[TO]at s H c2 c3 f3;have H0:Hid (x+5*y=B):=R;have H1:Hid ((x+1)%5+5*y=i1):=Q;have H2:Hid ((x+2)%5+5*y=i2):=M;have HV:Hid (mk[x+5*y]! ^^^ (~~~mk[(x+1)%5+5*y]! &&& mk[(x+2)%5+5*y]!)=z0 ^^^ (~~~z1 &&& z2)):=by
          show _=_;rw[R,Q,M,W,Z,U]
         have b0:B<25:=oM;have k8:(B:Int)<25:=oM;have k5:(i1:Int)<25:=oM;have ka:(i2:Int)<25:=oM;have y5:(y:Int)<5:=oM;have s1:UR.wrap ((x:Int)+1)=(x:Int)+1:=UO _ oM;have s2:UR.wrap ((x:Int)+2)=(x:Int)+2:=UO _ oM;clear W Z U R Q M G N f2;go_wp2_with fail
         refine wp_region_still_tail 28 mixed kR ?_;simp only[yAn,YX,yAp,yBi];repeat still_step
         still_call (fN (x:Int) (y:Int) B _ oM oM (by have:=H0.out;omega))
         repeat still_step
         still_call (fN (x:Int) (y:Int) B _ oM oM (by have:=H0.out;omega))
         repeat still_step
         still_call (fN ((x:Int)+1) (y:Int) i1 _ oM oM (by have:=H1.out;omega))
         repeat still_step
         still_call (fN ((x:Int)+2) (y:Int) i2 _ oM oM (by have:=H2.out;omega))
         repeat still_step
         refine wpStill_nil ?_;go_wp2;go_roundg (gk-1)
         case measure=>omega
         case rel =>
          refine⟨y+1,oy.setIfInBounds B (z0 ^^^ (~~~z1 &&& z2)),oM,by go_num,?_,?_,?_⟩
          ·have:=Holds.set Y (i:=B) oM (z0 ^^^ (~~~z1 &&& z2));rw[TO]at this;exact Holds.drew this
          ·exact(k.setCell (o:=B) oM oM _).drew
          ·show _=(v8 mk x ok y).setIfInBounds (x+5*y) (mk[x+5*y]! ^^^ (~~~mk[(x+1)%5+5*y]! &&& mk[(x+2)%5+5*y]!));rw[HV.out,H0.out,b.out]
        ·have t:y=5:=oM;subst t;go_wp2;go_roundg (4-x)
         case measure=>omega
         case rel =>
          refine⟨x+1,oy,oM,by go_num,Y,k,?_⟩;show _=v8 mk x (oS mk x) 5;rw[b.out,S.out]
      ·have E:x=5:=oM;subst E;obtain⟨z,C⟩:∃z,ok[0]! = z:=⟨_,rfl⟩
       obtain⟨s,G⟩:=aR hU 0 oM C;rw[TO]at s G;have HZ:Hid (ok[0]! = z):=C;clear C;go_wp2;go_ret;refine⟨OB,rfl,oM,?_,?_⟩
       ·exact(k0.trans (q.below oM oM)).setCell (p:=⟨OB,0,none⟩) (by show _<=OB;omega) _
       ·have e:eZ a n c=bI ok 0 c:=by unfold eZ;rw[S.out,O.out,HE.out]
        rw[e];exact Holds.xor (i:=0) hU oM HZ.out c
end SP
namespace SP
open Go.RowKit Go.Sort Go.Deep
attribute [local go_sem] dO eC dV pW oY zO Nr
theorem mT(s:ByteArray)(w:TA)(hs:s.size=200):
 TW prog 172 #[.string s] w λe w'=>e=.returned (.string ⟨kZ s.data⟩)/\Below w.heap.size w w':=by
 have q:∀w:TA,(VI 236 (.int .i64 25) (.int .i64 25)).run prog w=.ok (.slice (some ⟨w.heap.size,0,none⟩) 25 25) (w.alloc (.cells (madeCells #[.int .u64 0] 25) 42)):=
  XO (P:=prog) 236 42 (.int .u64 0) 8 zY DF rfl .i64 .i64 25 oM oM
 have d:∀w:TA,(VI 23 (.int .i64 200) (.int .i64 200)).run prog w=.ok (.slice (some ⟨w.heap.size,0,none⟩) 200 200) (w.alloc (.cells (madeCells #[.int .u8 0] 200) 5)):=
  XO (P:=prog) 23 5 (.int .u8 0) 1 slice22 info5 rfl .i64 .i64 200 oM oM
 have D:Hid _:=d;clear d;go_enter func172,ntmps172;go_wp2;clear q;have a:Holds enc (w.alloc (.cells (madeCells #[.int .u64 0] 25) 42)) w.heap.size 0 (pK s.data 0):=Holds.made (enc:=enc) w 42 25 0;have C:Below w.heap.size w (w.alloc (.cells (madeCells #[.int .u64 0] 25) 42)):=(TX _ _).alloc (TG _) _;generalize F:(w.alloc _)=W1 at a C⊢;have M:w.heap.size<W1.heap.size:=by rw[<-F];simp
 clear F;go_loopg [4] 200 (λg s4 wr=>∃(i:Nat) (b:St),i+g=200/\s4=.int .i64 i/\Holds enc wr w.heap.size 0 b/\Only w.heap.size 0 25 W1 wr/\Hid (b=pK s.data i))
 case atStart=>exact⟨0,_,rfl,rfl,a,Only.refl _ _ _ _,rfl⟩
 case round =>
  obtain⟨i,b,hi,rfl,f,m,p⟩:=hrel;have t:b.size=25:=by rw[p.out,lC]
  by_cases j:i<200
  ·obtain⟨x,A⟩:∃x,b[i/8]! = x:=⟨_,rfl⟩
   obtain⟨S,R⟩:=aR f (i/8) oM A;rw[TO]at S R;have HX:Hid (b[i/8]! = x):=A;clear A;have G:(i:Int)<200:=oM;have p0:0<=(i:Int)/8:=oM;have p1:(i:Int)/8<25:=oM;have B:((i:Int)/8).toNat=i/8:=oM;have s1:UR.wrap ((i:Int)/8)=(i:Int)/8:=UO _ oM;have s2:UR.wrap (8*((i:Int)%8))=8*((i:Int)%8):=UO _ oM;have s3:0<=8*((i:Int)%8):=oM;have s4:8*((i:Int)%8)<=64:=oM;have s5:(8*((i:Int)%8)).toNat=8*(i%8):=oM;have v:(i:Int)<(s.size:Int):=oM;have c:i<s.size:=oM;have tm:(i:Int).tmod 8=(i:Int)%8:=Ys oM;obtain⟨y,l⟩:∃y,wide s.data[i]! = y:=⟨_,rfl⟩
   have n:Uv.wrap (s[i].toNat:Int)=u y:=by
    have e:s.data[i]! = s[i]:=getElem!_pos s.data i c;rw[<-l,e];exact zO s[i]
   have z:Hid (wide s.data[i]! = y):=l;clear l;have E:=yL y (8*(i%8));go_wp2_with fail
   go_still_tail 18,mixed;go_wp2;go_roundg (gk-1)
   case measure=>omega
   case rel =>
    refine⟨i+1,b.setIfInBounds (i/8) (x ||| y <<< (8*(i%8))),oM,by go_num,?_,?_,?_⟩
    ·have:=Holds.set f (i:=i/8) oM (x ||| y <<< (8*(i%8)));rw[TO]at this;exact Holds.drew this
    ·exact(m.setCell (o:=i/8) oM oM _).drew
    ·show _=(pK s.data i).setIfInBounds (i/8) ((pK s.data i)[i/8]! ||| wide s.data[i]! <<< (8*(i%8)));rw[z.out,<-p.out,HX.out]
  ·have c:i=200:=oM;subst c;have N:Below w.heap.size w wr:=C.trans (m.below oM (TG _));have V:w.heap.size<wr.heap.size:=TF M m.size;clear j hi a C M m;go_wp2_with fail
   refine(BH _).mono ?_;rintro e w3 ⟨rfl,z,n⟩;have Q:=Holds.below f z V;have L:=N.trans (z.mono oM);have h3:wr.heap.size<w3.heap.size:=Holds.lt n (by rw[lX];omega);generalize h2:wr.heap.size=TB at *;clear N z f;go_wp2;go_loopg [3,6] 24 (λg s3 s6 wr=>∃(k O:Nat) (b:St),k+g=24/\s6=.int .i64 k/\s3=.slice (some ⟨O,0,none⟩) 25 25/\Holds enc wr O 0 b/\w.heap.size<=O/\Holds encI wr TB 0 dB/\Below w.heap.size w wr/\Hid (b=Bi (pK s.data 200) k))
   case atStart=>exact⟨0,w.heap.size,b,rfl,rfl,rfl,Q,TG _,n,L,p⟩
   case round =>
    clear n L Q p t b;obtain⟨k,O,b,hk,rfl,rfl,f,h7,n,E,p⟩:=hrel;have t:b.size=25:=by
     rw[p.out];cases k with
     | zero=>exact lC _ _
     | succ k=>exact xW _ _ _
    by_cases j:k<24
    ·have B:(k:Int)<24:=oM;go_wp2_with fail
     refine(Ay k _ j).mono ?_;rintro e I ⟨rfl,rfl⟩;go_wp2_with fail
     refine(Gk O TB b dB (D4 k) _ t lX f n Dt).mono ?_;rintro e J ⟨r,rfl,T,l,H⟩;have v:=Holds.lt n (by rw[lX];omega);have K:=E.size;go_wp2;go_roundg (gk-1)
     case measure=>omega
     case rel =>
      refine⟨k+1,r,eZ b dB (D4 k),oM,by go_num,rfl,H,oM,Holds.below n l v,E.trans (l.mono oM),?_⟩;rw[p.out];rfl
    ·have H:k=24:=oM;subst H;have Y:=D.out;go_wp2;clear Y;have K:=E.size;have Z:=Holds.lt f oM;have J:Holds encB (wr.alloc (.cells (madeCells #[.int .u8 0] 200) 5)) wr.heap.size 0 (eV b 200 0):=Holds.made (enc:=encB) wr 5 200 0;have l:Below wr.heap.size wr (wr.alloc (.cells (madeCells #[.int .u8 0] 200) 5)):=(TX _ _).alloc (TG _) _;generalize I:(wr.alloc _)=W6 at J l⊢;have h5:wr.heap.size<W6.heap.size:=by rw[<-I];simp
     have h1:=Holds.below f l Z;have h0:=E.trans (l.mono K);clear I l E f n;generalize h6:wr.heap.size=W at *;go_loopg [8] 200 (λg s8 wr=>∃(i:Nat) (B:Bs),i+g=200/\s8=.int .i64 i/\Holds encB wr W 0 B/\Only W 0 200 W6 wr/\Hid (B=eV b 200 i))
     case atStart=>exact⟨0,_,rfl,rfl,J,Only.refl _ _ _ _,rfl⟩
     case round =>
      obtain⟨i,B,hi,rfl,X,m,v⟩:=hrel;have T:B.size=200:=by rw[v.out,jB]
      by_cases j:i<200
      ·have U:=Holds.other h1 m oM oM;obtain⟨x,A⟩:∃x,b[i/8]! = x:=⟨_,rfl⟩
       obtain⟨S,R⟩:=aR U (i/8) oM A;obtain⟨c1,f1⟩:=X i oM;rw[TO]at S c1 f1;have HX:Hid (byteOf b i=low (x >>> (8*(i%8)))):=by show low _=_;rw[A]
       clear A R;have p1:(i:Int)/8<25:=oM;have G:(i:Int)<200:=oM;have h4:=ED x (8*(i%8));go_wp2;go_roundg (gk-1)
       case measure=>omega
       case rel =>
        refine⟨i+1,B.setIfInBounds i (low (x >>> (8*(i%8)))),oM,by go_num,?_,?_,?_⟩
        ·have:=Holds.set X (i:=i) oM (low (x >>> (8*(i%8))));rw[TO]at this;exact this
        ·exact m.setCell (o:=i) oM oM _
        ·show _=(eV b 200 i).setIfInBounds i (byteOf b i);rw[HX.out,v.out]
      ·have c:i=200:=oM;subst c;have G:=conv_str prog 23 9 5 slice22 int5 str9 wr W 0 200 200 B X T;go_wp2;go_ret;have A:B=kZ s.data:=by rw[v.out,p.out];exact Gl s.data
       rw[A];exact⟨rfl,h0.trans (m.below oM oM)⟩
end SP
namespace SP
open Go.RowKit Go.Sort Go.Deep
attribute [local go_sem] zD
theorem holds_one(w:TA)(x:UInt8):Holds encB (w.alloc (.cells #[.int .u8 (ub x)] 5)) w.heap.size 0 #[x]:=by
 have h:=Holds.new (enc:=encB) w 5 #[x];have e:Array.map encB #[x]=#[.int .u8 (ub x)]:=by simp[encB]
 rw[e]at h;exact h
def sC(l:List UInt8)(e:UInt8)(k:Nat):List UInt8:=l++e :: List.replicate k 0
theorem tH(l:List UInt8)(e:UInt8)(k:Nat):(sC l e k).length=l.length+1+k:=by
 unfold sC;rw[TT,Uy,VF];omega
theorem GB(l:List UInt8)(e:UInt8)(k:Nat):sC l e k++[0]=sC l e (k+1):=by
 unfold sC;rw[List.append_assoc,YG,List.replicate_succ']
theorem Dm(l:List UInt8)(e:UInt8):(sC l e (135-l.length%136)).set (l.length+(135-l.length%136)) ((sC l e (135-l.length%136))[l.length+(135-l.length%136)]! ^^^ 128)=total l e:=by
 unfold sC total iF;rw[List.set_append_right _ _ oM,WM,oU _ _ _ oM (by rw[Uy,VF];omega),WM]
theorem BQ(l:List UInt8)(i j:Nat)(x:UInt8)(k:j<l.length):(l.set i x)[j]! = if i=j then x else l[j]!:=by
 rw[getElem!_pos (l.set i x) j (by rw[List.length_set];exact k),List.getElem_set,getElem!_pos l j k]
theorem Hq(l:List UInt8)(e:UInt8)(cur:Bs)(L k:Nat)(f:k=135-l.length%136)(i:L=l.length+1+k)(g:L<=cur.size)(b:∀j,j<L->cur[j]! = (sC l e k)[j]!):
 ∀j,j<L->(cur.setIfInBounds (L-1) (cur[L-1]! ^^^ 128))[j]! = (total l e)[j]!:=by
 intro j c;have d:=tH l e k;rw[<-Dm,<-f,BQ _ _ _ _ oM,show l.length+k=L-1 by omega];by_cases h:j=L-1
 ·rw[yB3 h.symm,h,getElem!_set_same _ _ _ oM,b _ oM]
 ·rw[yB4 oM,getElem!_set_other _ _ _ _ h,b _ c]
theorem zX(o:ByteArray)(d:St)(n m:Nat)(ho:o.size=136*m)(g:n<=136*m)(h:∀j,j<136*m->o.data[j]! = dR d j):o.extract 0 n=⟨fZ d n⟩:=by
 apply ByteArray.ext;have hd:(o.extract 0 n).data=o.data.extract 0 n:=ByteArray.data_extract;have b:o.data.size=136*m:=ho;rw[hd];refine AD _ _ n (by rw[VJ,b];omega) (fY _ _) (λj c=>?_);have f:j<(o.data.extract 0 n).size:=by rw[VJ,b];omega
 have e:j<o.data.size:=oM;have k:=h j oM;rw[getElem!_pos o.data j e]at k;rw[o6 _ _ _ c,<-k,getElem!_pos (o.data.extract 0 n) j f,yAb];simp only[TO]
theorem IP(o:ByteArray)(d:St)(m:Nat)(p:Bs)(g:p.size=136)(k:∀j,j<136->p[j]! = byteOf (dY d m) j)(ho:o.size=136*m)(h:∀j,j<136*m->o.data[j]! = dR d j):
 (o++⟨p⟩).size=136*(m+1)/\∀j,j<136*(m+1)->(o++(⟨p⟩:ByteArray)).data[j]! = dR d j:=by
 have hd:(o++(⟨p⟩:ByteArray)).data=o.data++p:=Yl;have e:o.data.size=136*m:=ho;refine⟨?_,λj i=>?_⟩
 ·show(o++(⟨p⟩:ByteArray)).data.size=_;rw[hd,UA,g,e];omega
 ·rw[hd];by_cases f:j<136*m
  ·have b:j<o.data.size:=oM;have c:=h j f;rw[getElem!_pos o.data j b]at c;rw[app_front _ _ j b,c]
  ·rw[app_back _ _ j oM oM,e,k _ oM];unfold dR;rw[show j/136=m by omega,show j%136=j-136*m by omega]
theorem Fh(w:TA)(p:Bs)(h:p.size=200):
 ∃k w',(convert 9 23 (.string ⟨p⟩)).run prog w=.ok (.slice (some ⟨w.heap.size,0,none⟩) 200 k) w'/\200<=k/\Holds encB w' w.heap.size 0 p/\Below w.heap.size w w':=by
 obtain⟨v,w',k,own,c,hv⟩:=mA (w:=w) (B:=0) ⟨p⟩ (Nat.zero_le _);have b:(XE p).size=200:=h;rw[hv]at k own;rw[b]at k own;obtain⟨_,_,e,d⟩:=own.holds;exact⟨_,_,k,oM,by simpa using d,c⟩
theorem B6(d:St):ZQ (front d 136)<=ZQ (front d 200)/\∀j,j<(front d 136).size->(front d 136)[j]! = (front d 200)[j]!:=by
 refine⟨by rw[aQ,aQ];omega,λj k=>?_⟩;rw[aQ]at k;rw[jO _ _ _ k,jO _ _ _ oM]
theorem oR(s:ByteArray)(e:UInt8)(n:Nat)(w:TA)(hs:s.size<=1048576)(hn:n<=16384):
 TW prog 161 #[.string s,.int .u8 (ub e),.int .i64 n] w λr w'=>r=.returned (.string ⟨fZ (jT s.data.toList e) n⟩)/\Below w.heap.size w w':=by
 obtain⟨v0,w0,hu,E,h4,hw⟩:=mA (w:=w) (B:=w.heap.size) s (TG _);rw[hw]at hu E;have k8:w.heap.size<=w0.heap.size:=h4.size;have hX:=holds_one w0 e;have v:Below w0.heap.size w0 (w0.alloc (.cells #[.int .u8 (ub e)] 5)):=(TX _ _).alloc (TG _) _;have hl:s.data.toList.length=s.size:=TR;obtain⟨v1,w1,U,h2,kd⟩:=xO (c:=1) (E.below v) hX (by rw[TQ];omega) (by rw[hl];simp;omega) 1 rfl;have h0:Below w.heap.size w w1:=(h4.trans (v.mono k8)).trans kd;have A:Own w.heap.size w1 v1 (sC s.data.toList e 0):=h2;clear hw E hX h2 kd v;have q:∀w:TA,(VI 23 (.int .i64 200) (.int .i64 200)).run prog w=.ok (.slice (some ⟨w.heap.size,0,none⟩) 200 200) (w.alloc (.cells (madeCells #[.int .u8 0] 200) 5)):=
  XO (P:=prog) 23 5 (.int .u8 0) 1 slice22 info5 rfl .i64 .i64 200 oM oM
 have he:Hid _:=q;clear q;go_enter func161,ntmps161;go_wp2_with (at_builtin;refine Vi _ rfl _ _ 23 23 rfl _ _ rfl rfl _ _ U ?_)
 clear U hu h4;obtain⟨h,hh⟩:∃h,s.data.toList.length%136=h:=⟨_,rfl⟩
 have b3:h<136:=by rw[<-hh];exact Vm _ dC
 have Hh:Hid (s.data.toList.length%136=h):=hh;clear hh;go_loopg [7] (135-h) (λg s7 wr=>∃k,k+g=135-h/\Own w.heap.size wr s7 (sC s.data.toList e k)/\Below w.heap.size w wr)
 case atStart=>exact⟨0,oM,A,h0⟩
 case round =>
  clear A h0;obtain⟨k,hk,own,t⟩:=hrel;have ke:=own;obtain⟨g,cap,cur,rfl,hg,kl,ba,b4,hH,hT⟩:=ke;have hL:=tH s.data.toList e k;generalize hp:(sC s.data.toList e k).length=L at *;have hr:L=s.size+1+k:=by rw[hL,hl]
  have b6:Hid (L=s.size+1+k):=hr;have bf:L<=1048900:=oM;have bc:1<=L:=oM;have tm:(L:Int).tmod 136=(L:Int)%136:=Ys oM;by_cases k6:k<135-h
  ·have k9:((L:Int)%136 != 0)=true:=by rw[bne_iff_ne];have:=Hh.out;rw[hl]at this;omega
   have hX:=holds_one wr 0;have v:Below wr.heap.size wr (wr.alloc (.cells #[.int .u8 (ub 0)] 5)):=(TX _ _).alloc (TG _) _;obtain⟨v2,a,U,b,u⟩:=xO (c:=1) (own.below v) hX (by rw[TQ];have:=t.size;omega) (by rw[hp];simp;omega) 1 rfl;have f:Own w.heap.size a v2 (sC s.data.toList e (k+1)):=by rw[<-GB];exact b
   have l:Below w.heap.size w a:=(t.trans (v.mono t.size)).trans u;go_wp2_with (at_builtin;refine Vi _ rfl _ _ 23 23 rfl _ _ rfl rfl _ _ U ?_)
   go_roundg (gk-1)
   case measure=>omega
   case rel=>exact⟨k+1,oM,f,l⟩
  ·have k9:((L:Int)%136 != 0)=false:=by
    rw[bne_eq_false_iff_eq];have:=Hh.out;rw[hl]at this;omega
   have hq:k=135-s.data.toList.length%136:=by have:=Hh.out;omega
   obtain⟨x,hx⟩:∃x,cur[L-1]! = x:=⟨_,rfl⟩
   obtain⟨c0,f0⟩:=rJ hH (L-1) oM hx;rw[TO]at c0 f0;have k0:=Nb x;have J:=Hq s.data.toList e cur L k hq hL oM hT;rw[hx]at J;have h8:=Holds.set hH (i:=L-1) oM (x ^^^ 128);rw[TO]at h8;have u:(total s.data.toList e).length=L:=by rw[qF];omega
   have a:Holds encB (wr.setCell ⟨g,L-1,none⟩ (.int .u8 (ub (x ^^^ 128)))) g 0 (total s.data.toList e).toArray:=
    Holds.front h8 (by rw[Array.size_setIfInBounds,UH,u];omega) (λj hj=>by rw[nA];exact(J j (by simpa[u]using hj)).symm)
   have D:Below w.heap.size w (wr.setCell ⟨g,L-1,none⟩ (.int .u8 (ub (x ^^^ 128)))):=t.setCell (p:=⟨g,L-1,none⟩) hg _;have T:g<(wr.setCell ⟨g,L-1,none⟩ (.int .u8 (ub (x ^^^ 128)))).heap.size:=by rw[yAq];exact kl
   obtain⟨M,hM⟩:∃M,s.data.toList.length/136+1=M:=⟨_,rfl⟩
   have k1:L=136*M:=by have:=Hh.out;omega
   have h6:=mk1 (k1);have HM:=mk1 (hM);have km:=he.out;clear hM k1 J h8 hH hT hx hL hr hp own hq;go_wp2;clear km c0 f0 k9 tm k0;have hc:(wr.setCell ⟨g,L-1,none⟩ (.int .u8 (ub (x ^^^ 128)))).heap.size=wr.heap.size:=by rw[yAq]
   generalize wr.setCell ⟨g,L-1,none⟩ (.int .u8 (ub (x ^^^ 128)))=X at a D T hc⊢;have h5:Holds encB (X.alloc (.cells (madeCells #[.int .u8 0] 200) 5)) X.heap.size 0 (kB (total s.data.toList e) 0):=Holds.made (enc:=encB) X 5 200 0;have G:Below X.heap.size X (X.alloc (.cells (madeCells #[.int .u8 0] 200) 5)):=(TX _ _).alloc (TG _) _;have k3:X.heap.size<(X.alloc (.cells (madeCells #[.int .u8 0] 200) 5)).heap.size:=by simp
   have Z:=Holds.below a G T;have b:=D.trans (G.mono D.size);have ko:=D.size;rw[hc]at h5 k3 T ko;generalize kq:wr.heap.size=SG at *;generalize (X.alloc _)=W3 at h5 b k3 Z⊢;clear a D G kq hc;go_loopg [8,9] M (λg2 s8 s9 wr=>∃(i f H:Nat),i+g2=M/\s9=.int .i64 ((136*i:Nat):Int)/\s8=.slice (some ⟨f,0,none⟩) 200 H/\200<=H/\w.heap.size<=f/\f≠g/\Holds encB wr f 0 (kB (total s.data.toList e) i)/\Holds encB wr g 0 (total s.data.toList e).toArray/\Below w.heap.size w wr)
   case atStart=>exact⟨0,SG,200,oM,rfl,rfl,TG _,oM,oM,h5,Z,b⟩
   case round =>
    obtain⟨i,f,H,hi,rfl,rfl,k5,kk,kp,hS,a,t⟩:=hrel;have kf:(kB (total s.data.toList e) i).size=200:=by
     cases i with
     | zero=>rw[kB,TY]
     | succ i=>rw[kB,kZ,aQ]
    have b8:=Holds.lt a (by rw[UH,u];omega);by_cases k6:i<M
    ·have ht:((136*i:Nat):Int)<(L:Int):=by have:=h6.out;omega
     have b9:136*i+136<=L:=by have:=h6.out;omega
     generalize hI:136*i=I at *;have HI:Hid (136*i=I):=hI;go_wp2;have kh:Holds encB wr f 0 (qB (kB (total s.data.toList e) i) (total s.data.toList e) I 0):=hS;generalize hR:kB (total s.data.toList e) i=R at *;have HR:Hid (R=kB (total s.data.toList e) i):=hR.symm;go_loopg [10] 136 (λg3 s10 wq=>∃(k:Nat) (st:Bs),k+g3=136/\s10=.int .i64 k/\Holds encB wq f 0 st/\Only f 0 200 wr wq/\Hid (st=qB R (total s.data.toList e) I k))
     case atStart=>exact⟨0,_,rfl,rfl,kh,Only.refl _ _ _ _,rfl⟩
     case round =>
      obtain⟨k,st,hk,rfl,N,hO,HE⟩:=hrel;have Y:st.size=200:=by rw[HE.out,yD];exact kf
      have F:=Holds.other a hO (Ne.symm kp) (by rw[UH,u];omega);by_cases ky:k<136
      ·obtain⟨y,l⟩:∃y,(total s.data.toList e)[I+k]! = y:=⟨_,rfl⟩
       obtain⟨c0,f0⟩:=rJ (x:=y) F (I+k) (by rw[UH,u];omega) (by rw[nA];exact l);obtain⟨z,C⟩:∃z,st[k]! = z:=⟨_,rfl⟩
       obtain⟨W,S⟩:=rJ N k oM C;rw[TO]at c0 W S;have HY:=mk1 (l);have HZ:Hid (st[k]! = z):=C;have K:(k:Int)<136:=oM;have O:(k:Int)<200:=oM;have V:(0:Int)<=(I:Int)+(k:Int):=oM;have bb:(I:Int)+(k:Int)<(L:Int):=oM;have bd:((I:Int)+(k:Int)).toNat=I+k:=oM;have b7:UR.wrap ((I:Int)+(k:Int))=(I:Int)+(k:Int):=UO _ oM;clear l C f0 F;go_wp2_with fail
       go_still_tail 14,mixed;go_wp2;go_roundg (gk-1)
       case measure=>omega
       case rel =>
        refine⟨k+1,st.setIfInBounds k (z ^^^ y),oM,by go_num,?_,?_,?_⟩
        ·have:=Holds.set N (i:=k) oM (z ^^^ y);rw[TO]at this;exact Holds.drew this
        ·exact(hO.setCell (o:=k) oM oM _).drew
        ·show _=(qB R (total s.data.toList e) I k).setIfInBounds k ((qB R (total s.data.toList e) I k)[k]! ^^^ (total s.data.toList e)[I+k]!);rw[<-HE.out,HZ.out,HY.out]
      ·have h9:k=136:=oM;subst h9;have b2:=Holds.lt N oM;have kc:=conv_str prog 23 9 5 slice22 int5 str9 _ f 0 200 H st N Y;have V:=t.trans (hO.below t.size kk);obtain⟨K,l⟩:∃x,kZ st=x:=⟨_,rfl⟩
       have O:K.size=200:=by rw[<-l,kZ,aQ]
       have kn:Hid (K=kB (total s.data.toList e) (i+1)):=by
        show K=kZ (qB (kB (total s.data.toList e) i) (total s.data.toList e) (136*i) 136);rw[<-HR.out,HI.out,<-HE.out,l]
       have ha:=mk1 (l.symm);go_wp2_with fail
       refine(mT ⟨st⟩ _ Y).mono ?_;rintro r w5 ⟨rfl,b⟩;have e5:=congrArg XE ha.symm;rw[e5];obtain⟨h3,w6,hm,C,S,W⟩:=Fh w5 K O;have k2:=Holds.lt F (by rw[UH,u];omega);have kt:=TF k2 b.size;have ki:=Holds.below (Holds.below F b k2) W kt;have h7:=(V.trans (b.mono V.size)).trans (W.mono (by have:=b.size;have:=V.size;omega));rw[kn.out]at S;have kx:w.heap.size<=w5.heap.size:=by have:=b.size;have:=V.size;omega
       go_wp2;go_roundg (M-(i+1))
       case measure=>omega
       case rel=>exact⟨i+1,w5.heap.size,h3,oM,by rw[<-HI.out];go_num,rfl,C,kx,oM,S,ki,h7⟩
    ·have kg:i=M:=oM;have ku:(L:Int)<=((136*i:Nat):Int):=by have:=h6.out;omega
     obtain⟨d,hd⟩:∃d,jT s.data.toList e=d:=⟨_,rfl⟩
     obtain⟨F,hF⟩:∃F,front (dY d 0) 200=F:=⟨_,rfl⟩
     have kr:Holds encB wr f 0 F:=by
      have:=Bj s.data.toList e;rw[HM.out,<-kg,hd]at this;rw[this]at hS;rw[<-hF,dY];exact hS
     have kv:d.size=25:=by rw[<-hd];exact nQ s.data.toList e
     have kj:=mk1 (hd.symm);have k7:=mk1 (hF.symm);generalize hI:136*i=I at *;have kw:decide (I<L)=false:=decide_eq_false oM;go_wp2;go_loopg [8,11] (n+136) (λg4 s8 s11 wq=>∃(m f H:Nat) (o:ByteArray) (N:Bs),136*m+g4=n+136/\1<=g4/\s11=.string o/\o.size=136*m/\s8=.slice (some ⟨f,0,none⟩) 200 H/\200<=H/\Holds encB wq f 0 N/\N.size=200/\Below w.heap.size w wq/\Hid (N=front (dY d m) 200)/\Hid (∀j,j<136*m->o.data[j]! = dR d j))
     case atStart=>exact⟨0,f,H,YZ,F,oM,oM,rfl,rfl,rfl,k5,kr,by rw[k7.out,aQ],t,k7,λj hj=>oM⟩
     case round =>
      obtain⟨m,f,H,o,N,T,kz,rfl,ho,rfl,k5,hF,V,t,HF,HO⟩:=hrel;have Ho:=mk1 (ho);by_cases k6:o.size<n
      ·have ht:(o.size:Int)<(n:Int):=oM;obtain⟨Q,hQ⟩:∃Q,front (dY d m) 136=Q:=⟨_,rfl⟩
       have Y:Q.size=136:=by rw[<-hQ,aQ]
       have R:∀j,j<136->Q[j]! = byteOf (dY d m) j:=λj hj=>by rw[<-hQ,jO _ _ _ hj]
       have k4:Holds encB wr f 0 Q:=by
        have h1:=B6 (dY d m);rw[<-HF.out,hQ]at h1;exact Holds.front hF h1.1 h1.2
       have kb:=IP o d m Q Y R ho HO;have ka:=mk1 (kb);obtain⟨K,l⟩:∃x,kZ N=x:=⟨_,rfl⟩
       have O:K.size=200:=by rw[<-l,kZ,aQ]
       have HN:Hid (K=front (dY d (m+1)) 200):=by
        show K=front (perm (dY d m)) 200;rw[<-l,HF.out,BD _ (dJ d kv m)]
       have ha:=mk1 (l.symm);have be:=conv_str prog 23 9 5 slice22 int5 str9 wr f 0 136 H Q k4 Y;have b5:=conv_str prog 23 9 5 slice22 int5 str9 wr f 0 200 H N hF V;clear hQ R k4 kb l HO ho;go_wp2_with fail
       refine(mT ⟨N⟩ _ V).mono ?_;rintro r w5 ⟨rfl,b⟩;have e5:=congrArg XE ha.symm;rw[e5];clear e5;obtain⟨h3,w6,hm,C,S,W⟩:=Fh w5 K O;have h7:Below w.heap.size w w6:=(t.trans (b.mono t.size)).trans (W.mono (by have:=b.size;have:=t.size;omega));go_wp2;go_roundg (gk-136)
       case measure=>have:=Ho.out;omega
       case rel=>exact⟨m+1,w5.heap.size,h3,o++(XE Q),K,by have:=Ho.out;omega,by have:=Ho.out;omega,rfl,ka.1,rfl,C,S,O,h7,HN,ka.2⟩
      ·have ku:(n:Int)<=(o.size:Int):=oM;have l:=zX o d n m ho oM HO;have C:Hid (o.extract 0 n=⟨fZ d n⟩):=l;clear l ho HO;go_wp2;go_ret;rw[<-kj.out,<-C.out];exact⟨rfl,t⟩
end SP
namespace SP
open Go.RowKit Go.Sort Go.Deep
theorem Bm(s:ByteArray)(w:TA)(b:s.size<=1048576):
 TW prog 132 #[.string s] w λr w'=>r=.returned (.string ⟨yW s.data.toList⟩)/\Below w.heap.size w w':=by
 go_enter func132,ntmps132;go_wp2_with fail
 refine(oR s 6 32 _ b dC).mono ?_;rintro r c ⟨rfl,k⟩;rw[<-B5];go_wp2;go_ret;exact⟨rfl,k⟩
theorem xU(s:ByteArray)(n:Nat)(w:TA)(c:s.size<=1048576)(k:n<=16384):
 TW prog 162 #[.string s,iZ n] w λr w'=>r=.returned (.string ⟨uW s.data.toList n⟩)/\Below w.heap.size w w':=by
 go_enter func162,ntmps162;go_wp2_with fail
 refine(oR s 31 n _ c k).mono ?_;rintro r d ⟨rfl,b⟩;go_wp2;go_ret;exact⟨rfl,b⟩
theorem vK(b:ByteArray)(C:Option Addr)(t:Nat)(c:List ByteArray)(w:TA)(y:b.size<=1048576)(P:c.length<=1048576)
 (l:c.length=0\/∃i f,C=some ⟨i,f,none⟩/\∀j,j<c.length->w.cell? ⟨i,f+j,none⟩=some (.string c[j]!)) (H:∀j,j<c.length->(c[j]!).size<=1048576)
 (d:(bO b.data.toList (c.map λs=>s.data.toList)).length<=1048576) :
 TW prog 97 #[.string b,.slice C c.length t] w λe w'=>e=.returned (.string ⟨jU b.data.toList (c.map λs=>s.data.toList)⟩)/\Below w.heap.size w w':=by
 obtain⟨n,L⟩:∃n,c.length=n:=⟨_,rfl⟩
 rw[L];have m:Hid (c.length=n):=L;go_enter func97,ntmps97;go_wp2_with fail
 refine(zL b _ y).mono ?_;rintro e Q ⟨N,rfl,D,I⟩;go_wp2;go_loopg [5,6] n (λg s5 s6 wr=>∃(k:Nat) (o:ByteArray),k+g=n/\s6=iZ k/\s5=.string o/\Below w.heap.size w wr/\Hid (o.data.toList=bO b.data.toList ((c.map λs=>s.data.toList).take k)))
 case atStart =>
  refine⟨0,N,oM,rfl,rfl,I,?_⟩;rw[YX];unfold bO;rw[List.flatMap_nil,List.append_nil];exact D
 case round =>
  obtain⟨k,o,S,rfl,rfl,v,A⟩:=hrel;by_cases M:k<n
  ·obtain⟨i,f,rfl,u⟩:∃i f,C=some ⟨i,f,none⟩/\∀j,j<c.length->w.cell? ⟨i,f+j,none⟩=some (.string c[j]!):=by
    rcases l with h|h
    ·have:=m.out;omega
    ·exact h
   have d:=u k (by have:=m.out;omega);have l:=H k (by have:=m.out;omega);obtain⟨s,F⟩:∃s,c[k]! = s:=⟨_,rfl⟩
   rw[F]at d l;have O:=mk1 (F.symm);have K:wr.cell? ⟨i,f+k,none⟩=some (.string s):=by rw[v.cell (p:=⟨i,f+k,none⟩) (Vt _ _ d)];exact d
   have l1:(k:Int)<(n:Int):=oM;clear F d u;go_wp2_with fail
   refine(zL s _ l).mono ?_;rintro e R ⟨B,rfl,r,E⟩;have G:=mk1 (r);have x:o.size<=1048576:=by
    have a:o.data.toList.length=o.size:=TR;rw[A.out]at a;have:=As b.data.toList (c.map λs=>s.data.toList) k;omega
   have J:B.size<=1048580:=by
    have a:B.data.toList.length=B.size:=TR;have q:s.data.toList.length=s.size:=TR;rw[r,iI]at a;omega
   go_wp2;go_roundg (gk-1)
   case measure=>omega
   case rel =>
    refine⟨k+1,o++B,oM,by go_num,rfl,v.trans (E.mono v.size),?_⟩;have q:k<(c.map λs=>s.data.toList).length:=by rw[Uk];have:=m.out;omega
    have z:k<c.length:=by have:=m.out;omega
    rw[mJ _ k q,rD,Yl,YU,A.out,G.out,getElem!_pos (c.map λs=>s.data.toList) k q,List.getElem_map,O.out,getElem!_pos c k z];rfl
  ·have l1:(n:Int)<=(k:Int):=oM;have d:Hid (o.data.toList=bO b.data.toList (c.map λs=>s.data.toList)):=by
    have f:(c.map λs=>s.data.toList).take k=c.map λs=>s.data.toList:=List.take_of_length_le (by rw[Uk];have:=m.out;omega)
    rw[f]at A;exact A
   have x:o.size<=1048576:=by
    have a:o.data.toList.length=o.size:=TR;rw[d.out]at a;omega
   go_wp2_with fail
   refine(Bm o _ x).mono ?_;rintro e i ⟨rfl,f⟩;rw[d.out];go_wp2;go_ret;exact⟨rfl,v.trans (f.mono v.size)⟩
def RLog(w:TA)(y:Nat)(L:Bs):Prop:=w.cell? ⟨y,0,none⟩=some (.string ⟨L⟩)/\w.frozen? ⟨y,0,none⟩=false
theorem Hy(W:TA)(vs:Array TC)(k:List ByteArray)(t:Uw)(d:vs.size=k.length)(h:∀j,j<k.length->vs[j]! = .string k[j]!):
 ∀j,j<k.length->(W.alloc (.cells vs t)).cell? ⟨W.heap.size,0+j,none⟩=some (.string k[j]!):=by
 intro j b;have c:vs.map encV=vs:=by
  have:encV=id:=rfl;rw[this,yBt]
 have:=(Holds.new (enc:=encV) W t vs j oM).1;rw[c,h j b]at this;exact this
theorem Aq(k:List UInt8)(b:List (List UInt8))(M:Nat)(f:k.length<=M)(c:∀p∈b,p.length<=M):(bO k b).length<=(b.length+1)*(M+4):=by
 unfold bO;rw[TT,iI];have:(b.flatMap gZ).length<=b.length*(M+4):=by
  induction b with
  | nil=>simp
  | cons p b ih =>
   rw[List.flatMap_cons,TT,iI,Uy,yBC];have g:=c p (Uz ..);have e:=ih (λq d=>c q (Uq _ d));omega
 rw[yBC];omega
theorem o8(b:ByteArray)(vs:Array TC)(k:List ByteArray)(n:Nat)(W:TA)(g:k.length=n)(hv:vs.size=k.length)(h:∀j,j<k.length->vs[j]! = .string k[j]!)(c:b.size<=16384)(l:n<=8)(f:∀p∈k,p.size<=16384):
 TW prog 97 #[.string b,.slice (some ⟨W.heap.size,0,none⟩) n n] (W.alloc (.cells vs 9)) λe w'=>e=.returned (.string ⟨jU b.data.toList (k.map λs=>s.data.toList)⟩)/\Below (W.alloc (.cells vs 9)).heap.size (W.alloc (.cells vs 9)) w':=by
 subst g;refine vK b (some ⟨W.heap.size,0,none⟩) k.length k (W.alloc (.cells vs 9)) oM oM (T8 ⟨W.heap.size,0,rfl,Hy W vs k 9 hv h⟩) (λj d=>?_) ?_
 ·rw[getElem!_pos k j d];have:=f _ (List.getElem_mem d);omega
 ·have:=Aq b.data.toList (k.map λs=>s.data.toList) 16384 (by rw[TR];exact c) (λp i=>by
   obtain⟨s,m,rfl⟩:=UM.1 i;rw[TR];exact f s m)
  rw[Uk]at this;omega
theorem Iq(w:TA)(t:Uw)(N:Bs):RLog (w.alloc (.cells #[.string ⟨N⟩] t)) w.heap.size N:=by
 have:=Holds.new (enc:=encV) w t #[.string ⟨N⟩] 0 (by simp);have k:(#[yBp ⟨N⟩]).map encV=#[yBp ⟨N⟩]:=by
  have:encV=id:=rfl;rw[this,yBt]
 rw[k]at this;exact⟨this.1,this.2⟩
theorem CZ(k:ByteArray)(w:TA)(c:k.size<=16384):
 TW prog 68 #[.string k] w λe w'=>∃y,e=.returned (pZ y)/\w.heap.size<=y/\Below w.heap.size w w'/\RLog w' y (newL k.data.toList):=by
 have n:=o8 ⟨#[108,111,103]⟩ #[.string k] [k] 1 w rfl rfl (λj g=>by
  have b:j=0:=by simpa using g
  subst b;rfl) dC dC (λp d=>by
  have:p=k:=by simpa using d
  rw[this];exact c)
 go_enter func68,ntmps68;go_wp2_with fail
 refine n.mono ?_;rintro e l ⟨rfl,f⟩;have i:jU (⟨#[108,111,103]⟩:ByteArray).data.toList ([k].map λs=>s.data.toList)=newL k.data.toList:=rfl;rw[i];obtain⟨N,d⟩:∃N,newL k.data.toList=N:=⟨_,rfl⟩
 rw[d];have o:=mk1 (d.symm);have b:=((TX _ _).alloc (TG _) _).trans (f.mono (by simp));have m:=b.size;go_wp2;go_ret;rw[<-o.out];exact⟨l.heap.size,rfl,oM,b.alloc oM _,Iq _ _ _⟩
theorem RLog.lt{w:TA}{y:Nat}{L:Bs}(h:RLog w y L):y<w.heap.size:=Vt _ _ h.1
theorem RLog.below{w c:TA}{y:Nat}{L:Bs}(h:RLog w y L)(k:Below w.heap.size w c):RLog c y L:=by
 have f:=(Only.of_below (b:=w.heap.size) (off:=0) (n:=0) (B:=w.heap.size) k rfl)
 have d:=h.lt;have e:=k.block y d;unfold RLog World.cell? World.frozen? at *;simp only at *;rw[e];exact h
theorem RLog.set{w:TA}{y:Nat}{L:Bs}(h:RLog w y L)(M:Bs):RLog (w.setCell (aZ y) (.string ⟨M⟩)) y M:=by
 have c:Holds encV w y 0 #[.string ⟨L⟩]:=by
  intro j b;have k:j=0:=by simpa using b
  subst k;exact⟨h.1,h.2⟩
 have:=Holds.set c (i:=0) (by simp) (.string ⟨M⟩);have k:=this 0 (by simp);simp only[VK]at k;exact⟨by simpa[encV]using k.1,k.2⟩
theorem lR(y:Nat)(L:Bs)(k b:ByteArray)(w:TA)(f:k.size<=16384)(z:b.size<=16384)(B:L.size=32)(o:RLog w y L):
 TW prog 64 #[pZ y,.string k,.string b] w λe w'=>e=.returned (.tuple #[])/\Only y 0 1 w w'/\RLog w' y (kU L k.data.toList b.data.toList):=by
 have a:=o.lt;have r:=o8 ⟨#[115,97,121]⟩ #[.string ⟨L⟩,.string k,.string b] [⟨L⟩,k,b] 3 w rfl rfl (λj x=>by
  have c:j<3:=x;match j,c with
  | 0,_=>rfl
  | 1,_=>rfl
  | 2,_=>rfl) dC dC (λp d=>by
  simp only[U0,Ud,or_false]at d;rcases d with rfl|rfl|rfl
  ·show L.size<=16384;omega
  ·exact f
  ·exact z)
 obtain⟨N,d⟩:∃N,kU L k.data.toList b.data.toList=N:=⟨_,rfl⟩
 have i:TW prog 97 #[.string ⟨#[115,97,121]⟩,.slice (some ⟨w.heap.size,0,none⟩) 3 3] (w.alloc (.cells #[.string ⟨L⟩,.string k,.string b] 9)) λe w'=>e=.returned (.string ⟨N⟩)/\Below (w.alloc (.cells #[.string ⟨L⟩,.string k,.string b] 9)).heap.size (w.alloc (.cells #[.string ⟨L⟩,.string k,.string b] 9)) w':=by
  rw[<-d];exact r
 rw[d];have u:Hid (TW prog 97 #[.string ⟨#[115,97,121]⟩,.slice (some ⟨w.heap.size,0,none⟩) 3 3] (w.alloc (.cells #[.string ⟨L⟩,.string k,.string b] 9)) λe w'=>e=.returned (.string ⟨N⟩)/\Below (w.alloc (.cells #[.string ⟨L⟩,.string k,.string b] 9)).heap.size (w.alloc (.cells #[.string ⟨L⟩,.string k,.string b] 9)) w'):=i;have g:Below w.heap.size w (w.alloc (.cells #[.string ⟨L⟩,.string k,.string b] 9)):=(TX _ _).alloc (TG _) _;obtain⟨v,s⟩:=o;clear r i d;go_enter func64,ntmps64;go_wp2_with fail
 refine(u.out).mono ?_;rintro e q ⟨rfl,l⟩;have c:Below w.heap.size w q:=g.trans (l.mono g.size);have n:=RLog.below ⟨v,s⟩ c;have m:Only y 0 1 w q:=Only.of_below c rfl a;obtain⟨A,t⟩:=n;go_wp2
 go_end0
 exact⟨rfl,m.setCell oM oM _,RLog.set ⟨A,t⟩ N⟩
theorem EG(b:ByteArray)(c:b.size<=16384)(L:Bs)(l:L.size=32)(k:ByteArray)(i:k.size<=16384)(w:TA):
 TW prog 97 #[.string b,.slice (some ⟨w.heap.size,0,none⟩) 2 2] (w.alloc (.cells #[.string ⟨L⟩,.string k] 9)) λe w'=>e=.returned (.string ⟨jU b.data.toList [L.toList,k.data.toList]⟩)/\Below (w.alloc (.cells #[.string ⟨L⟩,.string k] 9)).heap.size (w.alloc (.cells #[.string ⟨L⟩,.string k] 9)) w':=
 o8 b #[.string ⟨L⟩,.string k] [⟨L⟩,k] 2 w rfl rfl (λj g=>by
  have d:=g;match j,d with
  | 0,_=>rfl
  | 1,_=>rfl) c dC (λp f=>by
  simp only[U0,Ud,or_false]at f;rcases f with rfl|rfl
  ·show L.size<=16384;omega
  ·exact i)
theorem C5(y:Nat)(L:Bs)(k:ByteArray)(n:Nat)(w:TA)(f:k.size<=16384)(U:n<=1024)(E:L.size=32)(D:RLog w y L):
 TW prog 136 #[pZ y,.string k,iZ n] w λe w'=>e=.returned (.string ⟨t7 L k.data.toList n⟩)/\Only y 0 1 w w'/\RLog w' y (mD L k.data.toList):=by
 have P:=D.lt;have F:=EG ⟨#[97,115,107]⟩ dC L E k f w;obtain⟨T,c⟩:∃T,jU [97,115,107] [L.toList,k.data.toList]=T:=⟨_,rfl⟩
 have K:T.size=32:=by rw[<-c,eO]
 obtain⟨N,l⟩:∃N,mD L k.data.toList=N:=⟨_,rfl⟩
 obtain⟨A,j⟩:∃A,t7 L k.data.toList n=A:=⟨_,rfl⟩
 have R:Hid (uW T.toList n=A):=by
  show _=_;rw[<-j,<-c];rfl
 have S:Hid (jU [97,115,107,101,100] [L.toList,k.data.toList]=N):=l;have C:Hid (TW prog 97 #[.string ⟨#[97,115,107]⟩,.slice (some ⟨w.heap.size,0,none⟩) 2 2] (w.alloc (.cells #[.string ⟨L⟩,.string k] 9)) λe w'=>e=.returned (.string ⟨T⟩)/\Below (w.alloc (.cells #[.string ⟨L⟩,.string k] 9)).heap.size (w.alloc (.cells #[.string ⟨L⟩,.string k] 9)) w'):=by
  show TW _ _ _ _ _;rw[<-c];exact F
 rw[l,j];have m:Below w.heap.size w (w.alloc (.cells #[.string ⟨L⟩,.string k] 9)):=(TX _ _).alloc (TG _) _;obtain⟨J,G⟩:=D;clear F l j c;go_enter func136,ntmps136;go_wp2_with fail
 refine(C.out).mono ?_;rintro e M ⟨rfl,p⟩;have g:Below w.heap.size w M:=m.trans (p.mono m.size);clear C m p;go_wp2_with fail
 refine(xU ⟨T⟩ n _ (by show T.size<=1048576;omega) oM).mono ?_;rintro e b ⟨rfl,B⟩;have r:uW (⟨T⟩:ByteArray).data.toList n=A:=R.out;rw[r];have i:Below w.heap.size w b:=g.trans (B.mono g.size);have o:=RLog.below ⟨J,G⟩ i;have a:Only y 0 1 w b:=Only.of_below i rfl P;have u:=o.lt;obtain⟨I,Q⟩:=o;have t:=EG ⟨#[97,115,107,101,100]⟩ dC L E k f b;have v:Hid (TW prog 97 #[.string ⟨#[97,115,107,101,100]⟩,.slice (some ⟨b.heap.size,0,none⟩) 2 2] (b.alloc (.cells #[.string ⟨L⟩,.string k] 9)) λe w'=>e=.returned (.string ⟨N⟩)/\Below (b.alloc (.cells #[.string ⟨L⟩,.string k] 9)).heap.size (b.alloc (.cells #[.string ⟨L⟩,.string k] 9)) w'):=by
  show TW _ _ _ _ _;rw[<-S.out];exact t
 have q:Below b.heap.size b (b.alloc (.cells #[.string ⟨L⟩,.string k] 9)):=(TX _ _).alloc (TG _) _;go_wp2_with fail
 refine(v.out).mono ?_;rintro e V ⟨rfl,z⟩;have d:=q.trans (z.mono q.size);have x:=RLog.below ⟨I,Q⟩ d;have s:=a.trans (Only.of_below d rfl u);obtain⟨O,H⟩:=x;go_wp2;go_ret;exact⟨rfl,s.setCell oM oM _,RLog.set ⟨O,H⟩ N⟩
end SP
section
open Go.RowKit Go.Sort Go.Deep
variable {P:Nat}[NeZero P]{N:Nat}
theorem uF{w W:TA}{k s b p0 p1 q m e p l r d n j o g i c f:Nat}(h:Kept w k [⟨k,0,p0,p1,q,m⟩,⟨k,4,e,p,l,r⟩,⟨b,0,d,n,j,o⟩,⟨b,4,g,i,c,f⟩,⟨s,0,0,0,0,0⟩] W):W.cell? ⟨k,0,none⟩=some (uZ p0)/\W.cell? ⟨k,1,none⟩=some (uZ p1)/\W.cell? ⟨k,2,none⟩=some (uZ q)/\W.cell? ⟨k,3,none⟩=some (uZ m)/\W.cell? ⟨k,4,none⟩=some (uZ e)/\W.cell? ⟨k,5,none⟩=some (uZ p)/\W.cell? ⟨k,6,none⟩=some (uZ l)/\W.cell? ⟨k,7,none⟩=some (uZ r)/\W.cell? ⟨b,0,none⟩=some (uZ d)/\W.cell? ⟨b,1,none⟩=some (uZ n)/\W.cell? ⟨b,2,none⟩=some (uZ j)/\W.cell? ⟨b,3,none⟩=some (uZ o)/\W.cell? ⟨b,4,none⟩=some (uZ g)/\W.cell? ⟨b,5,none⟩=some (uZ i)/\W.cell? ⟨b,6,none⟩=some (uZ c)/\W.cell? ⟨b,7,none⟩=some (uZ f)/\Kept w k [⟨k,0,p0,p1,q,m⟩,⟨k,4,e,p,l,r⟩,⟨b,0,d,n,j,o⟩,⟨b,4,g,i,c,f⟩,⟨s,0,0,0,0,0⟩] W:=
 ⟨h.head.c0,h.head.c1,h.head.c2,h.head.c3,h.tail.head.c0,h.tail.head.c1,h.tail.head.c2,h.tail.head.c3,h.tail.tail.head.c0,h.tail.tail.head.c1,h.tail.tail.head.c2,h.tail.tail.head.c3,h.tail.tail.tail.head.c0,h.tail.tail.tail.head.c1,h.tail.tail.tail.head.c2,h.tail.tail.tail.head.c3,h⟩
theorem GG{v:TC}{n B:Nat}(b:Four v n)(e:B<256):n*val 256 0 0 0+(val B 0 0 0+top*val 0 0 0 0)<top*top:=by
 have f:=b.lt;have k:val 256 0 0 0=256:=rfl;have c:val B 0 0 0=B:=by unfold val;omega
 have e3:val 0 0 0 0=0:=rfl;have d:(top-1)*256+256<=top*top:=by unfold top;decide
 rw[k,c,e3];omega
theorem IZ(P:Nat)(s:ByteArray)(k:Nat)(c:k<s.size):
 (beV (s.data.extract 0 k).toList%P*val 256 0 0 0+(val s[k].toNat 0 0 0+top*val 0 0 0 0))%P=beV (s.data.extract 0 (k+1)).toList%P:=by
 have e:(s.data.extract 0 (k+1)).toList=(s.data.extract 0 k).toList++[s[k]]:=by
  rw[Array.extract_succ_right oM c,Array.toList_push];rfl
 have b:val 256 0 0 0=256:=rfl;have d:val s[k].toNat 0 0 0=s[k].toNat:=by unfold val;omega
 have e3:val 0 0 0 0=0:=rfl;rw[e,jR,b,d,e3,XZ,VK,XG,VT,yAO,<-VT,<-XG];simp[beV]
theorem IB(p0 p1 m n j l o i P:Nat)(s:ByteArray)(hR:RefP p0 p1 m n j l o i P)(hs:s.size<=1048576)(w:TA):
 TW prog 135 #[.agg #[.int .u64 p0,.int .u64 p1,.int .u64 m,.int .u64 n,.int .u64 j,.int .u64 l,.int .u64 o,.int .u64 i],.string s] w (Ret λe w'=>Below w.heap.size w w'/\Four e (beV s.data.toList%P)):=by
 have t:Hid (RefP p0 p1 m n j l o i P):=hR;clear hR;go_enter func135,ntmps135;go_wp2;have z:=((At8.made w 112 p0 p1 m n j l o i rfl).alloc (.cells #[.int .u64 0,.int .u64 0,.int .u64 0,.int .u64 0] 68)).alloc (.cells #[.int .u64 0,.int .u64 0,.int .u64 0,.int .u64 0] 68);have RE:=(At4.made (w.alloc (.cells #[.int .u64 p0,.int .u64 p1,.int .u64 m,.int .u64 n,.int .u64 j,.int .u64 l,.int .u64 o,.int .u64 i] 112)) 68 0 0 0 0 (TQ _ _)).alloc (.cells #[.int .u64 0,.int .u64 0,.int .u64 0,.int .u64 0] 68);have NN:=At4.made ((w.alloc (.cells #[.int .u64 p0,.int .u64 p1,.int .u64 m,.int .u64 n,.int .u64 j,.int .u64 l,.int .u64 o,.int .u64 i] 112)).alloc (.cells #[.int .u64 0,.int .u64 0,.int .u64 0,.int .u64 0] 68)) 68 0 0 0 0 (k:=w.heap.size+1+1) (by simp);have f:=((((Kept.mk1 (below3 w (.cells #[.int .u64 p0,.int .u64 p1,.int .u64 m,.int .u64 n,.int .u64 j,.int .u64 l,.int .u64 o,.int .u64 i] 112) (.cells #[.int .u64 0,.int .u64 0,.int .u64 0,.int .u64 0] 68) (.cells #[.int .u64 0,.int .u64 0,.int .u64 0,.int .u64 0] 68)) (below3 w (.cells #[.int .u64 p0,.int .u64 p1,.int .u64 m,.int .u64 n,.int .u64 j,.int .u64 l,.int .u64 o,.int .u64 i] 112) (.cells #[.int .u64 0,.int .u64 0,.int .u64 0,.int .u64 0] 68) (.cells #[.int .u64 0,.int .u64 0,.int .u64 0,.int .u64 0] 68)).size).cons RE.blk).cons NN.blk).cons (x:=⟨w.heap.size,4,j,l,o,i⟩) ⟨z.c4,z.c5,z.c6,z.c7,z.fz⟩).cons (x:=⟨w.heap.size,0,p0,p1,m,n⟩) ⟨z.c0,z.c1,z.c2,z.c3,z.fz⟩;clear z RE NN;generalize U2 _ _=W0 at f⊢;go_loopg [6] s.size (λgk s6 wr=>∃(k a b c d:Nat),k+gk=s.size/\s6=.int .i64 k/\Kept w w.heap.size [⟨w.heap.size,0,p0,p1,m,n⟩,⟨w.heap.size,4,j,l,o,i⟩,⟨w.heap.size+1+1,0,a,b,c,d⟩,⟨w.heap.size+1,0,0,0,0,0⟩] wr /\
  Hid (Four (.agg #[.int .u64 a,.int .u64 b,.int .u64 c,.int .u64 d]) (beV (s.data.extract 0 k).toList%P)))
 case atStart =>
  refine⟨0,0,0,0,0,TO _,rfl,f,?_⟩;have:beV (s.data.extract 0 0).toList=0:=by simp[beV]
  rw[this,Nat.zero_mod];exact Four.mk dC dC dC dC rfl
 case round =>
  clear f;obtain⟨k,a,b,c,d,hk,rfl,f,HF⟩:=hrel;generalize h2:w.heap.size+1+1=V at f⊢;generalize h1:w.heap.size+1=W at f⊢;have H:Hid (w.heap.size+1=W/\w.heap.size+1+1=V):=⟨h1,h2⟩
  have Q1:Hid (w.heap.size<=W):=by unfold Hid;omega
  have Q2:Hid (w.heap.size<=V):=by unfold Hid;omega
  have n12:V≠W:=oM;have J:V≠w.heap.size:=oM;generalize h0:w.heap.size=g at f Q1 Q2 J⊢;have H0:Hid (w.heap.size=g):=h0;clear h0 h1 h2;obtain⟨hc,hb,hi,hj,nf⟩:=f.tail.tail.head.at4;have z2:=f.tail.tail.head.lt;by_cases hg:k<s.size
  ·have hl:(k:Int)<(s.size:Int):=oM;go_wp2_with fail
   refine(lP _ _ _ _ HF.out (Four.mk (a:=256) (b:=0) (c:=0) (d:=0) dC dC dC dC rfl) _).mono ?_;rintro r G ⟨v,rfl,h5,A⟩;obtain⟨O,T,S,L,D,E,C,Q,rfl,kc,hx,hw,hz,hy,kd,k4,k9,ha⟩:=id A;clear ha hc hb hi hj nf z2;replace f:=f.call h5;clear h5;have y:=At8.made G 167 O T S L D E C Q rfl;have p:=f.tail.tail.head.at4.alloc (.cells #[.int .u64 O,.int .u64 T,.int .u64 S,.int .u64 L,.int .u64 D,.int .u64 E,.int .u64 C,.int .u64 Q] 167);have h3:Kept w g [⟨g,0,p0,p1,m,n⟩,⟨g,4,j,l,o,i⟩,⟨G.heap.size,0,O,T,S,L⟩,⟨G.heap.size,4,D,E,C,Q⟩,⟨W,0,0,0,0,0⟩] _:=
    ((((f.alloc _).tail.tail.tail.cons (x:=⟨G.heap.size,4,D,E,C,Q⟩) ⟨y.c4,y.c5,y.c6,y.c7,y.fz⟩).cons (x:=⟨G.heap.size,0,O,T,S,L⟩) ⟨y.c0,y.c1,y.c2,y.c3,y.fz⟩).cons (x:=⟨g,4,j,l,o,i⟩) (f.alloc _).tail.head).cons (x:=⟨g,0,p0,p1,m,n⟩) (f.alloc _).head
   have M:V≠G.heap.size:=Vl f.tail.tail.head.lt;clear y f;have f:=h3;clear h3;have z0:=f.head.lt;go_wp2_with fail
   generalize U2 _ _=W7 at f p⊢;generalize G.heap.size=q at f M⊢;have I:∀x∈([⟨g,0,p0,p1,m,n⟩,⟨g,4,j,l,o,i⟩,⟨q,0,O,T,S,L⟩,⟨q,4,D,E,C,Q⟩,⟨W,0,0,0,0,0⟩]:List Blk),V≠x.k:=by simp only[U0,Ud,or_false];rintro x (rfl|rfl|rfl|rfl|rfl);exact J;exact J;exact M;exact M;exact n12
   have h7:Hid (mG _ _):=A;obtain⟨B,hB⟩:∃B,s[k].toNat=B:=⟨_,rfl⟩
   have U:B<256:=hB ▸ s[k].toNat_lt;have ht:Uv.wrap (s[k].toNat:Int)=(B:Int):=by rw[hB];exact wrapN _ oM
   have h4:Hid _:=IZ P s k hg;have HB:Hid (s[k].toNat=B):=hB;clear A hB z0;obtain⟨X,Y,Z,h6,tf⟩:=id p;have zt:=p.lt;go_region_held3 (λw'=>w'.cell? ⟨g,0,none⟩=some (.int .u64 p0)/\w'.cell? ⟨g,1,none⟩=some (.int .u64 p1)/\w'.cell? ⟨g,2,none⟩=some (.int .u64 m)/\w'.cell? ⟨g,3,none⟩=some (.int .u64 n)/\w'.cell? ⟨g,4,none⟩=some (.int .u64 j)/\w'.cell? ⟨g,5,none⟩=some (.int .u64 l)/\w'.cell? ⟨g,6,none⟩=some (.int .u64 o)/\w'.cell? ⟨g,7,none⟩=some (.int .u64 i)/\w'.cell? ⟨q,0,none⟩=some (.int .u64 O)/\w'.cell? ⟨q,1,none⟩=some (.int .u64 T)/\w'.cell? ⟨q,2,none⟩=some (.int .u64 S)/\w'.cell? ⟨q,3,none⟩=some (.int .u64 L)/\w'.cell? ⟨q,4,none⟩=some (.int .u64 D)/\w'.cell? ⟨q,5,none⟩=some (.int .u64 E)/\w'.cell? ⟨q,6,none⟩=some (.int .u64 C)/\w'.cell? ⟨q,7,none⟩=some (.int .u64 Q)/\Kept w g [⟨g,0,p0,p1,m,n⟩,⟨g,4,j,l,o,i⟩,⟨q,0,O,T,S,L⟩,⟨q,4,D,E,C,Q⟩,⟨W,0,0,0,0,0⟩] w') (first|(with_reducible exact uF f)|(with_reducible exact uF f.drew)|(with_reducible exact uF (f.set4' Q2.out I _ _ _ _))|(with_reducible exact uF (f.set4' Q2.out I _ _ _ _).drew)|fail) (first|(go_at_call 104;refine(rS _ _ _ _ h7.out ⟨B,0,0,0,0,0,0,0,rfl,oM,dC,dC,dC,dC,dC,dC,dC,rfl⟩ (GG HF.out U) _).mono ?_;rintro r w2 ⟨v,rfl,R,N⟩;obtain⟨y0,y1,y2,y3,y4,y5,y6,y7,rfl,ke,kb,hp,ka,k5,hn,hq,hu,h8⟩:=id N;clear h8;have he:Hid (mG _ _):=N;clear N;have u:=f.drew.call R;have T1:=p.drew.call R;clear f p R;have f:=u;have p:=T1;clear u T1;obtain⟨X,Y,Z,h6,tf⟩:=id p;have zt:=p.lt)|(go_at_call 100;refine(rX p0 p1 m n j l o i P _ _ t.hp0 t.hp1 t.hp2 t.hp3 t.hc0 t.hc1 t.hc2 t.hc3 t.eP t.hP t.hP2 he.out _).mono ?_;rintro r w3 ⟨v,rfl,F,K⟩;obtain⟨a',b',c',d',rfl,hm,k6,k8,k3,hh⟩:=id K;clear hh;have h9:Hid (Four _ _):=K;clear K;have u:=f.call F;have T1:=p.call F;clear f p F;have f:=u;have p:=T1;clear u T1;obtain⟨X,Y,Z,h6,tf⟩:=id p;have zt:=p.lt))
   go_wp2;obtain⟨q1,q2⟩:=H.out;have q0:=H0.out;subst q1 q2 q0;go_roundg (gk-1)
   case measure=>omega
   case rel =>
    refine⟨k+1,a',b',c',d',oM,rfl,?_,?_⟩
    ·have K3:=f.set4' Q2.out I (.int .u64 a') (.int .u64 b') (.int .u64 c') (.int .u64 d');exact(((K3.tail.tail.tail.tail).cons (p.self4 a' b' c' d').blk).cons K3.tail.head).cons K3.head
    ·have h1:=h9.out;rw[HB.out]at h4;unfold Hid;rw[<-h4.out];exact h1
  ·have q:k=s.size:=oM;have D:¬((k:Int)<(s.size:Int)):=oM;obtain⟨A,y,E,u,F⟩:=f.tail.tail.tail.head.at4;have G:=f.tail.tail.tail.head.lt;have C:Hid (k=s.size):=q;clear q;go_wp2;have p:=f.tail.tail.tail.head.at4.self4 a b c d;unfold set4 at p;refine TM (v:=?v) ?hr rfl ?hR
   case hr=>simp[results,Tryz.results135,go_sem,p.c0,p.c1,p.c2,p.c3];rfl
   refine⟨_,rfl,?_,?_⟩
   ·rw[H0.out];exact aF f.bl Q1.out _ _ _ _
   ·have:=HF.out;rw[C.out,show s.size=s.data.size from rfl,yAs]at this;exact this
end
section
open Go.RowKit Go.Sort
variable {P:Nat}[NeZero P]{N:Nat}
def rl0:List TC:=[uZ 18446744069414583343,uZ 18446744073709551615,uZ 18446744073709551615,uZ 18446744073709551615,uZ 4294968273,uZ 0,uZ 0,uZ 0]
def rv0:TC:=.agg rl0.toArray
structure Fl3(P:Nat)[NeZero P]:Prop extends Fld P where
 ref:RefP 18446744069414583343 18446744073709551615 18446744073709551615 18446744073709551615 4294968273 0 0 0 P
theorem LI:Gives 94 #[iZ 0] rv0:=λw=>(Ow w).mono (by rintro e w' ⟨v,rfl,k,rfl⟩;exact⟨_,rfl,k,rfl⟩)
theorem o9(h:Fl3 P)(x y:Fin P):Gives 60 #[rv0,fv x,fv y] (fv (x+y)):=λw =>
 (Db h.ref (h.four x) (h.four y) w).mono (by rintro e w' ⟨v,rfl,k,b⟩;exact⟨_,rfl,k,b.nv⟩)
theorem bB(h:Fl3 P)(x y:Fin P):Gives 55 #[rv0,fv x,fv y] (fv (x*y)):=λw =>
 (rW h.ref (h.four x) (h.four y) w).mono (by rintro e w' ⟨v,rfl,k,b⟩;exact⟨_,rfl,k,b.nv⟩)
theorem lT(h:Fl3 P)(x y:Fin P):Gives 59 #[rv0,fv x,fv y] (fv (x-y)):=λw =>
 (Iy _ _ _ _ _ _ _ _ P _ _ x.val y.val h.ref (h.four x) (h.four y) y.isLt w).mono (by rintro e w' ⟨v,rfl,b,k⟩;rw[uA]at k;exact⟨_,rfl,b,k.nv⟩)
theorem ID(h:Fl3 P)(x:Fin P):Gives 62 #[rv0,fv x] (fv (EC.inv x)):=λw =>
 (Bu _ _ _ _ _ _ _ _ P _ x.val h.ref (h.four x) w).mono (by rintro e w' ⟨v,rfl,k,b⟩;exact⟨_,rfl,k,b.nv⟩)
theorem Lx(h:Fl3 P){x:Fin P}(e:x=0):Gives 56 #[fv x] (.bool true):=λw =>
 (nY _ _ (h.four x) w).mono (by
  rintro e w' ⟨v,rfl,k,rfl⟩;refine⟨_,rfl,k,?_⟩;rw[decide_eq_true (by rw[e,EC.val_zero])])
theorem EJ(h:Fl3 P){x:Fin P}(e:¬x=0):Gives 56 #[fv x] (.bool false):=λw =>
 (nY _ _ (h.four x) w).mono (by
  rintro e w' ⟨v,rfl,k,rfl⟩;refine⟨_,rfl,k,?_⟩;rw[decide_eq_false (λh=>e (Yx (by rw[EC.val_zero];exact h)))])
theorem rV(h:Fl3 P):Gives 102 #[uZ 1] (fv (1:Fin P)):=λw =>
 (lU 1 dC w).mono (by rintro e w' ⟨v,rfl,k,rfl⟩;exact⟨_,rfl,k,Ag h.toFld⟩)
theorem yO(h:Fl3 P):Gives 102 #[uZ 7] (fv (7:Fin P)):=λw =>
 (lU 7 dC w).mono (by rintro e w' ⟨v,rfl,k,rfl⟩;exact⟨_,rfl,k,vD h.toFld⟩)
theorem eqR(h:Fld P)(x y:Fin P)(w:TA):(binOp .eql 68 (fv x) (fv y)).run prog w=.ok (.bool (decide (x=y))) w:=by
 have b:(binOp .eql 68 (fv x) (fv y)).run prog w=.ok (.bool (decide (x.val%18446744073709551616=y.val%18446744073709551616/\x.val/18446744073709551616%18446744073709551616=y.val/18446744073709551616%18446744073709551616/\x.val/340282366920938463463374607431768211456%18446744073709551616=y.val/340282366920938463463374607431768211456%18446744073709551616/\x.val/6277101735386680763835789423207666416102355444464034512896%18446744073709551616=y.val/6277101735386680763835789423207666416102355444464034512896%18446744073709551616))) w:=by
  show(binOp .eql 68 (.agg _) (.agg _)).run prog w=_;rw[run_eql_struct];have k:=Ny 9998 (x.val%18446744073709551616) (x.val/18446744073709551616%18446744073709551616) (x.val/340282366920938463463374607431768211456%18446744073709551616) (x.val/6277101735386680763835789423207666416102355444464034512896%18446744073709551616) (y.val%18446744073709551616) (y.val/18446744073709551616%18446744073709551616) (y.val/340282366920938463463374607431768211456%18446744073709551616) (y.val/6277101735386680763835789423207666416102355444464034512896%18446744073709551616) w;unfold wn;rw[k,UE]
 rw[b];simp only[rQ (h.top x) (h.top y),<-yA1]
theorem Rx(h:Fld P){x y:Fin P}(e:x=y)(w:TA):(binOp .eql 68 (fv x) (fv y)).run prog w=.ok (.bool true) w:=by rw[eqR h,decide_eq_true e]
theorem Ry(h:Fld P){x y:Fin P}(e:¬x=y)(w:TA):(binOp .eql 68 (fv x) (fv y)).run prog w=.ok (.bool false) w:=by rw[eqR h,decide_eq_false e]
theorem neR(h:Fld P)(x y:Fin P)(w:TA):(binOp .neq 68 (fv x) (fv y)).run prog w=.ok (.bool (!decide (x=y))) w:=by
 have k:(binOp .neq 68 (fv x) (fv y)).run prog w=.ok (.bool (!decide (x.val%18446744073709551616=y.val%18446744073709551616/\x.val/18446744073709551616%18446744073709551616=y.val/18446744073709551616%18446744073709551616/\x.val/340282366920938463463374607431768211456%18446744073709551616=y.val/340282366920938463463374607431768211456%18446744073709551616/\x.val/6277101735386680763835789423207666416102355444464034512896%18446744073709551616=y.val/6277101735386680763835789423207666416102355444464034512896%18446744073709551616))) w:=OZ _ _ _ _ _ _ _ _ w;rw[k];simp only[rQ (h.top x) (h.top y),<-yA1]
theorem QS(h:Fld P){x y:Fin P}(e:x=y)(w:TA):(binOp .neq 68 (fv x) (fv y)).run prog w=.ok (.bool false) w:=by rw[neR h,decide_eq_true e];rfl
theorem QR(h:Fld P){x y:Fin P}(e:¬x=y)(w:TA):(binOp .neq 68 (fv x) (fv y)).run prog w=.ok (.bool true) w:=by rw[neR h,decide_eq_false e];rfl
theorem Ku:Um #[uZ 0,uZ 0,uZ 0,uZ 0,uZ 1,uZ 0,uZ 0,uZ 0,uZ 0,uZ 0,uZ 0,uZ 0]=.agg (([uZ 0,uZ 0,uZ 0,uZ 0]:List TC)++(([uZ 1,uZ 0,uZ 0,uZ 0]:List TC)++([uZ 0,uZ 0,uZ 0,uZ 0]:List TC))).toArray:=rfl
theorem Ef(h:Fld P)(w:TA):(YP 74 #[(1,fv (1:Fin P))]).run prog w=.ok (rv (0:Fin P) 1 0) w:=by
 unfold rv;rw[<-t9,<-NU h,<-Ag h,<-Ku];kernel_rfl
theorem LC(h:Fl3 P){m y:Fin P}(e:rt m=some y):Gives 133 #[rv0,fv m] (.tuple #[fv y,.bool true]):=λw =>
 (yN _ _ _ _ _ _ _ _ P _ m.val h.ref h.p4 (h.four m) w).mono (by rintro e' w' ⟨v,rfl,k,b⟩;exact⟨_,rfl,k,b.val.1 y e⟩)
theorem LD(h:Fl3 P){m:Fin P}(e:rt m=none):Gives 133 #[rv0,fv m] (.tuple #[fv (0:Fin P),.bool false]):=λw =>
 (yN _ _ _ _ _ _ _ _ P _ m.val h.ref h.p4 (h.four m) w).mono (by rintro e' w' ⟨v,rfl,k,b⟩;exact⟨_,rfl,k,b.val.2 e⟩)
theorem u33:(prog.underlying 68).map (·.isRow)=some true:=kR
theorem i33:(prog.info? 68).map (·.size)=some 4:=kR
theorem u56:(prog.underlying 74).map (·.isRow)=some true:=kR
theorem i56:(prog.info? 74).map (·.size)=some 12:=kR
theorem u35:(prog.underlying 112).map (·.isRow)=some true:=kR
theorem i35:(prog.info? 112).map (·.size)=some 8:=kR
theorem bN:Gives 54 #[] rv0:=by
 intro w;go_enter func54,ntmps54;refine RG.M.enter [] 2 kR ?_;intro a0 c;repeat refine TI ?_
 refine c.T [.m 0] [(0,RG.z 8)] [] [RG.z 8] [0] ⟨RG.mk 0 112,yB5⟩ ?_;intro g f e b;repeat refine TI ?_
 refine b.T [.c rv0,.u 0] [] [(0,1,rl0)] [rl0] [0] ⟨RG.cl LI,RG.pt i35,yB5⟩ ?_;intro d i k;refine UZ ?_;refine TM (v:=rv0) (RG.aC k.st 0 112 rfl 0 _ rfl (k.at (s:=(.p 0 0))) u35 i35) k.sl.defers ?_;exact⟨_,rfl,k.st.bel.below,rfl⟩
theorem Eo(C:Fl3 P):Gives 57 #[] (rv (0:Fin P) 1 0):=by
 intro w;have k:((rv (0:Fin P) (1:Fin P) (0:Fin P)):TC)=(rv (0:Fin P) 1 0):=by
  subst_vars;rfl
 rw[<-k];go_enter func57,ntmps57;refine RG.M.enter [] 3 kR ?_;intro a0 d;repeat refine TI ?_
 refine d.T [.m 0] [(0,RG.z 12)] [] [RG.z 12] [0] ⟨RG.mk 0 74,yB5⟩ ?_;intro i g f c;repeat refine TI ?_
 refine c.T [.c (fv (1:Fin P)),.x (rv (0:Fin P) (1:Fin P) (0:Fin P)),.u 0] [] [(0,2,ws (0:Fin P)++(ws (1:Fin P)++(ws (0:Fin P))))] [ws (0:Fin P)++(ws (1:Fin P)++(ws (0:Fin P)))] [0] ⟨RG.cl (rV C),RG.Ck rfl 74 1 1 rfl (fv (1:Fin P)) (rv (0:Fin P) (1:Fin P) (0:Fin P)) rfl RG.sx (Ef C.toFld),RG.pt i56,yB5⟩ ?_;intro e j b;refine UZ ?_;refine TM (v:=(rv (0:Fin P) (1:Fin P) (0:Fin P))) (RG.aC b.st 0 74 rfl 0 _ rfl (b.at (s:=(.p 0 0))) u56 i56) b.sl.defers ?_;exact⟨_,rfl,b.st.bel.below,rfl⟩
theorem Er(C:Fl3 P)(x y z:Fin P)(d:z=0):Gives 53 #[(rv x y z)] (.bool true):=by
 intro w;go_enter func53,ntmps53;refine RG.M.enter [(0,.v (rv x y z))] 6 kR ?_;intro a0 c;repeat refine TI ?_
 refine c.T [.m 0,.x (.bool false)] [(0,ws x++(ws y++(ws z)))] [] [ws x++(ws y++(ws z))] [1,2] ⟨RG.mk 0 74,RG.st,yB5⟩ ?_;intro i g f b;repeat refine TI ?_
 refine b.U [.s (.p 0 8),.x (fv z),.c (.bool true),.x (.bool true)] [2] ⟨RG.st,RG.ld u33 i33,RG.cl (Lx C d),RG.st,yB5⟩ ?_;intro e j k;refine UZ ?_;refine TM (v:=(.bool true)) (RG.eD 2 rfl _ (k.at (s:=(.v (.bool true))))) k.sl.defers ?_;exact⟨_,rfl,k.st.bel.below,rfl⟩
theorem AP(C:Fl3 P)(x y z:Fin P)(d:¬z=0):Gives 53 #[(rv x y z)] (.bool false):=by
 intro w;go_enter func53,ntmps53;refine RG.M.enter [(0,.v (rv x y z))] 6 kR ?_;intro a0 c;repeat refine TI ?_
 refine c.T [.m 0,.x (.bool false)] [(0,ws x++(ws y++(ws z)))] [] [ws x++(ws y++(ws z))] [1,2] ⟨RG.mk 0 74,RG.st,yB5⟩ ?_;intro i g f b;repeat refine TI ?_
 refine b.U [.s (.p 0 8),.x (fv z),.c (.bool false),.x (.bool false)] [2] ⟨RG.st,RG.ld u33 i33,RG.cl (EJ C d),RG.st,yB5⟩ ?_;intro e j k;refine UZ ?_;refine TM (v:=(.bool false)) (RG.eD 2 rfl _ (k.at (s:=(.v (.bool false))))) k.sl.defers ?_;exact⟨_,rfl,k.st.bel.below,rfl⟩
theorem Gn(C:Fl3 P)(x y z:Fin P):Gives 58 #[(rv x y z)] (rv ((EC.fdE y z)*(EC.fdT x y z)) ((EC.fdD x)*(x*((EC.fdE y z)*(EC.fdE y z))-(EC.fdT x y z))-y*((EC.fdE y z)*(EC.fdE y z)*(EC.fdE y z))) ((EC.fdE y z)*(EC.fdE y z)*(EC.fdE y z)*z)):=by
 intro w;obtain⟨f,Q⟩:∃c,c=x*x:=⟨_,rfl⟩
 obtain⟨X,L⟩:∃c,c=f+f:=⟨_,rfl⟩
 obtain⟨g,V⟩:∃c,c=X+f:=⟨_,rfl⟩
 obtain⟨T,O⟩:∃c,c=y+y:=⟨_,rfl⟩
 obtain⟨d,S⟩:∃c,c=T*z:=⟨_,rfl⟩
 obtain⟨i,W⟩:∃c,c=d*d:=⟨_,rfl⟩
 obtain⟨l,N⟩:∃c,c=i*d:=⟨_,rfl⟩
 obtain⟨U,K⟩:∃c,c=g*g:=⟨_,rfl⟩
 obtain⟨R,M⟩:∃c,c=U*z:=⟨_,rfl⟩
 obtain⟨o,D⟩:∃c,c=x+x:=⟨_,rfl⟩
 obtain⟨n,I⟩:∃c,c=o*i:=⟨_,rfl⟩
 obtain⟨k,u⟩:∃c,c=R-n:=⟨_,rfl⟩
 obtain⟨b,a⟩:∃c,c=d*k:=⟨_,rfl⟩
 obtain⟨r,J⟩:∃c,c=x*i:=⟨_,rfl⟩
 obtain⟨q,E⟩:∃c,c=r-k:=⟨_,rfl⟩
 obtain⟨t,H⟩:∃c,c=g*q:=⟨_,rfl⟩
 obtain⟨p,A⟩:∃c,c=y*l:=⟨_,rfl⟩
 obtain⟨e,F⟩:∃c,c=t-p:=⟨_,rfl⟩
 obtain⟨j,B⟩:∃c,c=l*z:=⟨_,rfl⟩
 have G:((rv b e j):TC)=(rv ((EC.fdE y z)*(EC.fdT x y z)) ((EC.fdD x)*(x*((EC.fdE y z)*(EC.fdE y z))-(EC.fdT x y z))-y*((EC.fdE y z)*(EC.fdE y z)*(EC.fdE y z))) ((EC.fdE y z)*(EC.fdE y z)*(EC.fdE y z)*z)):=by
  subst_vars;rfl
 rw[<-G];go_enter func58,ntmps58;refine RG.M.enter [(0,.v (rv x y z))] 91 kR ?_;intro a0 M0;repeat refine TI ?_
 refine M0.T [.m 0,.m 1] [(0,ws x++(ws y++(ws z))),(1,RG.z 12)] [] [ws x++(ws y++(ws z)),RG.z 12] [1,2] ⟨RG.mk 0 74,RG.mk 1 74,yB5⟩ ?_;intro j1 i1 a1 w1 M1;repeat refine TI ?_
 refine M1.D [.c rv0,.s (.p 0 0),.x (fv x),.s (.p 0 0),.x (fv x),.c (fv f),.m 2,.u 2] [(6,RG.z 4)] [(2,7,ws f)] [ws x++(ws y++(ws z)),RG.z 12,ws f] [1,2,3] ⟨RG.cl bN,RG.st,RG.ld u33 i33,RG.st,RG.ld u33 i33,RG.cl ((bB C x x).e Q),RG.mk 2 68,RG.pt i33,yB5⟩ ?_;intro j2 a2 w2 M2;repeat refine TI ?_
 refine M2.D [.c rv0,.c rv0,.x (fv f),.x (fv f),.c (fv X),.x (fv f),.c (fv g),.m 3,.u 3] [(7,RG.z 4)] [(3,8,ws g)] [ws x++(ws y++(ws z)),RG.z 12,ws f,ws g] [1,2,4] ⟨RG.cl bN,RG.cl bN,RG.ld u33 i33,RG.ld u33 i33,RG.cl ((o9 C f f).e L),RG.ld u33 i33,RG.cl ((o9 C X f).e V),RG.mk 3 68,RG.pt i33,yB5⟩ ?_;intro j3 a3 w3 Z;repeat refine TI ?_
 refine Z.D [.c rv0,.c rv0,.s (.p 0 4),.x (fv y),.s (.p 0 4),.x (fv y),.c (fv T),.s (.p 0 8),.x (fv z),.c (fv d),.m 4,.u 4] [(10,RG.z 4)] [(4,11,ws d)] [ws x++(ws y++(ws z)),RG.z 12,ws f,ws g,ws d] [1,2,4,5] ⟨RG.cl bN,RG.cl bN,RG.st,RG.ld u33 i33,RG.st,RG.ld u33 i33,RG.cl ((o9 C y y).e O),RG.st,RG.ld u33 i33,RG.cl ((bB C T z).e S),RG.mk 4 68,RG.pt i33,yB5⟩ ?_;intro j4 a4 w4 M4;repeat refine TI ?_
 refine M4.D [.c rv0,.x (fv d),.x (fv d),.c (fv i),.m 5,.u 5] [(4,RG.z 4)] [(5,5,ws i)] [ws x++(ws y++(ws z)),RG.z 12,ws f,ws g,ws d,ws i] [1,2,4,5,6] ⟨RG.cl bN,RG.ld u33 i33,RG.ld u33 i33,RG.cl ((bB C d d).e W),RG.mk 5 68,RG.pt i33,yB5⟩ ?_;intro j5 a5 w5 M5;repeat refine TI ?_
 refine M5.D [.c rv0,.x (fv i),.x (fv d),.c (fv l),.m 6,.u 6] [(4,RG.z 4)] [(6,5,ws l)] [ws x++(ws y++(ws z)),RG.z 12,ws f,ws g,ws d,ws i,ws l] [1,2,4,5,6,7] ⟨RG.cl bN,RG.ld u33 i33,RG.ld u33 i33,RG.cl ((bB C i d).e N),RG.mk 6 68,RG.pt i33,yB5⟩ ?_;intro j6 a6 w6 M6;repeat refine TI ?_
 refine M6.D [.c rv0,.c rv0,.c rv0,.x (fv g),.x (fv g),.c (fv U),.s (.p 0 8),.x (fv z),.c (fv R),.c rv0,.c rv0,.s (.p 0 0),.x (fv x),.s (.p 0 0),.x (fv x),.c (fv o),.x (fv i),.c (fv n),.c (fv k),.m 7,.u 7] [(19,RG.z 4)] [(7,20,ws k)] [ws x++(ws y++(ws z)),RG.z 12,ws f,ws g,ws d,ws i,ws l,ws k] [1,2,4,5,6,7,8] ⟨RG.cl bN,RG.cl bN,RG.cl bN,RG.ld u33 i33,RG.ld u33 i33,RG.cl ((bB C g g).e K),RG.st,RG.ld u33 i33,RG.cl ((bB C U z).e M),RG.cl bN,RG.cl bN,RG.st,RG.ld u33 i33,RG.st,RG.ld u33 i33,RG.cl ((o9 C x x).e D),RG.ld u33 i33,RG.cl ((bB C o i).e I),RG.cl ((lT C R n).e u),RG.mk 7 68,RG.pt i33,yB5⟩ ?_;intro j7 a7 w7 Y;repeat refine TI ?_
 refine Y.D [.c rv0,.x (fv d),.x (fv k),.c (fv b),.m 8,.u 8] [(4,RG.z 4)] [(8,5,ws b)] [ws x++(ws y++(ws z)),RG.z 12,ws f,ws g,ws d,ws i,ws l,ws k,ws b] [1,2,4,6,7,8,9] ⟨RG.cl bN,RG.ld u33 i33,RG.ld u33 i33,RG.cl ((bB C d k).e a),RG.mk 8 68,RG.pt i33,yB5⟩ ?_;intro j8 a8 w8 M8;repeat refine TI ?_
 refine M8.D [.c rv0,.c rv0,.x (fv g),.c rv0,.c rv0,.s (.p 0 0),.x (fv x),.x (fv i),.c (fv r),.x (fv k),.c (fv q),.c (fv t),.c rv0,.s (.p 0 4),.x (fv y),.x (fv l),.c (fv p),.c (fv e),.m 9,.u 9] [(18,RG.z 4)] [(9,19,ws e)] [ws x++(ws y++(ws z)),RG.z 12,ws f,ws g,ws d,ws i,ws l,ws k,ws b,ws e] [1,2,7,9,10] ⟨RG.cl bN,RG.cl bN,RG.ld u33 i33,RG.cl bN,RG.cl bN,RG.st,RG.ld u33 i33,RG.ld u33 i33,RG.cl ((bB C x i).e J),RG.ld u33 i33,RG.cl ((lT C r k).e E),RG.cl ((bB C g q).e H),RG.cl bN,RG.st,RG.ld u33 i33,RG.ld u33 i33,RG.cl ((bB C y l).e A),RG.cl ((lT C t p).e F),RG.mk 9 68,RG.pt i33,yB5⟩ ?_;intro j9 a9 w9 M9;repeat refine TI ?_
 refine M9.D [.x (fv b),.x (fv e),.c rv0,.x (fv l),.s (.p 0 8),.x (fv z),.c (fv j),.x (rv b e j),.u 1] [] [(1,8,ws b++(ws e++(ws j)))] [ws x++(ws y++(ws z)),ws b++(ws e++(ws j)),ws f,ws g,ws d,ws i,ws l,ws k,ws b,ws e] [2] ⟨RG.ld u33 i33,RG.ld u33 i33,RG.cl bN,RG.ld u33 i33,RG.st,RG.ld u33 i33,RG.cl ((bB C l z).e B),RG.st,RG.pt i56,yB5⟩ ?_;intro h0 h1 m;refine UZ ?_;refine TM (v:=(rv b e j)) (RG.aC m.st 2 74 rfl 1 _ rfl (m.at (s:=(.p 1 0))) u56 i56) m.sl.defers ?_;exact⟨_,rfl,m.st.bel.below,rfl⟩
theorem C9(C:Fl3 P)(e d k g i b:Fin P)(R:TC)(ha:k=0->R=(rv g i b))(hb:¬k=0->b=0->R=(rv e d k))(hd:¬k=0->¬b=0->g*k=e*b->(¬i*k=d*b/\R=(rv (0:Fin P) 1 0))\/(i*k=d*b/\¬i*k=0/\R=(rv ((EC.fdE d k)*(EC.fdT e d k)) ((EC.fdD e)*(e*((EC.fdE d k)*(EC.fdE d k))-(EC.fdT e d k))-d*((EC.fdE d k)*(EC.fdE d k)*(EC.fdE d k))) ((EC.fdE d k)*(EC.fdE d k)*(EC.fdE d k)*k))))(he:¬k=0->¬b=0->¬g*k=e*b->R=(rv ((g*k-e*b)*EC.frT (i*k-d*b) (g*k-e*b) (k*b) (e*b)) ((i*k-d*b)*(e*b*((g*k-e*b)*(g*k-e*b))-EC.frT (i*k-d*b) (g*k-e*b) (k*b) (e*b))-d*b*((g*k-e*b)*(g*k-e*b)*(g*k-e*b))) ((g*k-e*b)*(g*k-e*b)*(g*k-e*b)*(k*b)))):Gives 23 #[(rv e d k),(rv g i b)] R:=by
 intro w;obtain⟨n,ht⟩:∃c,c=i*k:=⟨_,rfl⟩
 obtain⟨r,hk⟩:∃c,c=g*k:=⟨_,rfl⟩
 obtain⟨o,hw⟩:∃c,c=d*b:=⟨_,rfl⟩
 obtain⟨j,hs⟩:∃c,c=e*b:=⟨_,rfl⟩
 go_enter func23,ntmps23;refine RG.M.enter [(0,.v (rv e d k)),(1,.v (rv g i b))] 127 kR ?_;intro a0 M0;repeat refine TI ?_
 refine M0.T [.m 0,.m 1,.m 2] [(0,ws e++(ws d++(ws k))),(1,ws g++(ws i++(ws b))),(2,RG.z 12)] [] [ws e++(ws d++(ws k)),ws g++(ws i++(ws b)),RG.z 12] [2,3,4] ⟨RG.mk 0 74,RG.mk 1 74,RG.mk 2 74,yB5⟩ ?_;intro j1 i1 m1 a1 w1 M1;repeat refine TI ?_
 by_cases D:k=0
 ·obtain rfl:=ha D;refine M1.U [.x (rv e d k),.c (.bool true),.x (.bool true)] [3,4,5] ⟨RG.ld u56 i56,RG.cl (Er C e d k D),RG.st,yB5⟩ ?_;intro a2 w2 M2;repeat refine TI ?_
  refine M2.U [.x (.bool true)] [3,4,18] ⟨RG.st,yB5⟩ ?_;intro a3 w3 V;repeat refine TI ?_
  refine UC V.ev ?_;repeat refine TI ?_
  refine V.T [.x (rv g i b),.u 2] [] [(2,1,ws g++(ws i++(ws b)))] [ws e++(ws d++(ws k)),ws g++(ws i++(ws b)),ws g++(ws i++(ws b))] [4] ⟨RG.ld u56 i56,RG.pt i56,yB5⟩ ?_;intro a4 w4 G;refine UZ ?_;refine TM (v:=(rv g i b)) (RG.aC G.st 4 74 rfl 2 _ rfl (G.at (s:=(.p 2 0))) u56 i56) G.sl.defers ?_;exact⟨_,rfl,G.st.bel.below,rfl⟩
 refine M1.U [.x (rv e d k),.c (.bool false),.x (.bool false)] [2,3,4,5] ⟨RG.ld u56 i56,RG.cl (AP C e d k D),RG.st,yB5⟩ ?_;intro a2 w2 M2;repeat refine TI ?_
 refine M2.U [.x (.bool false)] [2,3,4,5,18] ⟨RG.st,yB5⟩ ?_;intro a3 w3 V;repeat refine TI ?_
 refine UG V.ev ?_;refine Vg ?_;repeat refine TI ?_
 by_cases E:b=0
 ·obtain rfl:=hb D E;refine V.U [.x (rv g i b),.c (.bool true),.x (.bool true)] [2,4,5] ⟨RG.ld u56 i56,RG.cl (Er C g i b E),RG.st,yB5⟩ ?_;intro a4 w4 G;repeat refine TI ?_
  refine G.U [.x (.bool true)] [2,4,22] ⟨RG.st,yB5⟩ ?_;intro a5 w5 M5;repeat refine TI ?_
  refine UC M5.ev ?_;repeat refine TI ?_
  refine M5.T [.x (rv e d k),.u 2] [] [(2,1,ws e++(ws d++(ws k)))] [ws e++(ws d++(ws k)),ws g++(ws i++(ws b)),ws e++(ws d++(ws k))] [4] ⟨RG.ld u56 i56,RG.pt i56,yB5⟩ ?_;intro a6 w6 W;refine UZ ?_;refine TM (v:=(rv e d k)) (RG.aC W.st 4 74 rfl 2 _ rfl (W.at (s:=(.p 2 0))) u56 i56) W.sl.defers ?_;exact⟨_,rfl,W.st.bel.below,rfl⟩
 refine V.U [.x (rv g i b),.c (.bool false),.x (.bool false)] [2,3,4,5] ⟨RG.ld u56 i56,RG.cl (AP C g i b E),RG.st,yB5⟩ ?_;intro a4 w4 G;repeat refine TI ?_
 refine G.U [.x (.bool false)] [2,3,4,22] ⟨RG.st,yB5⟩ ?_;intro a5 w5 M5;repeat refine TI ?_
 refine UG M5.ev ?_;refine Vg ?_;repeat refine TI ?_
 refine M5.D [.c rv0,.s (.p 1 4),.x (fv i),.s (.p 0 8),.x (fv k),.c (fv n),.m 3,.u 3] [(6,RG.z 4)] [(3,7,ws n)] [ws e++(ws d++(ws k)),ws g++(ws i++(ws b)),RG.z 12,ws n] [2,3,4,6] ⟨RG.cl bN,RG.st,RG.ld u33 i33,RG.st,RG.ld u33 i33,RG.cl ((bB C i k).e ht),RG.mk 3 68,RG.pt i33,yB5⟩ ?_;intro j6 a6 w6 W;repeat refine TI ?_
 refine W.D [.c rv0,.s (.p 1 0),.x (fv g),.s (.p 0 8),.x (fv k),.c (fv r),.m 4,.u 4] [(6,RG.z 4)] [(4,7,ws r)] [ws e++(ws d++(ws k)),ws g++(ws i++(ws b)),RG.z 12,ws n,ws r] [2,3,4,6,7] ⟨RG.cl bN,RG.st,RG.ld u33 i33,RG.st,RG.ld u33 i33,RG.cl ((bB C g k).e hk),RG.mk 4 68,RG.pt i33,yB5⟩ ?_;intro j7 a7 w7 M7;repeat refine TI ?_
 refine M7.D [.c rv0,.s (.p 0 4),.x (fv d),.s (.p 1 8),.x (fv b),.c (fv o),.m 5,.u 5] [(6,RG.z 4)] [(5,7,ws o)] [ws e++(ws d++(ws k)),ws g++(ws i++(ws b)),RG.z 12,ws n,ws r,ws o] [2,3,4,6,7,8] ⟨RG.cl bN,RG.st,RG.ld u33 i33,RG.st,RG.ld u33 i33,RG.cl ((bB C d b).e hw),RG.mk 5 68,RG.pt i33,yB5⟩ ?_;intro j8 a8 w8 M8;repeat refine TI ?_
 refine M8.D [.c rv0,.s (.p 0 0),.x (fv e),.s (.p 1 8),.x (fv b),.c (fv j),.m 6,.u 6] [(6,RG.z 4)] [(6,7,ws j)] [ws e++(ws d++(ws k)),ws g++(ws i++(ws b)),RG.z 12,ws n,ws r,ws o,ws j] [2,3,4,6,7,8,9] ⟨RG.cl bN,RG.st,RG.ld u33 i33,RG.st,RG.ld u33 i33,RG.cl ((bB C e b).e hs),RG.mk 6 68,RG.pt i33,yB5⟩ ?_;intro j9 a9 w9 M9;repeat refine TI ?_
 by_cases hv:g*k=e*b
 ·have hR:=hd D E hv;refine M9.U [.x (fv r),.x (fv j),.x (.bool true)] [2,4,6,8,50] ⟨RG.ld u33 i33,RG.ld u33 i33,RG.aJ rfl .eql 68 68 48 49 (fv r) (fv j) (.bool true) rfl rfl RG.sx RG.sx (λw=>kR) (Rx C.toFld (by subst_vars;exact hv)),yB5⟩ ?_;intro hp hq B;repeat refine TI ?_
  refine UC B.ev ?_;repeat refine TI ?_
  rcases hR with⟨q,rfl⟩|⟨q,x,hR⟩
  ·refine B.u [.x 51 [] (fv n),.x 52 [] (fv o),.x 53 [(51,0),(52,1)] (.bool true),.x 54 [(53,2)] (.bool true),⟨some 55,[],.v VU,.pass⟩,⟨some 56,[],.v VU,.pass⟩,.x 57 [(54,3),(56,5)] (.bool true)] [(4,.p 2 0),(57,.v (.bool true))] ⟨RG.ld u33 i33,RG.ld u33 i33,RG.aJ rfl .neq 68 68 51 52 (fv n) (fv o) (.bool true) rfl rfl RG.sx RG.sx (λw=>kR) (QR C.toFld (by subst_vars;exact q)),RG.st,RG.cJ rfl rfl,RG.cJ rfl rfl,RG.st,yB5⟩ ?_;intro hh hg u;repeat refine TI ?_
   refine UC u.ev ?_;repeat refine TI ?_
   refine u.T [.c (rv (0:Fin P) (1:Fin P) (0:Fin P)),.u 2] [] [(2,1,ws (0:Fin P)++(ws (1:Fin P)++(ws (0:Fin P))))] [ws e++(ws d++(ws k)),ws g++(ws i++(ws b)),ws (0:Fin P)++(ws (1:Fin P)++(ws (0:Fin P))),ws n,ws r,ws o,ws j] [4] ⟨RG.cl (Eo C),RG.pt i56,yB5⟩ ?_;intro h2 h7 p;refine UZ ?_;refine TM (v:=(rv (0:Fin P) (1:Fin P) (0:Fin P))) (RG.aC p.st 4 74 rfl 2 _ rfl (p.at (s:=(.p 2 0))) u56 i56) p.sl.defers ?_;exact⟨_,rfl,p.st.bel.below,rfl⟩
  obtain⟨m,Q⟩:∃c,c=(EC.fdE d k)*(EC.fdT e d k):=⟨_,rfl⟩
  obtain⟨l,U⟩:∃c,c=(EC.fdD e)*(e*((EC.fdE d k)*(EC.fdE d k))-(EC.fdT e d k))-d*((EC.fdE d k)*(EC.fdE d k)*(EC.fdE d k)):=⟨_,rfl⟩
  obtain⟨t,K⟩:∃c,c=(EC.fdE d k)*(EC.fdE d k)*(EC.fdE d k)*k:=⟨_,rfl⟩
  obtain rfl:R=rv m l t:=hR.trans (by subst_vars;rfl);refine B.U [.x (fv n),.x (fv o),.x (.bool false),.x (.bool false),.x (fv n),.c (.bool false),.x (.bool false)] [2,4,57] ⟨RG.ld u33 i33,RG.ld u33 i33,RG.aJ rfl .neq 68 68 51 52 (fv n) (fv o) (.bool false) rfl rfl RG.sx RG.sx (λw=>kR) (QS C.toFld (by subst_vars;exact q)),RG.st,RG.ld u33 i33,RG.cl (f:=56) (args:=#[fv n]) (v:=(.bool false)) (EJ C (by subst_vars;exact x)),RG.st,yB5⟩ ?_;intro hh hg u;repeat refine TI ?_
  refine UG u.ev ?_;refine Vg ?_;repeat refine TI ?_
  refine u.T [.x (rv e d k),.c (rv m l t),.u 2] [] [(2,2,ws m++(ws l++(ws t)))] [ws e++(ws d++(ws k)),ws g++(ws i++(ws b)),ws m++(ws l++(ws t)),ws n,ws r,ws o,ws j] [4] ⟨RG.ld u56 i56,RG.cl ((Gn C e d k).e3 Q U K),RG.pt i56,yB5⟩ ?_;intro h2 h7 p;refine UZ ?_;refine TM (v:=(rv m l t)) (RG.aC p.st 4 74 rfl 2 _ rfl (p.at (s:=(.p 2 0))) u56 i56) p.sl.defers ?_;exact⟨_,rfl,p.st.bel.below,rfl⟩
 have hR:=he D E hv;obtain⟨m,Q⟩:∃c,c=n-o:=⟨_,rfl⟩
 obtain⟨l,U⟩:∃c,c=r-j:=⟨_,rfl⟩
 obtain⟨t,K⟩:∃c,c=k*b:=⟨_,rfl⟩
 obtain⟨x,hj⟩:∃c,c=l*l:=⟨_,rfl⟩
 obtain⟨y,hr⟩:∃c,c=x*l:=⟨_,rfl⟩
 obtain⟨J,h3⟩:∃c,c=m*m:=⟨_,rfl⟩
 obtain⟨H,h9⟩:∃c,c=J*t:=⟨_,rfl⟩
 obtain⟨I,X⟩:∃c,c=H-y:=⟨_,rfl⟩
 obtain⟨S,Y⟩:∃c,c=j+j:=⟨_,rfl⟩
 obtain⟨T,hi⟩:∃c,c=S*x:=⟨_,rfl⟩
 obtain⟨q,h5⟩:∃c,c=I-T:=⟨_,rfl⟩
 obtain⟨A,h8⟩:∃c,c=l*q:=⟨_,rfl⟩
 obtain⟨M,Z⟩:∃c,c=j*x:=⟨_,rfl⟩
 obtain⟨L,h6⟩:∃c,c=M-q:=⟨_,rfl⟩
 obtain⟨O,h0⟩:∃c,c=m*L:=⟨_,rfl⟩
 obtain⟨N,h4⟩:∃c,c=o*y:=⟨_,rfl⟩
 obtain⟨a,hc⟩:∃c,c=O-N:=⟨_,rfl⟩
 obtain⟨z,h1⟩:∃c,c=y*t:=⟨_,rfl⟩
 obtain rfl:R=rv A a z:=hR.trans (by subst_vars;rfl);refine M9.U [.x (fv r),.x (fv j),.x (.bool false)] [2,3,4,6,7,8,9,50] ⟨RG.ld u33 i33,RG.ld u33 i33,RG.aJ rfl .eql 68 68 48 49 (fv r) (fv j) (.bool false) rfl rfl RG.sx RG.sx (λw=>kR) (Ry C.toFld (by subst_vars;exact hv)),yB5⟩ ?_;intro hp hq B;repeat refine TI ?_
 refine UG B.ev ?_;refine Vg ?_;repeat refine TI ?_
 refine B.D [.c rv0,.x (fv n),.x (fv o),.c (fv m),.m 7,.u 7] [(4,RG.z 4)] [(7,5,ws m)] [ws e++(ws d++(ws k)),ws g++(ws i++(ws b)),RG.z 12,ws n,ws r,ws o,ws j,ws m] [2,3,4,7,8,9,10] ⟨RG.cl bN,RG.ld u33 i33,RG.ld u33 i33,RG.cl ((lT C n o).e Q),RG.mk 7 68,RG.pt i33,yB5⟩ ?_;intro k7 hh hg u;repeat refine TI ?_
 refine u.D [.c rv0,.x (fv r),.x (fv j),.c (fv l),.m 8,.u 8] [(4,RG.z 4)] [(8,5,ws l)] [ws e++(ws d++(ws k)),ws g++(ws i++(ws b)),RG.z 12,ws n,ws r,ws o,ws j,ws m,ws l] [2,3,4,8,9,10,11] ⟨RG.cl bN,RG.ld u33 i33,RG.ld u33 i33,RG.cl ((lT C r j).e U),RG.mk 8 68,RG.pt i33,yB5⟩ ?_;intro ka h2 h7 p;repeat refine TI ?_
 refine p.D [.c rv0,.s (.p 0 8),.x (fv k),.s (.p 1 8),.x (fv b),.c (fv t),.m 9,.u 9] [(6,RG.z 4)] [(9,7,ws t)] [ws e++(ws d++(ws k)),ws g++(ws i++(ws b)),RG.z 12,ws n,ws r,ws o,ws j,ws m,ws l,ws t] [4,8,9,10,11,12] ⟨RG.cl bN,RG.st,RG.ld u33 i33,RG.st,RG.ld u33 i33,RG.cl ((bB C k b).e K),RG.mk 9 68,RG.pt i33,yB5⟩ ?_;intro k0 kd kb hx;repeat refine TI ?_
 refine hx.D [.c rv0,.x (fv l),.x (fv l),.c (fv x),.m 10,.u 10] [(4,RG.z 4)] [(10,5,ws x)] [ws e++(ws d++(ws k)),ws g++(ws i++(ws b)),RG.z 12,ws n,ws r,ws o,ws j,ws m,ws l,ws t,ws x] [4,8,9,10,11,12,13] ⟨RG.cl bN,RG.ld u33 i33,RG.ld u33 i33,RG.cl ((bB C l l).e hj),RG.mk 10 68,RG.pt i33,yB5⟩ ?_;intro ke k2 k8 hm;repeat refine TI ?_
 refine hm.D [.c rv0,.x (fv x),.x (fv l),.c (fv y),.m 11,.u 11] [(4,RG.z 4)] [(11,5,ws y)] [ws e++(ws d++(ws k)),ws g++(ws i++(ws b)),RG.z 12,ws n,ws r,ws o,ws j,ws m,ws l,ws t,ws x,ws y] [4,8,9,10,11,12,13,14] ⟨RG.cl bN,RG.ld u33 i33,RG.ld u33 i33,RG.cl ((bB C x l).e hr),RG.mk 11 68,RG.pt i33,yB5⟩ ?_;intro k9 kc k4 hl;repeat refine TI ?_
 refine hl.D [.c rv0,.c rv0,.c rv0,.c rv0,.x (fv m),.x (fv m),.c (fv J),.x (fv t),.c (fv H),.x (fv y),.c (fv I),.c rv0,.c rv0,.x (fv j),.x (fv j),.c (fv S),.x (fv x),.c (fv T),.c (fv q),.m 12,.u 12] [(19,RG.z 4)] [(12,20,ws q)] [ws e++(ws d++(ws k)),ws g++(ws i++(ws b)),RG.z 12,ws n,ws r,ws o,ws j,ws m,ws l,ws t,ws x,ws y,ws q] [4,8,9,10,11,12,13,14,15] ⟨RG.cl bN,RG.cl bN,RG.cl bN,RG.cl bN,RG.ld u33 i33,RG.ld u33 i33,RG.cl ((bB C m m).e h3),RG.ld u33 i33,RG.cl ((bB C J t).e h9),RG.ld u33 i33,RG.cl ((lT C H y).e X),RG.cl bN,RG.cl bN,RG.ld u33 i33,RG.ld u33 i33,RG.cl ((o9 C j j).e Y),RG.ld u33 i33,RG.cl ((bB C S x).e hi),RG.cl ((lT C I T).e h5),RG.mk 12 68,RG.pt i33,yB5⟩ ?_;intro k3 k5 k6 hy;repeat refine TI ?_
 refine hy.D [.c rv0,.x (fv l),.x (fv q),.c (fv A),.c rv0,.c rv0,.x (fv m),.c rv0,.c rv0,.x (fv j),.x (fv x),.c (fv M),.x (fv q),.c (fv L),.c (fv O),.c rv0,.x (fv o),.x (fv y),.c (fv N),.c (fv a),.c rv0,.x (fv y),.x (fv t),.c (fv z),.x (rv A a z),.u 2] [] [(2,25,ws A++(ws a++(ws z)))] [ws e++(ws d++(ws k)),ws g++(ws i++(ws b)),ws A++(ws a++(ws z)),ws n,ws r,ws o,ws j,ws m,ws l,ws t,ws x,ws y,ws q] [4] ⟨RG.cl bN,RG.ld u33 i33,RG.ld u33 i33,RG.cl ((bB C l q).e h8),RG.cl bN,RG.cl bN,RG.ld u33 i33,RG.cl bN,RG.cl bN,RG.ld u33 i33,RG.ld u33 i33,RG.cl ((bB C j x).e Z),RG.ld u33 i33,RG.cl ((lT C M q).e h6),RG.cl ((bB C m L).e h0),RG.cl bN,RG.ld u33 i33,RG.ld u33 i33,RG.cl ((bB C o y).e h4),RG.cl ((lT C O N).e hc),RG.cl bN,RG.ld u33 i33,RG.ld u33 i33,RG.cl ((bB C y t).e h1),RG.st,RG.pt i56,yB5⟩ ?_;intro hz k1 F;refine UZ ?_;refine TM (v:=(rv A a z)) (RG.aC F.st 4 74 rfl 2 _ rfl (F.at (s:=(.p 2 0))) u56 i56) F.sl.defers ?_;exact⟨_,rfl,F.st.bel.below,rfl⟩
theorem EI(C:Fl3 P)(x y:Fin P)(p:rt (x*x*x+7)=some y):Gives 98 #[(fv x)] (.tuple #[rv x y 1,.bool true]):=by
 intro w;obtain⟨j,g⟩:∃c,c=x*x:=⟨_,rfl⟩
 obtain⟨e,d⟩:∃c,c=j*x:=⟨_,rfl⟩
 obtain⟨l,i⟩:∃c,c=e+(7:Fin P):=⟨_,rfl⟩
 have k:((.tuple #[rv x y (1:Fin P),.bool true]):TC)=(.tuple #[rv x y 1,.bool true]):=by
  subst_vars;rfl
 rw[<-k];go_enter func98,ntmps98;refine RG.M.enter [(0,.v (fv x))] 26 kR ?_;intro a0 n;repeat refine TI ?_
 refine n.T [.m 0,.m 1,.x (.bool false)] [(0,ws x),(1,RG.z 12)] [] [ws x,RG.z 12] [1,2,3] ⟨RG.mk 0 68,RG.mk 1 74,RG.st,yB5⟩ ?_;intro u z A q o;repeat refine TI ?_
 refine o.D [.c rv0,.c rv0,.c rv0,.c rv0,.x (fv x),.x (fv x),.c (fv j),.x (fv x),.c (fv e),.c (fv (7:Fin P)),.c (fv l),.c (.tuple #[fv y,.bool true]),.x (.tuple #[fv y,.bool true]),.x (fv y),.x (.bool true),.m 2,.u 2,.x (.bool true)] [(15,RG.z 4)] [(2,16,ws y)] [ws x,RG.z 12,ws y] [1,2,3,4,5] ⟨RG.cl bN,RG.cl bN,RG.cl bN,RG.cl bN,RG.ld u33 i33,RG.ld u33 i33,RG.cl ((bB C x x).e g),RG.ld u33 i33,RG.cl ((bB C j x).e d),RG.cl (yO C),RG.cl ((o9 C e (7:Fin P)).e i),RG.cl (f:=133) (args:=#[rv0,fv l]) (v:=(.tuple #[fv y,.bool true])) (LC C (by subst_vars;exact p)),RG.st,RG.st,RG.st,RG.mk 2 68,RG.pt i33,RG.st,yB5⟩ ?_;intro t a B m;repeat refine TI ?_
 refine m.D [.x (fv x),.x (fv y),.c (fv (1:Fin P)),.x (rv x y (1:Fin P)),.x (.bool true),.u 1,.x (.bool true)] [] [(1,5,ws x++(ws y++(ws (1:Fin P))))] [ws x,ws x++(ws y++(ws (1:Fin P))),ws y] [2,3] ⟨RG.ld u33 i33,RG.ld u33 i33,RG.cl (rV C),RG.st,RG.st,RG.pt i56,RG.st,yB5⟩ ?_;intro D r b;refine UZ ?_;refine TM (v:=(.tuple #[rv x y (1:Fin P),.bool true])) (RG.bQ b.st 2 3 74 rfl 1 _ rfl (b.at (s:=(.p 1 0))) _ (b.at (s:=(.v (.bool true)))) u56 i56) b.sl.defers ?_;exact⟨_,rfl,b.st.bel.below,rfl⟩
theorem Lv(C:Fl3 P)(x:Fin P)(p:rt (x*x*x+7)=none):Gives 98 #[(fv x)] (.tuple #[rv x 0 1,.bool false]):=by
 intro w;obtain⟨j,g⟩:∃c,c=x*x:=⟨_,rfl⟩
 obtain⟨e,d⟩:∃c,c=j*x:=⟨_,rfl⟩
 obtain⟨l,i⟩:∃c,c=e+(7:Fin P):=⟨_,rfl⟩
 have k:((.tuple #[rv x (0:Fin P) (1:Fin P),.bool false]):TC)=(.tuple #[rv x 0 1,.bool false]):=by
  subst_vars;rfl
 rw[<-k];go_enter func98,ntmps98;refine RG.M.enter [(0,.v (fv x))] 26 kR ?_;intro a0 n;repeat refine TI ?_
 refine n.T [.m 0,.m 1,.x (.bool false)] [(0,ws x),(1,RG.z 12)] [] [ws x,RG.z 12] [1,2,3] ⟨RG.mk 0 68,RG.mk 1 74,RG.st,yB5⟩ ?_;intro u y a q o;repeat refine TI ?_
 refine o.D [.c rv0,.c rv0,.c rv0,.c rv0,.x (fv x),.x (fv x),.c (fv j),.x (fv x),.c (fv e),.c (fv (7:Fin P)),.c (fv l),.c (.tuple #[fv (0:Fin P),.bool false]),.x (.tuple #[fv (0:Fin P),.bool false]),.x (fv (0:Fin P)),.x (.bool false),.m 2,.u 2,.x (.bool false)] [(15,RG.z 4)] [(2,16,ws (0:Fin P))] [ws x,RG.z 12,ws (0:Fin P)] [1,2,3,4,5] ⟨RG.cl bN,RG.cl bN,RG.cl bN,RG.cl bN,RG.ld u33 i33,RG.ld u33 i33,RG.cl ((bB C x x).e g),RG.ld u33 i33,RG.cl ((bB C j x).e d),RG.cl (yO C),RG.cl ((o9 C e (7:Fin P)).e i),RG.cl (f:=133) (args:=#[rv0,fv l]) (v:=(.tuple #[fv (0:Fin P),.bool false])) (LD C (by subst_vars;exact p)),RG.st,RG.st,RG.st,RG.mk 2 68,RG.pt i33,RG.st,yB5⟩ ?_;intro t z A m;repeat refine TI ?_
 refine m.D [.x (fv x),.x (fv (0:Fin P)),.c (fv (1:Fin P)),.x (rv x (0:Fin P) (1:Fin P)),.x (.bool false),.u 1,.x (.bool false)] [] [(1,5,ws x++(ws (0:Fin P)++(ws (1:Fin P))))] [ws x,ws x++(ws (0:Fin P)++(ws (1:Fin P))),ws (0:Fin P)] [2,3] ⟨RG.ld u33 i33,RG.ld u33 i33,RG.cl (rV C),RG.st,RG.st,RG.pt i56,RG.st,yB5⟩ ?_;intro B r b;refine UZ ?_;refine TM (v:=(.tuple #[rv x (0:Fin P) (1:Fin P),.bool false])) (RG.bQ b.st 2 3 74 rfl 1 _ rfl (b.at (s:=(.p 1 0))) _ (b.at (s:=(.v (.bool false)))) u56 i56) b.sl.defers ?_;exact⟨_,rfl,b.st.bel.below,rfl⟩
end
section
open Go.RowKit Go.Sort Go.Deep
variable {P:Nat}[NeZero P]{N:Nat}
theorem OC(O:Ord N)(s:Bs)(c:s.size<=1048576):Gives 135 #[rv1,.string ⟨s⟩] (nv (qO N s)):=λw =>
 (IB _ _ _ _ _ _ _ _ N ⟨s⟩ O.ref c w).mono (by rintro e w' ⟨v,rfl,k,b⟩;exact⟨_,rfl,k,b.nv⟩)
theorem OE(O:Ord N){a b:Nat}(d:a<N)(k:b<N):Gives 60 #[rv1,nv a,nv b] (nv (sPl N a b)):=λw =>
 (Db O.ref (O.four d) (O.four k) w).mono (by rintro e w' ⟨v,rfl,k,c⟩;exact⟨_,rfl,k,c.nv⟩)
def z12:Array TC:=#[uZ 0,uZ 0,uZ 0,uZ 0,uZ 0,uZ 0,uZ 0,uZ 0,uZ 0,uZ 0,uZ 0,uZ 0]
theorem Gs(C:Fl3 P)(k:Bs)(l:k.size=32){x:Fin P}(g:beV k.toList=x.val):Gives 50 #[rv0,.string ⟨k⟩] (.tuple #[fv x,.bool true]):=λw =>
 (mU _ _ _ _ _ _ _ _ P ⟨k⟩ C.ref w).mono (by
  rintro e w' ⟨v,rfl,j,a,b,c,d,ok,rfl,m,i,n,-⟩;cases ok with
  | false=>exact absurd ⟨l,by rw[g];exact x.isLt⟩ (i rfl)
  | true =>
   have f:=(m rfl).2;rw[g]at f;refine⟨_,rfl,j,?_⟩;rw[C.toFld.four x |>.inj f])
theorem Gu(C:Fl3 P)(k:Bs)(i:k.size=32)(j:¬beV k.toList<P):Gives 50 #[rv0,.string ⟨k⟩] (.tuple #[nv (beV k.toList),.bool false]):=λw =>
 (mU _ _ _ _ _ _ _ _ P ⟨k⟩ C.ref w).mono (by
  rintro e w' ⟨v,rfl,g,a,b,c,d,ok,rfl,m,n,l,-⟩;cases ok with
  | true=>exact absurd (m rfl).1.2 j
  | false =>
   have f:=l i;refine⟨_,rfl,g,?_⟩;rw[f.nv])
def n12(P:Nat)[NeZero P]:List TC:=ws (0:Fin P)++(ws (1:Fin P)++ws (0:Fin P))
end
section
open Go.RowKit Go.Sort
variable {P:Nat}[NeZero P]{N:Nat}
def FracT(t:T3 P)(p:EC.Pt P):Prop:=EC.Frac t.1 t.2.1 t.2.2 p/\EC.On p
def dbF(t:T3 P):T3 P:=(EC.fdE t.2.1 t.2.2*EC.fdT t.1 t.2.1 t.2.2,EC.fdD t.1*(t.1*(EC.fdE t.2.1 t.2.2*EC.fdE t.2.1 t.2.2)-EC.fdT t.1 t.2.1 t.2.2)-t.2.1*(EC.fdE t.2.1 t.2.2*EC.fdE t.2.1 t.2.2*EC.fdE t.2.1 t.2.2),EC.fdE t.2.1 t.2.2*EC.fdE t.2.1 t.2.2*EC.fdE t.2.1 t.2.2*t.2.2)
def plF(a b : T3 P): T3 P :=
  if a.2.2 = 0 then b else if b.2.2 = 0 then a else
  if b.1 * a.2.2 = a.1 * b.2.2 then(if b.2.1 * a.2.2 = a.2.1 * b.2.2 then dbF a else(0, 1, 0)) else
  ((b.1 * a.2.2 - a.1 * b.2.2) * EC.frT (b.2.1 * a.2.2 - a.2.1 * b.2.2) (b.1 * a.2.2 - a.1 * b.2.2) (a.2.2 * b.2.2) (a.1 * b.2.2),
   (b.2.1 * a.2.2 - a.2.1 * b.2.2) * (a.1 * b.2.2 * ((b.1 * a.2.2 - a.1 * b.2.2) * (b.1 * a.2.2 - a.1 * b.2.2)) - EC.frT (b.2.1 * a.2.2 - a.2.1 * b.2.2) (b.1 * a.2.2 - a.1 * b.2.2) (a.2.2 * b.2.2) (a.1 * b.2.2)) - a.2.1 * b.2.2 * ((b.1 * a.2.2 - a.1 * b.2.2) * (b.1 * a.2.2 - a.1 * b.2.2) * (b.1 * a.2.2 - a.1 * b.2.2)),
   (b.1 * a.2.2 - a.1 * b.2.2) * (b.1 * a.2.2 - a.1 * b.2.2) * (b.1 * a.2.2 - a.1 * b.2.2) * (a.2.2 * b.2.2))
theorem FracT.plus(C:Fl3 P){a b:T3 P}{p q:EC.Pt P}(h:FracT a p)(g:FracT b q):Gives 23 #[tv a,tv b] (tv (plF a b))/\FracT (plF a b) (EC.add p q):=by
 have ho:=C.cur.on h.2 g.2;obtain⟨o,r,j⟩:=a;obtain⟨n,m,l⟩:=b;refine⟨C9 C o r j n m l _ (λk=>by unfold plF;rw[yB3 k]) (λk d=>by unfold plF;rw[yB4 k,yB3 d]) (λk d e=>?_) (λk d c=>by unfold plF;rw[yB4 k,yB4 d,yB4 c]),?_⟩
 ·rcases h.1.plus C.cur h.2 g.1 g.2 k d with⟨c,f,e3⟩|⟨c,f,e3,i⟩|⟨c,f⟩
  ·exact .inl ⟨f,by unfold plF;rw[yB4 k,yB4 d,yB3 c,yB4 f]⟩
  ·exact .inr ⟨f,e3,by unfold plF;rw[yB4 k,yB4 d,yB3 c,yB3 f];rfl⟩
  ·exact absurd e c
 unfold plF;by_cases k:j=0
 ·rw[yB3 k];obtain rfl:=h.1.zero k;exact g
 ·rw[yB4 k];by_cases d:l=0
  ·rw[yB3 d];obtain rfl:=g.1.zero d;rw[EC.bF];exact h
  ·rw[yB4 d];rcases h.1.plus C.cur h.2 g.1 g.2 k d with⟨c,f,e3⟩|⟨c,f,e3,i⟩|⟨c,f⟩
   ·rw[yB3 c,yB4 f];refine⟨?_,ho⟩;rw[e3];exact rfl
   ·rw[yB3 c,yB3 f];refine⟨?_,ho⟩;rw[i];exact h.1.double C.cur h.2 k
   ·rw[yB4 c];exact⟨f,ho⟩
theorem FracT.none:FracT ((0,1,0):T3 P) .none:=⟨rfl,EC.iY⟩
def tmF(n:Nat)(t:T3 P):Nat->T3 P
 | 0=>(0,1,0)
 | m+1=>if n/2^(255-m)%2=1 then plF (plF (tmF n t m) (tmF n t m)) t else plF (tmF n t m) (tmF n t m)
theorem A6(C:Fl3 P){n:Nat}{t:T3 P}{p:EC.Pt P}(c:n<2^256)(h:FracT t p):∀m,m<=256->FracT (tmF n t m) (EC.mul (n/2^(256-m)) p)
 | 0,_=>by
  rw[YD,Nat.div_eq_of_lt c];exact FracT.none
 | m+1,hm=>by
  have d:=A6 C c h m oM;have e:256-m=255-m+1:=oM;rw[show 256-(m+1)=255-m by omega,Au n (255-m),<-e];unfold tmF;have k:=(FracT.plus C d d).2;rw[<-EC.mul_add C.cur h.2,<-Nat.two_mul]at k;by_cases b:n/2^(255-m)%2=1
  ·rw[yB3 b,b];exact(FracT.plus C k h).2
  ·rw[yB4 b,show n/2^(255-m)%2=0 by omega];exact k
theorem B7(C:Fld P)(x y:Fin P):EC.Frac x y 1 (.some (x,y):EC.Pt P):=⟨λh=>C.cur.two (by grobner),by grobner,by grobner⟩
end
section
open Go.RowKit Go.Sort Go.Deep
variable {P:Nat}[NeZero P]{N:Nat}
def gxB:Bs:=#[121,190,102,126,249,220,187,172,85,160,98,149,206,135,11,7,2,155,252,219,45,206,40,217,89,242,129,91,22,248,23,152]
theorem SY(C:Fld P):Gives 95 #[.string ⟨gxB⟩] (fv (gX P)):=λw=>(EK ⟨gxB⟩ rfl w).mono (by
 rintro e w' ⟨v,rfl,k,b⟩;refine⟨_,rfl,k,?_⟩;have h:=b.nv;rw[h];show nv _=nv _;rw[DO C];exact congrArg nv (by decide +kernel:beV gxB.toList=55066263022277343669578718895168534326250603453777594175500187360389116729240))
theorem PI(C:Fld P):rt (gX P*gX P*gX P+7)=some (gY P):=by
 have h:=Jj C;have b:gY P^2=gX P^3+7:=h;have k:gY P*gY P=gX P*gX P*gX P+7:=by
  generalize gX P=x at *;generalize gY P=y at *;clear h C
  grobner
 rw[Nk C k,yB4];rw[DN C];decide
def gT(P:Nat)[NeZero P]:T3 P:=(gX P,gY P,1)
theorem SL(C:Fl3 P):Gives 99 #[] (tv (gT P)):=by
 intro w;go_enter func99,ntmps99;refine RG.M.enter [] 11 kR ?_;intro a0 c;repeat refine TI ?_
 refine c.T [.m 0] [(0,RG.z 12)] [] [RG.z 12] [0] ⟨RG.mk 0 74,yB5⟩ ?_;intro j o f e;repeat refine TI ?_
 refine e.T [.c (fv (gX P)),.m 1,.u 1] [(1,RG.z 4)] [(1,2,ws (gX P))] [RG.z 12,ws (gX P)] [0,1] ⟨RG.cl (SY C.toFld),RG.mk 1 68,RG.pt i33,yB5⟩ ?_;intro i n p b;repeat refine TI ?_
 refine b.T [.x (fv (gX P)),.c (.tuple #[rv (gX P) (gY P) (1:Fin P),.bool true]),.x (.tuple #[rv (gX P) (gY P) (1:Fin P),.bool true]),.x (rv (gX P) (gY P) (1:Fin P)),.x (.bool true),.m 2,.u 2,.x (.bool true)] [(5,RG.z 12)] [(2,6,ws (gX P)++(ws (gY P)++(ws (1:Fin P))))] [RG.z 12,ws (gX P),ws (gX P)++(ws (gY P)++(ws (1:Fin P)))] [0,2] ⟨RG.ld u33 i33,RG.cl (EI C (gX P) (gY P) (PI C.toFld)),RG.st,RG.st,RG.st,RG.mk 2 74,RG.pt i56,RG.st,yB5⟩ ?_;intro l q g d;repeat refine TI ?_
 refine d.T [.x (rv (gX P) (gY P) (1:Fin P)),.u 0] [] [(0,1,ws (gX P)++(ws (gY P)++(ws (1:Fin P))))] [ws (gX P)++(ws (gY P)++(ws (1:Fin P))),ws (gX P),ws (gX P)++(ws (gY P)++(ws (1:Fin P)))] [0] ⟨RG.ld u56 i56,RG.pt i56,yB5⟩ ?_;intro r m k;refine UZ ?_;refine TM (v:=tv (gT P)) (RG.aC k.st 0 74 rfl 0 _ rfl (k.at (s:=.p 0 0)) u56 i56) k.sl.defers ?_;exact⟨_,rfl,k.st.bel.below,rfl⟩
end
section
open Go.RowKit Go.Sort
variable {P:Nat}[NeZero P]{N:Nat}
theorem Rp(i:Nat)(w:TA):(binOp .geq 3 (iZ i) (iZ 0)).run prog w=.ok (.bool true) w:=by
 go_simp
theorem Qy(i:Nat)(k:i<1000)(w:TA):(binOp .sub 3 (iZ i) (iZ 1)).run prog w=.ok (iZ ((i:Int)-1)) w:=by
 have h:=UO ((i:Int)-1) oM;go_simp
theorem Ox{n i:Nat}(k:n<top)(d:i<256)(h:n/2^i%2=1):Gives 61 #[nv n,iZ i] (uZ 1):=λw =>
 (qP _ n i (oH k) d w).mono (by rintro e w' ⟨v,rfl,c,t,rfl,b⟩;exact⟨_,rfl,c,by rw[b,h];rfl⟩)
theorem Oy{n i:Nat}(k:n<top)(d:i<256)(h:¬n/2^i%2=1):Gives 61 #[nv n,iZ i] (uZ 0):=λw =>
 (qP _ n i (oH k) d w).mono (by rintro e w' ⟨v,rfl,c,t,rfl,b⟩;exact⟨_,rfl,c,by rw[b,show n/2^i%2=0 by omega];rfl⟩)
theorem vP(C:Fl3 P)(n:Nat)(hn:n<top)(t:T3 P){p:EC.Pt P}(h:FracT t p):Gives 25 #[nv n,tv t] (tv (tmF n t 256)):=by
 intro w;go_enter func25,ntmps25;refine RG.Kx (v0:=nv n) (v1:=tv t) (n:=23) kR kR kR kR ?_;intro a0 h2 f0 f1;have h0:=RG.St.begin w;have x:RG.M w w.heap.size [] 23 [] [] [(0,.v (nv n)),(1,.v (tv t))] a0 _:=⟨h0,h2,⟨f0,f1,yB5⟩⟩
 repeat refine TI ?_
 refine x.T [.m 0,.m 1,.m 2] [(0,wn n),(1,tw t),(2,RG.z 12)] [] [wn n,tw t,RG.z 12] [2,3,4] ⟨RG.mk 0 68,RG.mk 1 74,RG.mk 2 74,yB5⟩ ?_;intro j1 Z X a1 w1 d;repeat refine TI ?_
 refine d.T [.c (tv ((0,1,0):T3 P)),.m 3,.u 3] [(1,RG.z 12)] [(3,2,tw ((0,1,0):T3 P))] [wn n,tw t,RG.z 12,tw ((0,1,0):T3 P)] [2,3,4,5] ⟨RG.cl (Eo C),RG.mk 3 74,RG.pt i56,yB5⟩ ?_;intro Y a2 w2 e;repeat refine TI ?_
 refine e.U [.x (iZ 255)] [2,3,4,5,6] ⟨RG.st,yB5⟩ ?_;intro u w3 b;have Q:u.tmps[2]? = some (pZ j1):=b.at (s:=(.p 0 0));have G:u.tmps[3]? = some (pZ Z):=b.at (s:=(.p 1 0));have F:u.tmps[4]? = some (pZ X):=b.at (s:=(.p 2 0));have M:u.tmps[5]? = some (pZ Y):=b.at (s:=(.p 3 0));have A:u.tmps[6]? = some (iZ 255):=b.at (s:=(.v (iZ 255)));repeat refine TI ?_
 refine V3 ?_;refine wp_loop_ghost (λm a wr=>m<=256/\RG.Sl a 23/\a.tmps[2]? = some (pZ j1)/\a.tmps[3]? = some (pZ Z)/\a.tmps[4]? = some (pZ X)/\a.tmps[5]? = some (pZ Y)/\a.tmps[6]? = some (iZ ((m:Int)-1))/\RG.St w w.heap.size [] [wn n,tw t,[uZ 0,uZ 0,uZ 0,uZ 0,uZ 0,uZ 0,uZ 0,uZ 0,uZ 0,uZ 0,uZ 0,uZ 0],tw (tmF n t (256-m))] [j1,Z,X,Y] wr) 256 ⟨TG _,b.sl,Q,G,F,M,A,?_⟩ ?_
 ·rw[Nat.sub_self,tmF];exact b.st
 intro m a wr;rintro⟨hm,sl,o,j,l,q,z,c⟩;have h1:n<2^256:=hn;generalize j1=D at o j l q c;generalize Z=K at o j l q c;generalize X=N at o j l q c;generalize Y=L at o j l q c;by_cases hz:m=0
 ·subst hz;have k:tmF n t (256-0)=tmF n t 256:=rfl;rw[k]at c;obtain⟨s,hs⟩:∃s,tmF n t 256=s:=⟨_,rfl⟩
  rw[hs]at c⊢;have x:RG.M w w.heap.size [] 23 [wn n,tw t,RG.z 12,tw s] [D,K,N,L] [(2,.p 0 0),(3,.p 1 0),(4,.p 2 0),(5,.p 3 0),(6,.v (iZ (-1)))] a _:=⟨c,sl,⟨o,j,l,q,z,yB5⟩⟩
  repeat refine TI ?_
  refine x.U [.x (iZ (-1)),.x (.bool false)] [4,5,9] ⟨RG.st,RG.st,yB5⟩ ?_;intro a1 w1 d;repeat refine TI ?_
  refine UG d.ev ?_;refine wp_exit ?_;dsimp only[Exit.then,Exit.inBlock];rw[yB3 rfl];repeat refine TI ?_
  refine d.T [.x (tv s),.u 2] [] [(2,1,tw s)] [wn n,tw t,tw s,tw s] [4] ⟨RG.ld u56 i56,RG.pt i56,yB5⟩ ?_;intro a2 w2 e;refine UZ ?_;refine TM (v:=tv s) (RG.aC e.st 4 74 rfl 2 _ rfl (e.at (s:=(.p 2 0))) u56 i56) e.sl.defers ?_;exact⟨_,rfl,e.st.bel.below,rfl⟩
 ·obtain⟨i,rfl⟩:∃i,m=i+1:=⟨m-1,oM⟩
  have hi:i<256:=oM;replace z:a.tmps[6]? = some (iZ i):=by rw[z];congr 2;omega
  have T:=A6 C h1 h (256-(i+1)) oM;obtain⟨s,hs⟩:∃s,tmF n t (256-(i+1))=s:=⟨_,rfl⟩
  rw[hs]at c T;obtain⟨s2,J⟩:∃s2,s2=plF s s:=⟨_,rfl⟩
  have g:=(T.plus C T).1;have I:=(T.plus C T).2;rw[<-J]at g I;obtain⟨s3,B⟩:∃s3,s3=plF s2 t:=⟨_,rfl⟩
  have E:=(I.plus C h).1;rw[<-B]at E;have k:tmF n t (256-i)=if n/2^i%2=1 then s3 else s2:=by
   rw[show 256-i=256-(i+1)+1 by omega];show(if n/2^(255-(256-(i+1)))%2=1 then plF (plF (tmF n t (256-(i+1))) (tmF n t (256-(i+1)))) t else plF (tmF n t (256-(i+1))) (tmF n t (256-(i+1))))=_;rw[show 255-(256-(i+1))=i by omega,hs,<-J,<-B]
  by_cases W:n/2^i%2=1
  ·rw[yB3 W]at k;have x:RG.M w w.heap.size [] 23 [wn n,tw t,RG.z 12,tw s] [D,K,N,L] [(2,.p 0 0),(3,.p 1 0),(4,.p 2 0),(5,.p 3 0),(6,.v (iZ i))] a _:=⟨c,sl,⟨o,j,l,q,z,yB5⟩⟩
   repeat refine TI ?_
   refine x.U [.x (iZ i),.x (.bool true)] [2,3,4,5,6,9] ⟨RG.st,RG.aH rfl .geq 3 3 8 (iZ i) (iZ 0) (.bool true) rfl rfl RG.sx (λw=>kR) (Rp i),yB5⟩ ?_;intro a1 w1 d;repeat refine TI ?_
   refine UC d.ev ?_;refine Vg ?_;refine TI ?_;refine V3 ?_;repeat refine TI ?_
   refine d.T [.x (tv s),.x (tv s),.c (tv s2),.u 3] [] [(3,3,tw s2)] [wn n,tw t,RG.z 12,tw s2] [2,3,4,5,6] ⟨RG.ld u56 i56,RG.ld u56 i56,RG.cl g,RG.pt i56,yB5⟩ ?_;intro a2 w2 e;repeat refine TI ?_
   refine e.U [.x (nv n),.x (iZ i),.c (uZ 1),.x (.bool true)] [2,3,4,5,6,18] ⟨RG.ld u33 i33,RG.st,RG.cl (Ox hn hi W),RG.st,yB5⟩ ?_;intro u w3 b;repeat refine TI ?_
   refine UC b.ev ?_;repeat refine TI ?_
   refine b.T [.x (tv s2),.x (tv t),.c (tv s3),.u 3] [] [(3,3,tw s3)] [wn n,tw t,RG.z 12,tw s3] [2,3,4,5,6] ⟨RG.ld u56 i56,RG.ld u56 i56,RG.cl E,RG.pt i56,yB5⟩ ?_;intro y w4 f;repeat refine TI ?_
   refine f.U [.x (iZ i),.x (iZ ((i:Int)-1)),.x (iZ ((i:Int)-1))] [2,3,4,5,6] ⟨RG.st,RG.aH rfl .sub 3 3 10 (iZ i) (iZ 1) (iZ ((i:Int)-1)) rfl rfl RG.sx (λw=>kR) (Qy i oM),RG.st,yB5⟩ ?_;intro H w5 r;have V:H.tmps[2]? = some (pZ D):=r.at (s:=(.p 0 0));have R:H.tmps[3]? = some (pZ K):=r.at (s:=(.p 1 0));have U:H.tmps[4]? = some (pZ N):=r.at (s:=(.p 2 0));have O:H.tmps[5]? = some (pZ L):=r.at (s:=(.p 3 0));have S:H.tmps[6]? = some (iZ ((i:Int)-1)):=r.at (s:=(.v (iZ ((i:Int)-1))));show ∃n',_;exact⟨i,Xs i,oM,r.sl,V,R,U,O,S,by rw[k];exact r.st⟩
  ·rw[yB4 W]at k;have x:RG.M w w.heap.size [] 23 [wn n,tw t,RG.z 12,tw s] [D,K,N,L] [(2,.p 0 0),(3,.p 1 0),(4,.p 2 0),(5,.p 3 0),(6,.v (iZ i))] a _:=⟨c,sl,⟨o,j,l,q,z,yB5⟩⟩
   repeat refine TI ?_
   refine x.U [.x (iZ i),.x (.bool true)] [2,3,4,5,6,9] ⟨RG.st,RG.aH rfl .geq 3 3 8 (iZ i) (iZ 0) (.bool true) rfl rfl RG.sx (λw=>kR) (Rp i),yB5⟩ ?_;intro a1 w1 d;repeat refine TI ?_
   refine UC d.ev ?_;refine Vg ?_;refine TI ?_;refine V3 ?_;repeat refine TI ?_
   refine d.T [.x (tv s),.x (tv s),.c (tv s2),.u 3] [] [(3,3,tw s2)] [wn n,tw t,RG.z 12,tw s2] [2,3,4,5,6] ⟨RG.ld u56 i56,RG.ld u56 i56,RG.cl g,RG.pt i56,yB5⟩ ?_;intro a2 w2 e;repeat refine TI ?_
   refine e.U [.x (nv n),.x (iZ i),.c (uZ 0),.x (.bool false)] [2,3,4,5,6,18] ⟨RG.ld u33 i33,RG.st,RG.cl (Oy hn hi W),RG.st,yB5⟩ ?_;intro u w3 b;repeat refine TI ?_
   refine UG b.ev ?_;refine Vg ?_;repeat refine TI ?_
   refine b.U [.x (iZ i),.x (iZ ((i:Int)-1)),.x (iZ ((i:Int)-1))] [2,3,4,5,6] ⟨RG.st,RG.aH rfl .sub 3 3 10 (iZ i) (iZ 1) (iZ ((i:Int)-1)) rfl rfl RG.sx (λw=>kR) (Qy i oM),RG.st,yB5⟩ ?_;intro y w4 f;have r:y.tmps[2]? = some (pZ D):=f.at (s:=(.p 0 0));have R:y.tmps[3]? = some (pZ K):=f.at (s:=(.p 1 0));have S:y.tmps[4]? = some (pZ N):=f.at (s:=(.p 2 0));have H:y.tmps[5]? = some (pZ L):=f.at (s:=(.p 3 0));have O:y.tmps[6]? = some (iZ ((i:Int)-1)):=f.at (s:=(.v (iZ ((i:Int)-1))));show ∃n',_;exact⟨i,Xs i,oM,f.sl,r,R,S,H,O,by rw[k];exact f.st⟩
end
section
open Go.RowKit Go.Sort Go.Deep
variable {P:Nat}[NeZero P]{N:Nat}
theorem Bv(C:Fld P)(x:Fin P):Gives 63 #[fv x] (.string ⟨bx x.val⟩):=λw =>
 (vS _ _ w (C.four x)).mono (by
  rintro e w' ⟨v,rfl,g,a,b,c,d,k,rfl⟩;refine⟨_,rfl,g,?_⟩;have f:fv x=.agg #[uZ ((x.val%18446744073709551616:Nat):Int),uZ ((x.val/18446744073709551616%18446744073709551616:Nat):Int),uZ ((x.val/340282366920938463463374607431768211456%18446744073709551616:Nat):Int),uZ ((x.val/6277101735386680763835789423207666416102355444464034512896%18446744073709551616:Nat):Int)]:=rfl;rw[f]at k;simp only[Um.injEq,Array.mk.injEq,List.cons.injEq,UV.injEq,true_and,and_true,Int.ofNat_inj]at k;obtain⟨rfl,rfl,rfl,rfl⟩:=k;rfl)
theorem u31:(prog.underlying 42).map (·.isRow)=some false:=kR
theorem and1(n r:Nat)(b:n%2=r)(w:TA):(binOp .and 42 (uZ ((n%18446744073709551616:Nat):Int)) (uZ 1)).run prog w=.ok (uZ r) w:=by
 have h:=and_one (n%18446744073709551616) (Vm _ dC);rw[show n%18446744073709551616%2=r by omega]at h;generalize n%18446744073709551616=k at h⊢;go_simp
theorem cat(m:UInt8)(n:Nat)(w:TA):(binOp .add 9 (.string ⟨#[m]⟩) (.string ⟨bx n⟩)).run prog w=.ok (.string ⟨#[m]++bx n⟩) w:=by
 have h:=gJ n;generalize bx n=b at h⊢;have c:(⟨#[m]⟩:ByteArray)++⟨b⟩=⟨#[m]++b⟩:=by
  have k:((⟨#[m]⟩:ByteArray)++⟨b⟩).data=#[m]++b:=Yl;rw[<-k]
 go_simp
theorem bs1(m:Int)(w:TA):(We 23 1 #[(0,.int .u8 m)]).run prog w=.ok (.slice (some ⟨w.heap.size,0,none⟩) 1 1) (w.alloc (.cells #[.int .u8 m] 5)):=by
 obtain⟨d,b,c⟩:=TJ.1 DD;simp only[Prod.mk.injEq]at c;obtain⟨e,k,-⟩:=c;exact run_buildSlice w 23 5 1 _ #[.int .u8 m] d (.int .u8 0) Hp b e (by rw[k];omega) (by rw[k];omega) (by rw[k];kernel_rfl)
theorem str1(m:UInt8)(w:TA)(k:Nat)(h:w.rangeAt k 0 [.int .u8 (ub m)]):(convert 23 9 (.slice (some (aZ k)) 1 1)).run prog w=.ok (.string ⟨#[m]⟩) w:=by
 have b:=run_convert_bytes_back (P:=prog) w 23 9 5 (aZ k) 1 [m] slice22 int5 str9 (λj c=>by
  obtain rfl:j=0:=by simpa using c
  have d:=h 0 _ rfl;have e:(⟨k,0,none⟩:Addr).add 0=⟨k,0,none⟩:=rfl;rw[e,d];simp[ub])
 simpa using b
omit [NeZero P] in
theorem NV(x y z:Fin P):∃c b1 j e k b l d g i m f:Nat,rv x y z=.agg #[uZ c,uZ b1,uZ j,uZ e,uZ k,uZ b,uZ l,uZ d,uZ g,uZ i,uZ m,uZ f]:=
 ⟨_,_,_,_,_,_,_,_,_,_,_,_,rfl⟩
theorem QJ(C:Fl3 P)(x y z:Fin P)(g:z=0):Gives 27 #[rv x y z] (.string ⟨FZ⟩):=by
 intro w;have c:=Er C x y z g;obtain⟨p,b1,t,q,o,l,n,j,r,s,u,m,e⟩:=NV x y z;rw[e]at c⊢;have i:=QX;go_enter func27,ntmps27;go_wp2_with fail
 refine(c _).mono ?_;rintro e k ⟨v,rfl,b,rfl⟩;have d:Hid (Below w.heap.size w k):=(aD w _).trans (b.mono (by simp));have f:(convert 23 9 (.slice (some ⟨k.heap.size,0,none⟩) 33 33)).run prog (k.alloc (.cells (madeCells #[.int .u8 0] 33) 5))=.ok (.string ⟨FZ⟩) (k.alloc (.cells (madeCells #[.int .u8 0] 33) 5)):=
  conv_str prog 23 9 5 slice22 int5 str9 _ _ 0 33 33 _ (Holds.made (enc:=encB) k 5 33 (0:UInt8)) dC
 clear b c;go_wp2;go_ret;exact⟨_,rfl,d.trans ((aD k _).mono d.size),rfl⟩
theorem Lz(C:Fl3 P)(x y z:Fin P)(r:¬z=0)(g:(y*EC.inv z).val%2=0):Gives 27 #[(rv x y z)] (.string ⟨#[2]++bx (x*EC.inv z).val⟩):=by
 intro w;obtain⟨d,l⟩:∃c,c=EC.inv z:=⟨_,rfl⟩
 obtain⟨b,j⟩:∃c,c=x*d:=⟨_,rfl⟩
 obtain⟨e,m⟩:∃c,c=y*d:=⟨_,rfl⟩
 have f:((.string ⟨#[2]++bx b.val⟩):TC)=(.string ⟨#[2]++bx (x*EC.inv z).val⟩):=by
  subst_vars;rfl
 rw[<-f];go_enter func27,ntmps27;refine RG.M.enter [(0,.v (rv x y z))] 36 kR ?_;intro a0 q;repeat refine TI ?_
 refine q.T [.m 0,.x (.string ⟨#[]⟩)] [(0,ws x++(ws y++(ws z)))] [] [ws x++(ws y++(ws z))] [1,2] ⟨RG.mk 0 74,RG.st,yB5⟩ ?_;intro E L A t;repeat refine TI ?_
 refine t.U [.x (rv x y z),.c (.bool false),.x (.bool false)] [1,2,3] ⟨RG.ld u56 i56,RG.cl (AP C x y z r),RG.st,yB5⟩ ?_;intro K M o;repeat refine TI ?_
 refine o.U [.x (.bool false)] [1,2,9] ⟨RG.st,yB5⟩ ?_;intro Q B n;repeat refine TI ?_
 refine UG n.ev ?_;refine Vg ?_;repeat refine TI ?_
 refine n.D [.c rv0,.s (.p 0 8),.x (fv z),.c (fv d),.m 1,.u 1] [(4,RG.z 4)] [(1,5,ws d)] [ws x++(ws y++(ws z)),ws d] [1,2,4] ⟨RG.cl bN,RG.st,RG.ld u33 i33,RG.cl ((ID C z).e l),RG.mk 1 68,RG.pt i33,yB5⟩ ?_;intro U S I u;repeat refine TI ?_
 refine u.D [.c rv0,.s (.p 0 0),.x (fv x),.x (fv d),.c (fv b),.m 2,.u 2] [(5,RG.z 4)] [(2,6,ws b)] [ws x++(ws y++(ws z)),ws d,ws b] [1,2,4,5] ⟨RG.cl bN,RG.st,RG.ld u33 i33,RG.ld u33 i33,RG.cl ((bB C x d).e j),RG.mk 2 68,RG.pt i33,yB5⟩ ?_;intro R G J a;repeat refine TI ?_
 refine a.D [.c rv0,.s (.p 0 4),.x (fv y),.x (fv d),.c (fv e),.m 3,.u 3] [(5,RG.z 4)] [(3,6,ws e)] [ws x++(ws y++(ws z)),ws d,ws b,ws e] [2,5,6] ⟨RG.cl bN,RG.st,RG.ld u33 i33,RG.ld u33 i33,RG.cl ((bB C y d).e m),RG.mk 3 68,RG.pt i33,yB5⟩ ?_;intro D O T p;repeat refine TI ?_
 refine p.d [.s 26 [] (.p 3 0),.x 27 [(26,0)] (uZ ((e.val%18446744073709551616:Nat):Int)),.x 28 [(27,1)] (uZ 0),.x 29 [(28,2)] (.int .u8 0),.x 30 [(29,3)] (.int .u8 2),⟨some 31,[(30,4)],.s 4 1 1,.make 4⟩,.x 32 [(31,5)] (.string ⟨#[2]⟩),.x 33 [] (fv b),.c 34 [(33,7)] (.string ⟨bx b.val⟩),.x 35 [(32,6),(34,8)] (.string ⟨#[2]++bx b.val⟩),.x 2 [(35,9)] (.string ⟨#[2]++bx b.val⟩)] [(5,[.int .u8 2])] [] [ws x++(ws y++(ws z)),ws d,ws b,ws e,[.int .u8 2]] [(2,.v (.string ⟨#[2]++bx b.val⟩))] ⟨RG.dU rfl 68 6 (iZ 0) rfl (.p 3 0) RG.sx (λμ w=>kR),RG.mC rfl 3 0 _ rfl rfl kR 42 26 rfl (uZ ((e.val%18446744073709551616:Nat):Int)) rfl RG.sx rfl u31,RG.aH rfl .and 42 42 27 (uZ ((e.val%18446744073709551616:Nat):Int)) (uZ 1) (uZ 0) rfl rfl RG.sx (λw=>kR) (and1 e.val 0 (by subst_vars;exact g)),RG.jG rfl 42 5 28 (uZ 0) (.int .u8 0) rfl rfl RG.sx (λw=>kR),RG.st,RG.nK 4 rfl _ rfl 23 5 30 (.int .u8 2) rfl rfl RG.sx (bs1 2),RG.nJ rfl 4 5 _ rfl _ rfl rfl kR kR 23 9 31 1 (.string ⟨#[2]⟩) rfl rfl RG.sx (λw k h=>str1 2 w k h),RG.ld u33 i33,RG.cl (Bv C.toFld b),RG.aJ rfl .add 9 9 32 34 (.string ⟨#[2]⟩) (.string ⟨bx b.val⟩) (.string ⟨#[2]++bx b.val⟩) rfl rfl RG.sx RG.sx (λw=>kR) (cat 2 _),RG.st,yB5⟩ ?_;intro H F N i;refine UZ ?_;refine TM (v:=(.string ⟨#[2]++bx b.val⟩)) (RG.eD 2 rfl _ (i.at (s:=(.v (.string ⟨#[2]++bx b.val⟩))))) i.sl.defers ?_;exact⟨_,rfl,i.st.bel.below,rfl⟩
theorem Ly(C:Fl3 P)(x y z:Fin P)(r:¬z=0)(g:(y*EC.inv z).val%2=1):Gives 27 #[(rv x y z)] (.string ⟨#[3]++bx (x*EC.inv z).val⟩):=by
 intro w;obtain⟨d,l⟩:∃c,c=EC.inv z:=⟨_,rfl⟩
 obtain⟨b,j⟩:∃c,c=x*d:=⟨_,rfl⟩
 obtain⟨e,m⟩:∃c,c=y*d:=⟨_,rfl⟩
 have f:((.string ⟨#[3]++bx b.val⟩):TC)=(.string ⟨#[3]++bx (x*EC.inv z).val⟩):=by
  subst_vars;rfl
 rw[<-f];go_enter func27,ntmps27;refine RG.M.enter [(0,.v (rv x y z))] 36 kR ?_;intro a0 q;repeat refine TI ?_
 refine q.T [.m 0,.x (.string ⟨#[]⟩)] [(0,ws x++(ws y++(ws z)))] [] [ws x++(ws y++(ws z))] [1,2] ⟨RG.mk 0 74,RG.st,yB5⟩ ?_;intro E L A t;repeat refine TI ?_
 refine t.U [.x (rv x y z),.c (.bool false),.x (.bool false)] [1,2,3] ⟨RG.ld u56 i56,RG.cl (AP C x y z r),RG.st,yB5⟩ ?_;intro K M o;repeat refine TI ?_
 refine o.U [.x (.bool false)] [1,2,9] ⟨RG.st,yB5⟩ ?_;intro Q B n;repeat refine TI ?_
 refine UG n.ev ?_;refine Vg ?_;repeat refine TI ?_
 refine n.D [.c rv0,.s (.p 0 8),.x (fv z),.c (fv d),.m 1,.u 1] [(4,RG.z 4)] [(1,5,ws d)] [ws x++(ws y++(ws z)),ws d] [1,2,4] ⟨RG.cl bN,RG.st,RG.ld u33 i33,RG.cl ((ID C z).e l),RG.mk 1 68,RG.pt i33,yB5⟩ ?_;intro U S I u;repeat refine TI ?_
 refine u.D [.c rv0,.s (.p 0 0),.x (fv x),.x (fv d),.c (fv b),.m 2,.u 2] [(5,RG.z 4)] [(2,6,ws b)] [ws x++(ws y++(ws z)),ws d,ws b] [1,2,4,5] ⟨RG.cl bN,RG.st,RG.ld u33 i33,RG.ld u33 i33,RG.cl ((bB C x d).e j),RG.mk 2 68,RG.pt i33,yB5⟩ ?_;intro R G J a;repeat refine TI ?_
 refine a.D [.c rv0,.s (.p 0 4),.x (fv y),.x (fv d),.c (fv e),.m 3,.u 3] [(5,RG.z 4)] [(3,6,ws e)] [ws x++(ws y++(ws z)),ws d,ws b,ws e] [2,5,6] ⟨RG.cl bN,RG.st,RG.ld u33 i33,RG.ld u33 i33,RG.cl ((bB C y d).e m),RG.mk 3 68,RG.pt i33,yB5⟩ ?_;intro D O T p;repeat refine TI ?_
 refine p.d [.s 26 [] (.p 3 0),.x 27 [(26,0)] (uZ ((e.val%18446744073709551616:Nat):Int)),.x 28 [(27,1)] (uZ 1),.x 29 [(28,2)] (.int .u8 1),.x 30 [(29,3)] (.int .u8 3),⟨some 31,[(30,4)],.s 4 1 1,.make 4⟩,.x 32 [(31,5)] (.string ⟨#[3]⟩),.x 33 [] (fv b),.c 34 [(33,7)] (.string ⟨bx b.val⟩),.x 35 [(32,6),(34,8)] (.string ⟨#[3]++bx b.val⟩),.x 2 [(35,9)] (.string ⟨#[3]++bx b.val⟩)] [(5,[.int .u8 3])] [] [ws x++(ws y++(ws z)),ws d,ws b,ws e,[.int .u8 3]] [(2,.v (.string ⟨#[3]++bx b.val⟩))] ⟨RG.dU rfl 68 6 (iZ 0) rfl (.p 3 0) RG.sx (λμ w=>kR),RG.mC rfl 3 0 _ rfl rfl kR 42 26 rfl (uZ ((e.val%18446744073709551616:Nat):Int)) rfl RG.sx rfl u31,RG.aH rfl .and 42 42 27 (uZ ((e.val%18446744073709551616:Nat):Int)) (uZ 1) (uZ 1) rfl rfl RG.sx (λw=>kR) (and1 e.val 1 (by subst_vars;exact g)),RG.jG rfl 42 5 28 (uZ 1) (.int .u8 1) rfl rfl RG.sx (λw=>kR),RG.st,RG.nK 4 rfl _ rfl 23 5 30 (.int .u8 3) rfl rfl RG.sx (bs1 3),RG.nJ rfl 4 5 _ rfl _ rfl rfl kR kR 23 9 31 1 (.string ⟨#[3]⟩) rfl rfl RG.sx (λw k h=>str1 3 w k h),RG.ld u33 i33,RG.cl (Bv C.toFld b),RG.aJ rfl .add 9 9 32 34 (.string ⟨#[3]⟩) (.string ⟨bx b.val⟩) (.string ⟨#[3]++bx b.val⟩) rfl rfl RG.sx RG.sx (λw=>kR) (cat 3 _),RG.st,yB5⟩ ?_;intro H F N i;refine UZ ?_;refine TM (v:=(.string ⟨#[3]++bx b.val⟩)) (RG.eD 2 rfl _ (i.at (s:=(.v (.string ⟨#[3]++bx b.val⟩))))) i.sl.defers ?_;exact⟨_,rfl,i.st.bel.below,rfl⟩
end
section
open Go.RowKit Go.Sort
variable {P:Nat}[NeZero P]{N:Nat}
theorem C7(C:Fl3 P){t:T3 P}{p:EC.Pt P}(h:FracT t p):Gives 27 #[tv t] (.string ⟨wr p⟩):=by
 obtain⟨x,y,z⟩:=t;match p,h with
 | none,h=>exact QJ C x y z h.1
 | some (a,b),h =>
  obtain⟨⟨e,c,k⟩,ho⟩:=h;have i:=EC.inv_mul C.toFld.cur.pr e;have f:x*EC.inv z=a:=by
   have c:x=a*z:=c;rw[c]
   grobner
  have g:y*EC.inv z=b:=by
   have k:y=b*z:=k;rw[k]
   grobner
  show Gives _ #[rv x y z] (.string ⟨#[mark b.val]++bx a.val⟩);rw[<-f,<-g];unfold mark;by_cases d:(y*EC.inv z).val%2=1
  ·rw[yB3 d];exact Ly C x y z e d
  ·rw[yB4 d];exact Lz C x y z e oM
end
section
open Go.RowKit Go.Sort Go.Deep
variable {P:Nat}[NeZero P]{N:Nat}
theorem Nf:prog.underlying 55=some (.array 33 5):=kR
theorem nN{b:Bs}(h:b.size=33):aA b=[.int .u8 (ub b[0]!),.int .u8 (ub b[1]!),.int .u8 (ub b[2]!),.int .u8 (ub b[3]!),.int .u8 (ub b[4]!),.int .u8 (ub b[5]!),.int .u8 (ub b[6]!),.int .u8 (ub b[7]!),.int .u8 (ub b[8]!),.int .u8 (ub b[9]!),.int .u8 (ub b[10]!),.int .u8 (ub b[11]!),.int .u8 (ub b[12]!),.int .u8 (ub b[13]!),.int .u8 (ub b[14]!),.int .u8 (ub b[15]!),.int .u8 (ub b[16]!),.int .u8 (ub b[17]!),.int .u8 (ub b[18]!),.int .u8 (ub b[19]!),.int .u8 (ub b[20]!),.int .u8 (ub b[21]!),.int .u8 (ub b[22]!),.int .u8 (ub b[23]!),.int .u8 (ub b[24]!),.int .u8 (ub b[25]!),.int .u8 (ub b[26]!),.int .u8 (ub b[27]!),.int .u8 (ub b[28]!),.int .u8 (ub b[29]!),.int .u8 (ub b[30]!),.int .u8 (ub b[31]!),.int .u8 (ub b[32]!)]:=by
 apply List.ext_getElem?;intro i;by_cases k:i<33
 ·rw[rI b i oM];match i,k with
  | 0,_=>rfl
  | 1,_=>rfl
  | 2,_=>rfl
  | 3,_=>rfl
  | 4,_=>rfl
  | 5,_=>rfl
  | 6,_=>rfl
  | 7,_=>rfl
  | 8,_=>rfl
  | 9,_=>rfl
  | 10,_=>rfl
  | 11,_=>rfl
  | 12,_=>rfl
  | 13,_=>rfl
  | 14,_=>rfl
  | 15,_=>rfl
  | 16,_=>rfl
  | 17,_=>rfl
  | 18,_=>rfl
  | 19,_=>rfl
  | 20,_=>rfl
  | 21,_=>rfl
  | 22,_=>rfl
  | 23,_=>rfl
  | 24,_=>rfl
  | 25,_=>rfl
  | 26,_=>rfl
  | 27,_=>rfl
  | 28,_=>rfl
  | 29,_=>rfl
  | 30,_=>rfl
  | 31,_=>rfl
  | 32,_=>rfl
  | n+33,h=>exact absurd h oM
 ·rw[VW (by rw[aK h];omega),VW (by show 33<=i;omega)]
theorem bytes_eq{a b:Bs}(g:a.size=33)(e:b.size=33):(∀i∈US 33,ub a[i]! = ub b[i]!)↔a=b:=by
 constructor
 ·intro h;apply Z5 (by rw[g,e]);intro i f d;have k:=h i (U4.2 oM);rw[getElem!_pos a i f,getElem!_pos b i d]at k;have c:a[i].toNat=b[i].toNat:=by unfold ub at k;omega
  exact yAL.1 c
 ·rintro rfl i _;rfl
theorem Tn{a b:Bs}(e:a.size=33)(d:b.size=33)(w:TA):(Op.equal 55 (.agg (aA a).toArray) (.agg (aA b).toArray)).run prog w=.ok (decide (a=b)) w:=by
 have k:(prog.info? 5).isSome=true:=kR;obtain⟨f,c⟩:=Option.isSome_iff_exists.1 k;show(Op.equalIn 10000 55 _ _).run prog w=_;rw[run_equalIn_array w 9999 _ _ Nf c,cells5,
  eqI _ _ (λi=>ub a[i]!) (λi=>ub b[i]!) 9998 w (US 33) (λi k=>by
   rw[XJ];exact rI a i (by rw[e];exact U4.1 k)) (λi k=>by
   rw[XJ];exact rI b i (by rw[d];exact U4.1 k))]
 rw[decide_eq_decide.2 (bytes_eq e d)]
theorem Fo{b:Bs}(k:b.size=33)(e:Bool)(w:TA):(Instr.checkKey e 10000 55 (.agg (aA b).toArray)).run prog w=.ok () w:=by
 rw[nN k];kernel_rfl
def at?(b:Bs):List Bs->Nat->Option Nat
 | [],_=>none
 | k :: r,i=>if b=k then some i else at? b r (i+1)
def ents:List Bs->Nat->List MapEntry
 | [],_=>[]
 | k :: r,i=>{ key:=.agg (aA k).toArray,val:=iZ i,born:=i } :: ents r (i+1)
theorem Cd{b:Bs}(c:b.size=33)(w:TA):∀(D:List Bs) (i:Nat),(∀k∈D,k.size=33)->(yAJ 55 (.agg (aA b).toArray) (ents D i) i).run prog w=.ok ((at? b D i).map λj=>(j,iZ j)) w
 | [],i,_=>rfl
 | k :: r,i,h=>by
  have f:=Cd c w r (i+1) (λx g=>h x (Uq _ g));have e:=Tn c (h k Uz) w;unfold ents yAJ at?;simp only[Ue,e,UE];by_cases d:b=k
  ·simp only[d,decide_true,if_true,VA,XK]
  ·simp only[d,decide_false,Bool.false_eq_true,if_false,f]
theorem E0{b:Bs}(d:b.size=33)(D:List Bs)(h:∀k∈D,k.size=33)(w:TA):(yBl 55 (.agg (aA b).toArray) (ents D 0)).run prog w=.ok ((at? b D 0).map λj=>(j,iZ j)) w:=by
 have c:=run_underlying Nf w;unfold yBl;rw[Ue,c,UE];cases D with
 | nil=>rfl
 | cons k r =>
  have e:Instr.findNow (.array 33 5) (.agg (aA b).toArray) (ents (k :: r) 0) 0=none:=rfl;simp only[e];exact Cd d w (k :: r) 0 h
theorem at?_none{b:Bs}:∀ {D:List Bs}{i:Nat},at? b D i=none↔b ∉ D
 | [],i=>by simp[at?]
 | k :: r,i=>by
  unfold at?;by_cases h:b=k
  ·simp[h]
  ·simp[h,at?_none (D:=r) (i:=i+1)]
end
section
open Go.RowKit Go.Sort Go.Deep
section
variable {P:Vd}{ops:Array UI}{rest:List UI}{op:UI}{a:Act}{w w':TA}{v u:TC}{Q:Exit->Act->TA->Prop}
theorem aM(k:op.guard=none)(T:Uw)(x:Yj)(ho:op.op=.box T x)(d:a.eval x=u)(b:(U6 T u).run P w=.ok v w')(h:wpList P ops Q rest (a.put op.dst v) w'):wpList P ops Q (op :: rest) a w:=
 Xw k λK c=>by
  unfold Vp UD;simp only[ho,d,Ue,b,UE,VA];exact c _ _ h
end
variable {N:Nat}
theorem kN:(prog.info? 55).map (·.size)=some 33:=kR
theorem uCP:(prog.underlying 55).map (·.isRow)=some true:=kR
theorem xJ{a:Bs}(k:a.size=33)(w:TA):(U6 55 (.agg (aA a).toArray)).run prog w=.ok (.pointer (some ⟨w.heap.size,0,none⟩)) (w.alloc (.cells (aA a).toArray 55)):=by
 rw[nN k];kernel_rfl
theorem Qz(k:Nat)(w:TA):(Instr.sliceAt 55 (pZ k) none none none).run prog w=.ok (.slice (some (aZ k)) 33 33) w:=kR
theorem row_holds{W:TA}{k:Nat}{a:Bs}(h:Row W k (aA a)):Holds encB W k 0 a:=cb_holds h.2.1 h.2.2
theorem vF{W:TA}{k:Nat}{a:Bs}(b:a.size=33)(h:Row W k (aA a)):SP.PartOk W (.slice (some (aZ k)) 33 33) a.toList:=
 ⟨_,k,0,33,a,by rw[b],rfl,oM,oM,T8 ⟨rfl,row_holds h⟩⟩
theorem Ld{W:TA}{r:Nat}{L:Bs}(h:Holds encB W r 0 L):Holds SP.encB W r 0 L:=h
theorem Lc{W:TA}{r:Nat}{L:Bs}(h:Holds SP.encB W r 0 L):Holds encB W r 0 L:=h
end
section
open Go.RowKit Go.Sort Go.Deep
variable {P:Nat}[NeZero P]{N:Nat}
theorem ND(g k:Nat)(w:TA):(Instr.arrayAt 55 (.slice (some (aZ g)) 33 k)).run prog w=.ok (pZ g) w:=kR
theorem Im{W:TA}{k:Nat}{a:Bs}(b:Holds encB W k 0 a)(c:k<W.heap.size):Row W k (aA a):=⟨c,(xH b).1,(xH b).2⟩
theorem nM(a:Bs):(aA a).toArray.all (·.oneCell')=true:=by
 rw[Array.all_eq_true'];intro v hv;obtain⟨x,-,rfl⟩:=UM.1 (List.mem_toArray.1 hv);rfl
def pvl(a:Bs):TC:=.agg (aA a).toArray
end
section
open Go.RowKit Go.Sort Go.Deep
section
variable {P:Vd}{ops:Array UI}{rest:List UI}{op:UI}{a:Act}{w w':TA}{v:TC}{Q:Exit->Act->TA->Prop}
theorem uO(b:op.guard=none)(T:Uw)(k:Array (Nat × Yj))(ho:op.op=.build T k)(vs:Array (Nat × TC))(e:(k.map λ(i,x)=>(i,a.eval x))=vs)(c:(YP T vs).run P w=.ok v w')(h:wpList P ops Q rest (a.put op.dst v) w'):wpList P ops Q (op :: rest) a w:=
 Xw b λK d=>by
  unfold Vp UD;simp only[ho,e,Ue,c,UE,VA];exact d _ _ h
theorem oZ(b:op.guard=none)(T:Uw)(n:Nat)(k:Array (Nat × Yj))(ho:op.op=.buildSlice T n k)(vs:Array (Nat × TC))(e:(k.map λ(i,x)=>(i,a.eval x))=vs)(c:(We T n vs).run P w=.ok v w')(h:wpList P ops Q rest (a.put op.dst v) w'):wpList P ops Q (op :: rest) a w:=
 Xw b λK d=>by
  unfold Vp UD;simp only[ho,e,Ue,c,UE,VA];exact d _ _ h
end
theorem RP{a:Bs}(k:a.size=33)(n:Nat)(w:TA):(YP 100 #[(0,nv n),(1,pvl a)]).run prog w=.ok (.agg (wn n++aA a).toArray) w:=by
 unfold pvl;rw[nN k];kernel_rfl
theorem RJ{a:Bs}(k:a.size=33)(n:Nat)(w:TA):(We 50 1 #[(0,.agg (wn n++aA a).toArray)]).run prog w=.ok (.slice (some ⟨w.heap.size,0,none⟩) 1 1) (w.alloc (.cells (wn n++aA a).toArray 100)):=by
 rw[nN k];kernel_rfl
theorem boxS(n:Nat)(w:TA):(U6 46 (nv n)).run prog w=.ok (.pointer (some ⟨w.heap.size,0,none⟩)) (w.alloc (.cells (wn n).toArray 46)):=kR
theorem Gv(a:Bs)(q:a.size=33)(n:Nat)(w:TA):TW prog 75 #[pvl a,nv n] w (rZ w λe w'=>∃k,e=.slice (some (aZ k)) 1 1/\w.heap.size<=k/\Row w' k (wn n++aA a)):=by
 have H:=Hid.mk' (xJ q w);obtain⟨c,j⟩:=hE (w.alloc (.cells (aA a).toArray 55));rw[j.out]at H;have s:c.heap.size=w.heap.size+1:=by rw[<-j.out,TQ]
 have C:=Hid.mk' (boxS n c);obtain⟨b,f⟩:=hE (c.alloc (.cells (wn n).toArray 46));rw[f.out,s]at C;have I:b.heap.size=w.heap.size+2:=by rw[<-f.out,TQ,s]
 have G:=Hid.mk' (RP q n b);have D:=Hid.mk' (RJ q n b);obtain⟨m,l⟩:=hE (b.alloc (.cells (wn n++aA a).toArray 100));rw[l.out,I]at D;have K:Hid (Row b w.heap.size (aA a)/\Row b (w.heap.size+1) (wn n)/\Below w.heap.size w m/\Row m (w.heap.size+2) (wn n++aA a)):=by
  have i:Row c w.heap.size (aA a):=by rw[<-j.out];exact aE w _ _
  have o:Row b (w.heap.size+1) (wn n):=by rw[<-f.out,<-s];exact aE c _ _
  have r:Row m (w.heap.size+2) (wn n++aA a):=by rw[<-l.out,<-I];exact aE b _ _
  have b1:Below w.heap.size w c:=by rw[<-j.out];exact aD w _
  have g:Below c.heap.size c b:=by rw[<-f.out];exact aD c _
  have p:Below b.heap.size b m:=by rw[<-l.out];exact aD b _
  exact⟨i.below g,o,(b1.trans (g.mono oM)).trans (p.mono oM),r⟩
 have J:Hid ((prog.info? 55).map (·.size)=some (aA a).length):=by show _=_;rw[aK q];exact kN
 obtain⟨d,B,t⟩:=TJ.1 uCP;obtain⟨y,E,A⟩:=TJ.1 u40;have r:Hid ((prog.underlying 55=some d/\d.isRow=true)/\prog.underlying 46=some y/\y.isRow=true):=⟨⟨B,t⟩,E,A⟩
 obtain⟨p,i⟩:=hE (pvl a);obtain⟨x,g⟩:=hE (nv n);obtain⟨F,o⟩:=hE (Um (wn n++aA a).toArray);have z:Hid ((U6 55 p).run prog w=.ok (.pointer (some ⟨w.heap.size,0,none⟩)) c):=by rw[<-i.out];exact H
 rw[g.out]at C;rw[i.out,g.out,o.out]at G;rw[o.out]at D;rw[i.out,g.out];go_enter func75,ntmps75;go_wp2_with (first|(refine aM (u:=p) (v:=.pointer (some ⟨w.heap.size,0,none⟩)) (w':=c) rfl 55 (.tmp 0) rfl ?_ ?_ ?_;rfl;exact z.out)|(refine aM (u:=x) (v:=.pointer (some ⟨w.heap.size+1,0,none⟩)) (w':=b) rfl 46 (.tmp 1) rfl ?_ ?_ ?_;rfl;exact C.out)|(refine UL rfl 46 _ rfl (w.heap.size+1) 0 ?_ (wn n) y ?_ ?_ ?_ ?_ ?_;rfl;exact K.2.1.2.1;exact r.2.1;exact r.2.2;exact i40;rw[show Um (wn n).toArray=x from g.out])|(refine UL rfl 55 _ rfl w.heap.size 0 ?_ (aA a) d ?_ ?_ ?_ ?_ ?_;rfl;exact K.1.2.1;exact r.1.1;exact r.1.2;exact J.out;rw[show Um (aA a).toArray=p from i.out])|(refine uO (v:=F) (w':=b) rfl 100 _ rfl #[(0,x),(1,p)] ?_ ?_ ?_;kernel_rfl;exact G.out)|(refine oZ (v:=.slice (some ⟨w.heap.size+2,0,none⟩) 1 1) (w':=m) rfl 50 1 _ rfl #[(0,F)] ?_ ?_ ?_;kernel_rfl;exact D.out))
 go_ret;exact⟨_,rfl,K.2.2.1,w.heap.size+2,rfl,oM,K.2.2.2⟩
end
section
open Go.RowKit Go.Sort Go.Deep
variable {P:Nat}[NeZero P]{N:Nat}
theorem Tq{a:Bs}(k:a.size=33)(n:Nat)(w:TA):(U6 100 (.agg (wn n++aA a).toArray)).run prog w=.ok (.pointer (some ⟨w.heap.size,0,none⟩)) (w.alloc (.cells (wn n++aA a).toArray 100)):=by
 rw[nN k];kernel_rfl
theorem Tr(w:TA):(YP 46 #[]).run prog w=.ok (nv 0) w:=kR
def tvl(n:Nat)(a:Bs):TC:=.agg (wn n++aA a).toArray
theorem kD{W:TA}{k:Nat}{xs ys:List TC}(h:W.rangeAt k 0 (xs++ys)):W.rangeAt k 0 xs:=λj v b=>h j v (by rw[List.getElem?_append_left (List.getElem?_eq_some_iff.1 b).1];exact b)
theorem lS{W:TA}{k:Nat}{xs ys:List TC}(h:W.rangeAt k 0 (xs++ys)):W.rangeAt k xs.length ys:=λj v b=>by
 have:=h (xs.length+j) v (by rw[List.getElem?_append_right (Nat.le_add_right _ _),WM];exact b);rwa[TO]at this
theorem IX{n:Nat}(r:n<top){a:Bs}(x:a.size=33):Gives 83 #[tvl n a] (.bool (decide (n=0))):=by
 intro w;have g:=Hid.mk' (Tq x n w);obtain⟨k,e⟩:=hE (w.alloc (.cells (wn n++aA a).toArray 100));rw[e.out]at g;have K:Hid (Row k w.heap.size (wn n++aA a)/\Below w.heap.size w k):=by rw[<-e.out];exact⟨aE w _ _,aD w _⟩
 obtain⟨t,l,j⟩:=TJ.1 u40;have q:=mk2 l j;obtain⟨p,d⟩:=hE (tvl n a);obtain⟨o,b⟩:=hE (nv n);obtain⟨v0,c⟩:=hE (nv 0);have i:Hid ((U6 100 p).run prog w=.ok (.pointer (some ⟨w.heap.size,0,none⟩)) k):=by rw[<-d.out];exact g
 have y:Hid ((YP 46 #[]).run prog k=.ok v0 k):=by rw[<-c.out];exact Tr k
 have f:=Hid.mk' (eqS r (show 0<top by unfold top;omega) k);rw[b.out,c.out]at f;have s:=f.out;obtain⟨z,m⟩:=hE (decide (n=0));rw[m.out]at s;have A:(eqGuard .eql 46 (.tmp 4) (.tmp 5) o v0).run prog k=.ok () k:=by rw[<-b.out,<-c.out];kernel_rfl
 rw[d.out,m.out];clear g f;go_enter func83,ntmps83;go_wp2_with (first|(refine aM (u:=p) (v:=.pointer (some ⟨w.heap.size,0,none⟩)) (w':=k) rfl 100 (.tmp 0) rfl ?_ ?_ ?_;rfl;exact i.out)|(refine UL rfl 46 _ rfl w.heap.size 0 ?_ (wn n) t ?_ ?_ ?_ ?_ ?_;rfl;exact kD K.1.2.1;exact q.1;exact q.2;exact i40;rw[show Um (wn n).toArray=o from b.out])|(refine uO (v:=v0) (w':=k) rfl 46 _ rfl #[] ?_ ?_ ?_;kernel_rfl;exact y.out))
 go_wp2;go_ret;exact⟨_,rfl,K.2,rfl⟩
end
end Go.Proofs.YtjnchldodncnbaaGreat
