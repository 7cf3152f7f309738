import Derived.Deep.RegionHeld3
import Derived.Lib.LazyBuf
import Derived.RangeFuncNested
import Derived.RangeFuncBound
import Derived.RangeFuncCalls
import Derived.RangeFuncLeaves
import Derived.Shelf.Abstract
import Derived.Shelf.RegionOpen
import Derived.WalkKit
import Derived.OwnWalkIn
import Derived.TacticsInMore
import Derived.LoopNIn
import Derived.LoopIn
import Derived.LoopN
import Derived.Deep.RegionWith
import Derived.Deep.LoopGhost
import Derived.Deep.CutRange
import Derived.Test.YtgbjainaafdpgaaGreatBt3
set_option linter.unusedVariables false
set_option linter.unusedSimpArgs false
set_option maxRecDepth 1000000
set_option maxHeartbeats 4000000
namespace Go.Proofs.YtgbjainaafdpgaaGreat
open Go.Proofs.Tryz (prog)
section
open Go.RowKit Go.Sort Go.Deep
variable {P:Nat}[NeZero P]{N:Nat}
theorem cell_below{w w1:World}{k j:Nat}{v:Value}(h:w.cell? ⟨k,j,none⟩=some v)(hb:Below w.heap.size w w1)(hk:k<w.heap.size):w1.cell? ⟨k,j,none⟩=some v:=by
 have h1:w.rangeAt k j [v]:=fun i u hu=>by
  cases i with
  | zero =>
   obtain rfl:v=u:=Option.some.inj hu;exact h
  | succ i=>exact absurd hu (by simp)
 exact RG.aO h1 hb hk 0 v rfl
theorem ArgsPts.below{w w1:World}{q:Option Addr}{n:Nat}{L:Nat->Bs}(h:ArgsPts w q n L)(hb:Below w.heap.size w w1):ArgsPts w1 q n L:=fun hn=>by
 obtain⟨gg,hq,hlt,hc⟩:=h hn;refine⟨gg,hq,Nat.lt_of_lt_of_le hlt hb.size,fun j hj=>?_⟩;obtain⟨v,hv,ha⟩:=hc j hj;exact⟨v,cell_below hv hb hlt,ha.below hb⟩
theorem ArgsScs.below{w w1:World}{q:Option Addr}{n:Nat}{L:Nat->Bs}(h:ArgsScs w q n L)(hb:Below w.heap.size w w1):ArgsScs w1 q n L:=fun hn=>by
 obtain⟨gg,hq,hlt,hc⟩:=h hn;refine⟨gg,hq,Nat.lt_of_lt_of_le hlt hb.size,fun j hj=>?_⟩;obtain⟨v,hv,ha⟩:=hc j hj;exact⟨v,cell_below hv hb hlt,ha.below hb⟩
def SumR(P:Nat)[NeZero P](N:Nat)(w:World)(n a:Nat)(L M:Nat->Bs)(e:Value)(w':World):Prop:=
 (n≠a/\Ar 2 e)\/(n=a/\512<n/\Ar 1 e)\/(n=a/\n<=512/\(((∃j,j<n/\rq N (L j)=none)/\Ar 3 e) \/
  ∃ns:Nat->Nat,(∀j,j<n->rq N (L j)=some (ns j))/\(((∃j,j<n/\rd P (M j)=none)/\Ar 4 e) \/
   ∃xs ys:Nat->Fin P,(∀j,j<n->rd P (M j)=some (xs j,ys j))/\Aq w (oO (ptP (eJ ns xs ys n 257)).1 (ptP (eJ ns xs ys n 257)).2) e w')))
theorem sX{A:Type}[Inhabited A]{n:Nat}{p:Nat->A->Prop}(h:∀j,j<n->∃a,p j a):∃f:Nat->A,∀j,j<n->p j (f j):=
 ⟨fun j=>if hj:j<n then(h j hj).choose else default,fun j hj=>by
  show p j (if hj:j<n then(h j hj).choose else default);rw[dif_pos hj];exact(h j hj).choose_spec⟩
theorem AO{N:Nat}(hN:N<=top){bs:Bs}{m:Nat}(h:rq N bs=some m):m<top:=by
 unfold rq at h;split at h
 ·rename_i h1
  obtain rfl:beV bs.toList=m:=Option.some.inj h;exact Nat.lt_of_lt_of_le h1.2 hN
 ·exact absurd h (by simp)
theorem F9{N:Nat}(C:Fld P)(hG:Gap 4624529908474429119 4994812053365940164 1 N)(hN:N<=top)(q q':Option Addr)(n cap a cap':Nat)(L M:Nat->Bs)(w:World)(hL:ArgsScs w q n L)(hM:ArgsPts w q' a M):
 Calls prog 16 #[.slice q n cap,.slice q' a cap'] w (Ret fun e w'=>Below w.heap.size w w'/\SumR P N w n a L M e w'):=by
 have HL:Hid (ArgsScs w q n L):=hL;have HM:Hid (ArgsPts w q' a M):=hM;clear hL hM;by_cases hna:n=a
 ·subst hna;by_cases h512:512<n
  ·go_enter Tryz.func16,Tryz.ntmps16;go_wp2
   go_ret2
   exact⟨_,rfl,RowKit.Below.refl _ _,Or.inr (Or.inl ⟨rfl,h512,rfl⟩)⟩
  ·have H5:n<=512:=by omega
   go_enter Tryz.func16,Tryz.ntmps16;go_wp2_with fail
   refine(NK hG n cap H5 q L w HL.out).mono ?_;rintro e w1 ⟨v,rfl,hb1,⟨k,hk1,hk2,rfl,hrow⟩|⟨hno,rfl⟩⟩
   ·obtain⟨ns,hns⟩:=sX hrow;have HB:Hid (Below w.heap.size w w1):=hb1;have HS:Hid (k<w1.heap.size/\∀j,j<n->w1.rangeAt k (4*j) (wn (ns j))):=⟨hk2,fun j hj=>(hns j hj).2⟩
    have HN:Hid (∀j,j<n->rq N (L j)=some (ns j)):=fun j hj=>(hns j hj).1
    clear hrow hns hk1 hk2 hb1;go_wp2_with fail
    refine(NL C n cap' H5 q' M w1 (HM.out.below HB.out)).mono ?_;rintro e w2 ⟨v,rfl,hb2,⟨k',hk1,hk2,rfl,hrow⟩|⟨hno,rfl⟩⟩
    ·obtain⟨ps,hps⟩:=sX hrow;have HB2:Hid (Below w.heap.size w w2):=HB.out.trans (hb2.mono HB.out.size);have HS2:Hid (k<w2.heap.size/\∀j,j<n->w2.rangeAt k (4*j) (wn (ns j))):=⟨Nat.lt_of_lt_of_le HS.out.1 hb2.size,fun j hj=>RG.aO (HS.out.2 j hj) hb2 HS.out.1⟩
     have HP:Hid (k'<w2.heap.size/\∀j,j<n->w2.rangeAt k' (8*j) (ws (ps j).1++ws (ps j).2)):=⟨hk2,fun j hj=>(hps j hj).2⟩
     have HM2:Hid (∀j,j<n->rd P (M j)=some ((ps j).1,(ps j).2)):=fun j hj=>(hps j hj).1
     clear hrow hps hk1 hk2 hb2;have hBt:∀w,Calls prog 18 #[pv (ptP (eJ ns (fun j=>(ps j).1) (fun j=>(ps j).2) n 257)).1 (ptP (eJ ns (fun j=>(ps j).1) (fun j=>(ps j).2) n 257)).2] w (Ret fun e w'=>Below w.heap.size w w'/\lI w (oO (ptP (eJ ns (fun j=>(ps j).1) (fun j=>(ps j).2) n 257)).1 (ptP (eJ ns (fun j=>(ps j).1) (fun j=>(ps j).2) n 257)).2) e w'):=xG C _ _;have hS:Calls prog 43 #[.slice (some ⟨k,0,none⟩) n n,.slice (some ⟨k',0,none⟩) n n] w2 (Ret fun e w'=>Below w2.heap.size w2 w'/\e=pv (ptP (eJ ns (fun j=>(ps j).1) (fun j=>(ps j).2) n 257)).1 (ptP (eJ ns (fun j=>(ps j).1) (fun j=>(ps j).2) n 257)).2):=by
      refine(KJ C n H5 ns (fun j=>(ps j).1) (fun j=>(ps j).2) (fun i hi=>AO hN (HN.out i hi)) k k' w2 HS2.out.1 HP.out.1 HS2.out.2 HP.out.2).mono ?_;rintro e w' ⟨v,rfl,hb,s,rfl,rfl⟩;exact⟨_,rfl,hb,rfl⟩
     generalize hz:ptP (eJ ns (fun j=>(ps j).1) (fun j=>(ps j).2) n 257)=z at hS hBt;have HZ:Hid (ptP (eJ ns (fun j=>(ps j).1) (fun j=>(ps j).2) n 257)=z):=hz;clear hz;generalize pv z.1 z.2=v4 at hS hBt;go_wp2_with fail
     refine hS.mono ?_;rintro e w3 ⟨v,rfl,hb3,rfl⟩;have HB3:Hid (Below w.heap.size w w3):=HB2.out.trans (hb3.mono HB2.out.size);clear hb3;go_wp2_with fail
     refine(hBt _).mono ?_;rintro e w4 ⟨v,rfl,hb4,g,cap3,rfl,hc3,hg3,hlt3,hH3⟩;have HB4:Hid (Below w.heap.size w w4):=HB3.out.trans (hb4.mono HB3.out.size);have HO:Hid (Aq w (oO z.1 z.2) (.tuple #[.slice (some ⟨g,0,none⟩) 33 cap3,.int .i64 0]) w4):=⟨g,cap3,rfl,hc3,Nat.le_trans HB3.out.size hg3,hlt3,hH3⟩
     clear hb4 hH3;go_wp2
     go_ret2
     refine⟨_,rfl,HB4.out,Or.inr (Or.inr ⟨rfl,H5,Or.inr ⟨ns,HN.out,Or.inr ⟨_,_,HM2.out,?_⟩⟩⟩)⟩;rw[HZ.out];exact HO.out
    ·have HB2:Hid (Below w.heap.size w w2):=HB.out.trans (hb2.mono HB.out.size);have HO:Hid (∃j,j<n/\rd P (M j)=none):=hno;clear hb2 hno;go_wp2
     go_ret2
     exact⟨_,rfl,HB2.out,Or.inr (Or.inr ⟨rfl,H5,Or.inr ⟨ns,HN.out,Or.inl ⟨HO.out,rfl⟩⟩⟩)⟩
   ·have HB:Hid (Below w.heap.size w w1):=hb1;have HO:Hid (∃j,j<n/\rq N (L j)=none):=hno;clear hb1 hno;go_wp2
    go_ret2
    exact⟨_,rfl,HB.out,Or.inr (Or.inr ⟨rfl,H5,Or.inl ⟨HO.out,rfl⟩⟩)⟩
 ·go_enter Tryz.func16,Tryz.ntmps16;go_wp2
  go_ret2
  exact⟨_,rfl,RowKit.Below.refl _ _,Or.inl ⟨hna,rfl⟩⟩
theorem I6{w:World}{v:Value}{bs:Bs}(T:TypeId)(h:Arg w v bs):ArgsScs (w.alloc (.cells #[v] T)) (some ⟨w.heap.size,0,none⟩) 1 (fun _=>bs):=fun _ =>
 ⟨w.heap.size,rfl,by rw[World.size_alloc];omega,fun j hj=>by
  obtain rfl:j=0:=by omega
  exact⟨v,by rw[World.cell?_alloc_new];rfl,h.below (aE w _)⟩⟩
theorem Jg(ns:Nat->Nat)(xs ys:Nat->Fin P)(st:T3 P)(p:Nat):inn ns xs ys st p 1=inn (fun _=>ns 0) (fun _=>xs 0) (fun _=>ys 0) st p 1:=rfl
theorem xX(ns:Nat->Nat)(xs ys:Nat->Fin P):∀m,eJ ns xs ys 1 m=eJ (fun _=>ns 0) (fun _=>xs 0) (fun _=>ys 0) 1 m
 | 0=>rfl
 | m+1=>by
  unfold eJ;rw[xX ns xs ys m,Jg]
def TimesR(P:Nat)[NeZero P](N:Nat)(w:World)(az bs:Bs)(e:Value)(w':World):Prop:=match rq N az,rd P bs with
 | none,_=>Ar 3 e
 | some _,none=>Ar 4 e
 | some n,some p=>Aq w (oO (ptP (eJ (fun _=>n) (fun _=>p.1) (fun _=>p.2) 1 257)).1 (ptP (eJ (fun _=>n) (fun _=>p.1) (fun _=>p.2) 1 257)).2) e w'
theorem F8{N:Nat}(C:Fld P)(hG:Gap 4624529908474429119 4994812053365940164 1 N)(hN:N<=top)(v u:Value)(az bs:Bs)(w:World)(hv:Arg w v az)(hu:Arg33 w u bs):
 Calls prog 6 #[v,u] w (Ret fun e w'=>Below w.heap.size w w'/\TimesR P N w az bs e w'):=by
 have HV:Hid (Arg w v az/\Arg33 w u bs):=⟨hv,hu⟩
 obtain⟨q,n,cap,rfl,-⟩:=hv;obtain⟨q',n',cap',rfl,-⟩:=hu;have HA:Hid (ArgsScs ((w.alloc (.cells #[.slice q n cap] 22)).alloc (.cells #[.slice q' n' cap'] 22)) (some ⟨w.heap.size,0,none⟩) 1 (fun _=>az)):=(I6 _ HV.out.1).below (aE _ _);have HA':Hid (ArgsPts ((w.alloc (.cells #[.slice q n cap] 22)).alloc (.cells #[.slice q' n' cap'] 22)) (some ⟨w.heap.size+1,0,none⟩) 1 (fun _=>bs)):=by
  have h:=FC 22 (HV.out.2.below (aE w (.cells #[.slice q n cap] 22)));rw[World.size_alloc]at h;exact h
 have HW:Hid (Below w.heap.size w ((w.alloc (.cells #[.slice q n cap] 22)).alloc (.cells #[.slice q' n' cap'] 22))):=(aE w _).trans ((aE _ _).mono (by simp));go_enter Tryz.func6,Tryz.ntmps6;go_wp2_with fail
 refine(F9 C hG hN _ _ 1 1 1 1 (fun _=>az) (fun _=>bs) _ HA.out HA'.out).mono ?_;have hone:∀m (ns:Nat->Nat) (xs ys:Nat->Fin P) W k z,m=257->Holds encB W k 0 (oO (ptP (eJ ns xs ys 1 m)).1 (ptP (eJ ns xs ys 1 m)).2)->z=eJ (fun _=>ns 0) (fun _=>xs 0) (fun _=>ys 0) 1 m->Holds encB W k 0 (oO (ptP z).1 (ptP z).2):=by
  intro m ns xs ys W k z _ h hz;rw[xX ns xs ys m]at h;rw[hz];exact h
 rintro e w1 ⟨v,rfl,hb1,hs⟩;have HB:Hid (Below w.heap.size w w1):=HW.out.trans (hb1.mono HW.out.size);have HT:Hid (TimesR P N w az bs v w1):=by
  unfold TimesR;rcases hs with⟨h,-⟩|⟨-,h,-⟩|⟨-,-,⟨⟨j,-,h⟩,ho⟩|⟨ns,hns,⟨⟨j,-,h⟩,ho⟩|⟨xs,ys,hp,g,cp,ho,hc,hg1,hg2,hH⟩⟩⟩
  ·exact absurd rfl h
  ·omega
  ·rw[show rq N az=none from h];exact ho
  ·rw[show rq N az=some (ns 0) from hns 0 (by decide),show rd P bs=none from h];exact ho
  ·rw[show rq N az=some (ns 0) from hns 0 (by decide),show rd P bs=some (xs 0,ys 0) from hp 0 (by decide)];refine⟨g,cp,ho,hc,?_,hg2,?_⟩
   ·exact Nat.le_trans HW.out.size hg1
   ·exact hone 257 ns xs ys _ _ _ rfl hH rfl
 clear hb1 hs;have hv2:∃a b,v=.tuple #[a,b]:=by
  have:=HT.out;unfold TimesR at this;split at this
  ·exact⟨_,_,this⟩
  ·exact⟨_,_,this⟩
  ·obtain⟨g,cp,ho,-⟩:=this;exact⟨_,_,ho⟩
 obtain⟨a,b,rfl⟩:=hv2;go_wp2
 go_ret2
 exact⟨_,rfl,HB.out,HT.out⟩
def Av:Bs:=Array.replicate 33 0
theorem KQ(r d:Nat):d*d%(r+d)=r*r%(r+d):=by
 have h:d*d+(r+d)*r=r*r+(r+d)*d:=by
  rw[Nat.add_mul,Nat.add_mul,Nat.mul_comm d r];omega
 have h1:=congrArg (· % (r+d)) h;simp only[Nat.add_mul_mod_self_left]at h1;exact h1
theorem Co{m y:Fin P}(h:rt m=some y):y*y=m:=by
 have h0:=E0 h;unfold rt at h;rw[if_pos h0]at h;obtain rfl:=Option.some.inj h;have hP:=Nat.pos_of_neZero P;have hr:m.val^(P/4+1)%P<P:=Nat.mod_lt _ hP;generalize m.val^(P/4+1)%P=r at h0 hr;apply Fin.ext;rw[Fin.val_mul];show(even P r%P)*(even P r%P)%P=m.val;rw[Nat.mod_eq_of_lt (CW hP hr),<-h0];unfold even;split
 ·have h2:=KQ r (P-r);rw[show r+(P-r)=P by omega]at h2;exact h2
 ·rfl
theorem rB{bs:Bs}(hs:bs.size=33):m5 bs↔bs=Av:=by
 constructor
 ·intro h;apply Array.ext
  ·rw[hs];rfl
  ·intro i h1 h2;have:=h i (List.mem_range.2 (by omega));rw[getElem!_pos bs i h1]at this;have h3:bs[i].toNat=0:=by
    have h4:ub bs[i]=(bs[i].toNat:Int):=rfl;rw[h4]at this;omega
   have h5:(Av)[i]=0:=by
    have h6:(Array.replicate 33 (0:UInt8))[i]'h2=0:=Array.getElem_replicate _;exact h6
   rw[h5];exact UInt8.toNat_inj.1 h3
 ·rintro rfl i hi;have hi:=List.mem_range.1 hi;unfold Av;rw[getElem!_pos _ i (by rw[Array.size_replicate];exact hi),Array.getElem_replicate];rfl
theorem CB{x y:Fin P}(h:y*y=x*x*x+7):EC.On (.some (x,y):EC.Pt P):=by
 show y^2=x^3+7
 grobner
theorem Lq{x y:Fin P}(h:y*y=x*x*x+7):EC.On (.some (x,0-y):EC.Pt P):=by
 show(0-y)^2=x^3+7
 grobner
def wr:EC.Pt P->Bs
 | none=>Av
 | some (x,y)=>#[mark y.val]++bx x.val
theorem qX(C:Fld P){x y:Fin P}{p:EC.Pt P}(h:EC.Pair x y p)(ho:EC.On p):oO x y=wr p:=by
 unfold oO;match p,h,ho with
 | none,h,_=>rw[if_pos (show x=0/\y=0 from h)];rfl
 | some (a,b),h,ho =>
  obtain⟨rfl,rfl⟩:=h;rw[if_neg (fun e=>C.cur.y_ne ho e.2)];rfl
def pt(p:Fin P × Fin P):EC.Pt P:=if p.1=0/\p.2=0 then none else some p
theorem IW(C:Fld P){x y:Fin P}{q:EC.Pt P}(h:EC.Pair x y q)(ho:EC.On q):q=pt (x,y):=by
 unfold pt;match q,h,ho with
 | none,h,_=>rw[if_pos (show x=0/\y=0 from h)]
 | some (a,b),h,ho =>
  obtain⟨rfl,rfl⟩:=h;rw[if_neg (fun e=>C.cur.y_ne ho e.2)]
theorem uL(C:Fld P){bs:Bs}{p:Fin P × Fin P}(h:rd P bs=some p):EC.Pair p.1 p.2 (pt p)/\EC.On (pt p):=by
 have key:∃q:EC.Pt P,EC.Pair p.1 p.2 q/\EC.On q:=by
  unfold rd at h;split at h
  ·split at h
   ·obtain rfl:=Option.some.inj h;exact⟨none,⟨rfl,rfl⟩,EC.eX⟩
   ·split at h
    ·split at h
     ·obtain⟨y,hr,rfl⟩:=Option.map_eq_some_iff.1 h;have hsq:=Co hr;refine⟨some (rdx P bs,if ub bs[0]! = 3 then 0-y else y),⟨rfl,rfl⟩,?_⟩;split
      ·exact Lq hsq
      ·exact CB hsq
     ·cases h
    ·cases h
  ·cases h
 obtain⟨q,h1,h2⟩:=key;have:=IW C h1 h2;rw[show pt p=q from this.symm];exact⟨h1,h2⟩
def B5(P:Nat)[NeZero P](N:Nat)(w:World)(az bs:Bs)(e:Value)(w':World):Prop:=match rq N az,rd P bs with
 | none,_=>Ar 3 e
 | some _,none=>Ar 4 e
 | some n,some p=>Aq w (wr (EC.mul n (pt p))) e w'
theorem TimesR.q(C:Fld P){N:Nat}(hN:N<=top){w w':World}{az bs:Bs}{e:Value}(h:TimesR P N w az bs e w'):B5 P N w az bs e w':=by
 unfold TimesR at h;unfold B5;cases h1:rq N az with
 | none=>rw[h1]at h;exact h
 | some n =>
  cases h2:rd P bs with
  | none=>rw[h1,h2]at h;exact h
  | some p =>
   rw[h1,h2]at h;have hp:=uL C h2;have hJ:=xY C (N:=1) (ns:=fun _=>n) (xs:=fun _=>p.1) (ys:=fun _=>p.2) (p:=fun _=>pt p) (fun _ _=>AO hN h1) (fun _ _=>hp.1) (fun _ _=>hp.2);have e1:=qX C (hJ.pair C) hJ.2;have e2:EC.tot (fun _=>pt p) 1 (fun _=>(n:Int))=EC.mul n (pt p):=by
    rfl
   rw[e2]at e1;dsimp only at h⊢;rw[<-e1];exact h
omit [NeZero P] in
theorem aL(p:EC.Pt P):(wr p).size=33:=by
 match p with
 | none=>rfl
 | some (x,y) =>
  show(#[mark y.val]++bx x.val).size=33;rw[Array.size_append,bK];rfl
end
section
variable {P:Nat}[NeZero P]{N:Nat}
theorem E6{a P:Nat}(h:NT.IsP P)(h4:P%4=3):(a*a%P)^(P/4+1)%P*((a*a%P)^(P/4+1)%P)%P=a*a%P:=by
 rw[<-Nat.mul_mod,<-Nat.pow_add,<-Nat.pow_mod,<-Nat.pow_two,<-Nat.pow_mul,show 2*(P/4+1+(P/4+1))=P+1 by omega,Nat.pow_succ,Nat.mul_mod,h.fermat a,<-Nat.mul_mod,Nat.pow_two]
theorem Ix{a R P:Nat}(h:NT.IsP P)(ha:a<P)(hR:R<P)(he:R*R%P=a*a%P):R=a\/R+a=P:=by
 have key:∀x y:Nat,x<P->y<P->y<=x->x*x%P=y*y%P->x=y\/x+y=P:=by
  intro x y hx hy hxy hxe;have hd:P ∣ x*x-y*y:=by
   refine Nat.dvd_of_mod_eq_zero ?_;exact Nat.sub_mod_eq_zero_of_mod_eq hxe
  have hf:x*x-y*y=(x-y)*(x+y):=by
   rw[Nat.mul_comm (x-y),Nat.mul_self_sub_mul_self_eq]
  rw[hf]at hd;rcases h.euclid hd with h1|h1
  ·left;have:=Nat.eq_zero_of_dvd_of_lt h1 (by omega);omega
  ·obtain⟨k,hk⟩:=h1;have:k=0\/k=1\/2<=k:=by omega
   rcases this with rfl|rfl|h2
   ·left;omega
   ·right;omega
   ·have:=Nat.mul_le_mul_left P h2;omega
 rcases Nat.le_total a R with h1|h1
 ·exact key R a hR ha h1 he
 ·rcases key a R ha hR h1 he.symm with h2|h2
  ·left;exact h2.symm
  ·right;omega
end
section
open Go.RowKit Go.Sort Go.Deep
theorem vP(x:Nat)(hx:x<18446744073709551616):
 w8 (UInt8.ofNat (x/72057594037927936)) (UInt8.ofNat (x/281474976710656)) (UInt8.ofNat (x/1099511627776)) (UInt8.ofNat (x/4294967296)) (UInt8.ofNat (x/16777216)) (UInt8.ofNat (x/65536)) (UInt8.ofNat (x/256)) (UInt8.ofNat x)=x:=by
 unfold w8;simp only[UInt8.toNat_ofNat'];omega
theorem Em(a b c d:Nat):(be32 a b c d).toList=[UInt8.ofNat (d/72057594037927936),UInt8.ofNat (d/281474976710656),UInt8.ofNat (d/1099511627776),UInt8.ofNat (d/4294967296),UInt8.ofNat (d/16777216),UInt8.ofNat (d/65536),UInt8.ofNat (d/256),UInt8.ofNat d,UInt8.ofNat (c/72057594037927936),UInt8.ofNat (c/281474976710656),UInt8.ofNat (c/1099511627776),UInt8.ofNat (c/4294967296),UInt8.ofNat (c/16777216),UInt8.ofNat (c/65536),UInt8.ofNat (c/256),UInt8.ofNat c,UInt8.ofNat (b/72057594037927936),UInt8.ofNat (b/281474976710656),UInt8.ofNat (b/1099511627776),UInt8.ofNat (b/4294967296),UInt8.ofNat (b/16777216),UInt8.ofNat (b/65536),UInt8.ofNat (b/256),UInt8.ofNat b,UInt8.ofNat (a/72057594037927936),UInt8.ofNat (a/281474976710656),UInt8.ofNat (a/1099511627776),UInt8.ofNat (a/4294967296),UInt8.ofNat (a/16777216),UInt8.ofNat (a/65536),UInt8.ofNat (a/256),UInt8.ofNat a]:=by
 simp only[be32,be8,Array.toList_append,List.cons_append,List.nil_append]
theorem val_congr{a b c d p q r s:Nat}(h1:a=p)(h2:b=q)(h3:c=r)(h4:d=s):val a b c d=val p q r s:=by subst h1 h2 h3 h4;rfl
theorem GK(a b c d:Nat)(ha:a<18446744073709551616)(hb:b<18446744073709551616)(hc:c<18446744073709551616)(hd:d<18446744073709551616):beV (be32 a b c d).toList=val a b c d:=
 (congrArg beV (Em a b c d)).trans ((GL _ _ _ _ _ _ _ _ _ _ _ _ _ _ _ _ _ _ _ _ _ _ _ _ _ _ _ _ _ _ _ _).trans (val_congr (vP a ha) (vP b hb) (vP c hc) (vP d hd)))
theorem xH{n:Nat}(hn:n<top):beV (bx n).toList=n:=by
 unfold bx;rw[GK _ _ _ _ (by omega) (by omega) (by omega) (by omega)];unfold val;unfold top at hn;omega
variable {P:Nat}[NeZero P]
theorem E1(C:Fld P){y m:Fin P}(h:y*y=m):rt m=some (if y.val%2=1 then 0-y else y):=by
 have hm:y.val*y.val%P=m.val:=by rw[<-h,Fin.val_mul]
 have h1:=E6 (a:=y.val) C.cur.pr C.p3;rw[hm]at h1;unfold rt;rw[if_pos h1];have hP:=Nat.pos_of_neZero P;have hr:m.val^(P/4+1)%P<P:=Nat.mod_lt _ hP;generalize m.val^(P/4+1)%P=r at h1 hr;have hy:=y.isLt;have h3:=C.p3;have hor:=Ix C.cur.pr hy hr (h1.trans hm.symm)
 congr 1
 apply Fin.ext;show even P r%P=_;unfold even;have h0:(0-y:Fin P).val=(P-y.val)%P:=by rw[<-lL,EC.val_zero,Nat.zero_add]
 by_cases ho:y.val%2=1
 ·rw[if_pos ho,h0];rcases hor with e|e
  ·rw[e,if_pos ho]
  ·rw[if_neg (by omega),show P-y.val=r by omega]
 ·rw[if_neg ho];rcases hor with e|e
  ·rw[e,if_neg ho,Nat.mod_eq_of_lt hy]
  ·by_cases hz:y.val=0
   ·omega
   ·rw[if_pos (by omega),show P-r=y.val by omega,Nat.mod_eq_of_lt hy]
theorem Hw(n:Nat):ub (mark n)=if n%2=1 then 3 else 2:=by
 unfold mark;split<;>rfl
theorem H7{m:UInt8}{b:Bs}(h:b.size=32):mC (#[m]++b)=b:=by
 unfold mC;rw[Array.extract_append];have h1:(#[m]:Bs).extract 1 33=#[]:=by rfl
 rw[h1];simp[h]
theorem LA(m:UInt8)(b:Bs):(#[m]++b)[0]! = m:=by
 rw[getElem!_pos _ 0 (by rw[Array.size_append];simp;omega),Array.getElem_append_left (by simp)];rfl
theorem MR(C:Fld P){b:Bs}(hs:b.size=33){x y:Fin P}(hm:ub b[0]! = if y.val%2=1 then 3 else 2)(hv:beV (mC b).toList=x.val)(h:EC.On (some (x,y):EC.Pt P)):rd P b=some (x,y):=by
 have hz:¬m5 b:=fun hz=>by
  have:=hz 0 (List.mem_range.2 (by decide));rw[hm]at this;split at this<;>omega
 have hx:rdx P b=x:=by
  unfold rdx;rw[hv];exact Fin.ext (Nat.mod_eq_of_lt x.isLt)
 have hy:y*y=x*x*x+7:=by
  have:y^2=x^3+7:=h
  grobner
 unfold rd;rw[if_pos hs,if_neg hz,hm,hv,if_pos x.isLt,hx,E1 C hy];by_cases ho:y.val%2=1
 ·rw[if_pos ho,if_pos (Or.inr rfl),if_pos ho,Option.map_some,if_pos rfl];have e:0-(0-y)=y:=by grobner
  rw[e]
 ·rw[if_neg ho,if_pos (Or.inl rfl),if_neg ho,Option.map_some,if_neg (by decide)]
theorem rO(C:Fld P){X:EC.Pt P}(h:EC.On X):∃p,rd P (wr X)=some p/\pt p=X:=by
 match X,h with
 | none,_ =>
  refine⟨(0,0),?_,by unfold pt;rw[if_pos ⟨rfl,rfl⟩]⟩;have h1:(wr (none:EC.Pt P)).size=33:=aL _;have h2:m5 (wr (none:EC.Pt P)):=(rB h1).2 rfl;generalize wr (none:EC.Pt P)=b at h1 h2;unfold rd;rw[if_pos h1,if_pos h2]
 | some (x,y),h =>
  have hs:=aL (P:=P) (some (x,y));have hb0:(wr (some (x,y):EC.Pt P))[0]! = mark y.val:=LA _ _;have ht:mC (wr (some (x,y):EC.Pt P))=bx x.val:=H7 (bK _);refine⟨(x,y),MR C hs (by rw[hb0,Hw]) (by rw[ht,xH (C.top x)]) h,by unfold pt;rw[if_neg (fun e=>C.cur.y_ne h e.2)]⟩
end
section
open Go.RowKit Go.Sort Go.Deep
variable {P:Nat}[NeZero P]{N:Nat}
def gxl:List Value:=[.int .u64 6481385041966929816,.int .u64 188021827762530521,.int .u64 6170039885052185351,.int .u64 8772561819708210092]
def gyl:List Value:=[.int .u64 11261198710074299576,.int .u64 18237243440184513561,.int .u64 6747795201694173352,.int .u64 5204712524664259685]
def gX(P:Nat)[NeZero P]:Fin P:=Fin.ofNat P 55066263022277343669578718895168534326250603453777594175500187360389116729240
def gY(P:Nat)[NeZero P]:Fin P:=Fin.ofNat P 32670510020758816978083085130507043184471273380659243275938904335757337482424
def gG(P:Nat)[NeZero P]:EC.Pt P:=some (gX P,gY P)
theorem Fld.eq(C:Fld P):P=115792089237316195423570985008687907853269984665640564039457584007908834671663:=by
 have h:=C.gap.hP;have e:val 4294968273 0 0 0=4294968273:=by decide
 rw[e]at h;unfold Go.Proofs.YtgbjainaafdpgaaGreat.top at h;omega
theorem Bp(C:Fld P):(gX P).val=55066263022277343669578718895168534326250603453777594175500187360389116729240:=by
 have h:=C.eq;exact Nat.mod_eq_of_lt (by omega)
theorem Bn(C:Fld P):(gY P).val=32670510020758816978083085130507043184471273380659243275938904335757337482424:=by
 have h:=C.eq;exact Nat.mod_eq_of_lt (by omega)
theorem LN(C:Fld P):gxl=ws (gX P):=by
 show _=wn (gX P).val;rw[Bp C];kernel_rfl
theorem LM(C:Fld P):gyl=ws (gY P):=by
 show _=wn (gY P).val;rw[Bn C];kernel_rfl
theorem jJ(C:Fld P):EC.On (gG P):=by
 refine CB (Fin.ext ?_);have h7:(7:Fin P).val=7:=Nat.mod_eq_of_lt C.p7;rw[Fin.val_mul,Fin.val_add,Fin.val_mul,Fin.val_mul,Bp C,Bn C,h7];have h:=C.eq;rw[h]
theorem Md:Gives 17 #[] (.agg (gxl++gyl).toArray):=by
 intro w;go_enter Tryz.func17,Tryz.ntmps17;refine RG.M.enter [] 4 (by kernel_rfl) ?_;intro a0 M0;repeat refine wp_seq ?_
 refine M0.t [.m 0 [] 0] [(0,RG.z 8)] [] [RG.z 8] [(0,.p 0 0)] ⟨RG.mk 0 51,trivial⟩ ?_;intro j1 a1 w1 M1;repeat refine wp_seq ?_
 refine M1.t [.x 1 [] (.agg gxl.toArray),.x 2 [] (.agg gyl.toArray),.x 3 [(1,0),(2,1)] (.agg (gxl++gyl).toArray),.u [(3,2)] 0] [] [(0,3,gxl++gyl)] [gxl++gyl] [(0,.p 0 0)] ⟨RG.st,RG.st,RG.st,RG.pt i109,trivial⟩ ?_;intro a2 w2 M2;refine wp_ret ?_;refine bodyPost_ret (v:=.agg (gxl++gyl).toArray) (RG.aD M2.st 0 51 rfl 0 _ rfl (M2.at (s:=.p 0 0)) fD i109) M2.sl.defers ?_;exact⟨_,rfl,M2.st.bel.below,rfl⟩
theorem GM(C:Fld P):Gives 17 #[] (pv (gX P) (gY P)):=by
 unfold pv;rw[<-LN C,<-LM C];exact Md
theorem Nq(C:Fld P):oO (gX P) (gY P)=wr (gG P):=qX C ⟨rfl,rfl⟩ (jJ C)
theorem Ha(C:Fld P)(w:World):Calls prog 7 #[] w (Ret fun e w'=>Below w.heap.size w w'/\lI w (wr (gG P)) e w'):=by
 have HC:Hid (Fld P):=C;clear C;go_enter Tryz.func7,Tryz.ntmps7;go_wp2_with fail
 refine(GM HC.out _).mono ?_;rintro e w1 ⟨v,rfl,hb1,rfl⟩;go_wp2_with fail
 refine(xG HC.out (gX P) (gY P) _).mono ?_;rintro e w2 ⟨v,rfl,hb2,g,cap,rfl,h1,h2,h3,h4⟩;rw[Nq HC.out]at h4;have HB:Hid (Below w.heap.size w w2/\lI w (wr (gG P)) (.slice (some ⟨g,0,none⟩) 33 cap) w2):=⟨hb1.trans (hb2.mono hb1.size),g,cap,rfl,h1,Nat.le_trans hb1.size h2,h3,h4⟩
 clear hb1 hb2 h1 h2 h3 h4;go_wp2;go_ret;exact⟨_,rfl,HB.out⟩
end
section
open Go.RowKit Go.Sort Go.Deep Go.Shelf
attribute [local go_sem] Oper.semAt_some
section
variable {F:Fence}{n:Nat}{P:Program}{ops:Array Oper}{rest:List Oper}{op:Oper}{a:Act}{w:World}{Q:Exit->Act->World->Prop}
theorem iF(hgd:op.guard=none)(ty:TypeId)(x:Operand)(ho:op.op=.load ty x)(b o:Nat)(hx:a.eval x=.pointer (some ⟨b,o,none⟩))(cs:List Value)(d:TypeDesc)(hc:w.rangeAt b o cs)
 (hu:P.underlying ty=some d) (hd:d.isRow=true) (hi:(P.info? ty).map (·.size)=some cs.length) (h:wpListIn F n P ops Q rest (a.put op.dst (.agg cs.toArray)) w):wpListIn F n P ops Q (op :: rest) a w:=
 wpListIn_plain hgd fun K hK=>by
  refine⟨fun f hf=>(by unfold Oper.about at hf;rw[ho]at hf;cases hf),?_⟩;rw[Oper.semAt_eq _ _ _ (fun c=>by rw[ho];intro e;cases e)];unfold execOp;simp only[ho,hx,Instr.loadAt,Instr.sureAddr,Sem.run_bind,Sem.run_pure,Result.andThen_ok,run_loadVar_mid w b o ty cs d hc hu hd hi];exact hK _ _ h
theorem bL(hgd:op.guard=none)(ty:TypeId)(x y:Operand)(ho:op.op=.store ty x y)(b o:Nat)(cells:Array Value)(hx:a.eval x=.pointer (some ⟨b,o,none⟩))(hy:a.eval y=.agg cells)
 (ht:w.there b o cells.size) (hi:(P.info? ty).map (·.size)=some cells.size) (h1:cells.all (·.oneCell')=true)
 (h:wpListIn F n P ops Q rest (a.put op.dst undef) (w.setCells b o cells.toList)):wpListIn F n P ops Q (op :: rest) a w:=
 wpListIn_plain hgd fun K hK=>by
  refine⟨fun f hf=>(by unfold Oper.about at hf;rw[ho]at hf;cases hf),?_⟩;rw[Oper.semAt_eq _ _ _ (fun c=>by rw[ho];intro e;cases e)];unfold execOp;simp only[ho,hx,hy,Instr.storeAt,Instr.sureAddr,Sem.run_bind,Sem.run_pure,Result.andThen_ok,run_storeVar_mid w b o ty cells ht hi h1];exact hK _ _ h
end
def Row(W:World)(k:Nat)(vs:List Value):Prop:=k<W.heap.size/\W.rangeAt k 0 vs/\W.there k 0 vs.length
theorem nM(k:Nat)(vs:List Value):Own (fun(_:Unit) W=>Row W k vs):=fun s A B row hs hg hr=>by
 refine⟨Nat.lt_of_lt_of_le hs.1 hg.size,fun j v hj=>?_,fun j hj=>?_⟩
 ·exact cell_kept (hs.2.1 j v hj) hg hr
 ·have h1:=hs.2.1 j vs[j] (List.getElem?_eq_getElem hj);have h2:=cell_kept h1 hg hr;exact⟨by rw[h2];rfl,(frozen_kept h1 hg hr).trans (hs.2.2 j hj).2⟩
theorem kZ(k:Nat):∀(vs:List Value) (o:Nat) (W:World),KeepsOthers W (W.setCells k o vs)
 | [],_,W=>KeepsOthers.refl W
 | v :: vs,o,W=>(KeepsOthers.setCell W ⟨k,o,none⟩ v).trans (kZ k vs (o+1) _)
theorem Row.alloc{W:World}{k:Nat}{vs:List Value}(h:Row W k vs)(o:Obj):Row (W.alloc o) k vs:=
 nM k vs () W (W.alloc o) none h (World.grownBy_alloc W o none) (fun _ e=>by cases e)
theorem Row.putObj{W:World}{k D:Nat}{vs:List Value}(h:Row W k vs){o:Obj}(hD:W.heap[D]? = some o)(ho:o.isCells=false)(o':Obj):Row (W.putObj D o') k vs:=
 nM k vs () W (W.putObj D o') (some D) h (grownBy_putObj' W D o') (fun r e=>by cases e;exact⟨_,hD,ho⟩)
theorem Row.below{W W':World}{k:Nat}{vs:List Value}(h:Row W k vs)(hb:Below W.heap.size W W'):Row W' k vs:=by
 have e:=hb.block k h.1;refine⟨Nat.lt_of_lt_of_le h.1 hb.size,fun j v hj=>?_,fun j hj=>?_⟩
 ·exact(World.cell?_of_block e).trans (h.2.1 j v hj)
 ·have h1:=h.2.2 j hj;exact⟨by rw[World.cell?_of_block e];exact h1.1,(World.frozen?_of_block e).trans h1.2⟩
theorem aY{P:Program}{fn:Func}{tmps:Array Value}{W:World}{k:Nat}{vs:List Value}(t:Tmp)(T:TypeId)(hr:fn.results=#[.cell t T])(h:Row W k vs)(ht:tmps[t]? = some (.pointer (some ⟨k,0,none⟩)))
 (hu:(P.underlying T).map (·.isRow)=some true) (hi:(P.info? T).map (·.size)=some vs.length):(results fn tmps).run P W=.ok (.agg vs.toArray) W:=by
 obtain⟨d,hu,hd⟩:=Option.map_eq_some_iff.1 hu;have h1:=run_loadVar_mid (P:=P) W k 0 T vs d h.2.1 hu hd hi;have h2:tmps.getD t undef=.pointer (some ⟨k,0,none⟩):=by rw[Array.getD_eq_getD_getElem?,ht];rfl
 unfold results;rw[hr];simp only[Array.mapM_eq_mapM_toList,List.mapM_cons,List.mapM_nil,h2,asAddr];simp[Sem.run_bind,h1]
theorem Row.put{W:World}{k:Nat}{vs us:List Value}(h:Row W k vs)(hl:us.length=vs.length):Row (W.setCells k 0 us) k us:=
 ⟨by rw[RG.setCells_size];exact h.1,World.rangeAt_setCells_same W k 0 us (by rw[hl];exact h.2.2),by rw[hl];exact World.there_setCells h.2.2 _ _ _⟩
theorem Row.other{W:World}{k j:Nat}{vs us:List Value}(h:Row W k vs)(hne:k≠j):Row (W.setCells j 0 us) k vs:=
 ⟨by rw[RG.setCells_size];exact h.1,World.rangeAt_setCells_apart h.2.1 j 0 us (Or.inl hne),World.there_setCells h.2.2 _ _ _⟩
variable {P:Nat}[NeZero P]
theorem Jm(C:Fld P)(lb:Array Value)(L:List (Fin P × Fin P))(N:Nat)(w:World)
 (hseq:∀n,SeqStopsK Fence.wide n prog 163 lb (fun x:Fin P × Fin P=>#[pv x.1 x.2]) (Below w.heap.size) (fun xs=>xs=L) (fun pre=>pre <+: L) N w) :
 Calls prog 137 #[.func (.func 163) #[] lb] w (Ret fun e w'=>Below w.heap.size w w'/\e=pv (L.headD (gX P,gY P)).1 (L.headD (gX P,gY P)).2):=by
 refine(callsIn_wide (n:=5)).1 ?_;refine callsIn_of_wp_marks Tryz.func137 rfl trivial ?_ rfl;simp only[Tryz.ntmps137,List.size_toArray,List.length_cons,List.length_nil,Nat.reduceAdd,Nat.reduceSub,Array.replicate_succ,Array.replicate_zero,List.push_toArray,List.append_toArray,List.nil_append,List.cons_append]
 gi_wp2
 have hM:=RG.Made.alloc w [.int .u64 0,.int .u64 0,.int .u64 0,.int .u64 0,.int .u64 0,.int .u64 0,.int .u64 0,.int .u64 0] 51;have hR0:Row (w.alloc (.cells #[.int .u64 0,.int .u64 0,.int .u64 0,.int .u64 0,.int .u64 0,.int .u64 0,.int .u64 0,.int .u64 0] 51)) w.heap.size [.int .u64 0,.int .u64 0,.int .u64 0,.int .u64 0,.int .u64 0,.int .u64 0,.int .u64 0,.int .u64 0]:=⟨hM.lt,hM.range,hM.there⟩
 have hB0:Below w.heap.size w (w.alloc (.cells #[.int .u64 0,.int .u64 0,.int .u64 0,.int .u64 0,.int .u64 0,.int .u64 0,.int .u64 0,.int .u64 0] 51)):=hM.bel;clear hM;obtain⟨W0,hW0⟩:∃W0,W0=w.alloc (.cells #[.int .u64 0,.int .u64 0,.int .u64 0,.int .u64 0,.int .u64 0,.int .u64 0,.int .u64 0,.int .u64 0] 51):=⟨_,rfl⟩
 have hsz:W0.heap.size=w.heap.size+1:=by rw[hW0,World.size_alloc]
 rw[<-hW0]at hR0 hB0⊢;clear hW0;refine wpIn_rangeFunc_ownH (α:=Fin P × Fin P) rfl (by decide) (gf:=163) (lb:=lb) rfl trivial (enters_of Tryz.func163 (by kernel_rfl) rfl) (hseq 4) belowK_t (belowK_b (by omega)) hB0 (fun _=>rfl)
  (fun pre W=>(pre=[]/\Row W w.heap.size [.int .u64 0,.int .u64 0,.int .u64 0,.int .u64 0,.int .u64 0,.int .u64 0,.int .u64 0,.int .u64 0])/\Below w.heap.size w W)
  (fun c pre W=>(c=.ret/\∃x:Fin P × Fin P,pre=[x]/\Row W w.heap.size (ws x.1++ws x.2))/\Below w.heap.size w W)
  (OwnFrom.and (Own.from (fun s A B row hs hg hr=>⟨hs.1,nM _ _ () A B row hs.2 hg hr⟩) _) (ownFrom_below (Nat.le_refl _) (by omega)))
  (fun c=>OwnFrom.and (Own.from (fun s A B row hs hg hr=>⟨hs.1,hs.2.imp fun x hx=>⟨hx.1,nM _ _ () A B row hx.2 hg hr⟩⟩) _) (ownFrom_below (Nat.le_refl _) (by omega)))
  ⟨⟨rfl,hR0⟩,hB0⟩
  (fun x a' W=>∃Bx,w.heap.size<Bx/\Row W Bx (ws x.1++ws x.2)/\a' = { tmps:=#[.func (.func 163) #[] lb,undef,.pointer (some ⟨w.heap.size,0,none⟩),.pointer (some ⟨Bx,0,none⟩),.func (.func 163) #[] lb,pv x.1 x.2,undef,undef],defers:=[] })
  (fun x a'=>Own.from (fun s A B row hs hg hr=>hs.imp fun Bx hx=>⟨hx.1,nM _ _ () A B row hx.2.1 hg hr,hx.2.2⟩) _) ?assign ?body ?done ?stop
 case assign =>
  intro l pre x W K hI hK;have hMx:=RG.Made.alloc W [.int .u64 0,.int .u64 0,.int .u64 0,.int .u64 0,.int .u64 0,.int .u64 0,.int .u64 0,.int .u64 0] 51;have hth:=hMx.there
  gi_wp2_with (refine bL rfl 51 _ _ rfl W.heap.size 0 (ws x.1++ws x.2).toArray rfl rfl hth i109 (by kernel_rfl) ?_)
  have hle:=hI.1.2.1;have hbl:Below w.heap.size W ((W.alloc (.cells #[.int .u64 0,.int .u64 0,.int .u64 0,.int .u64 0,.int .u64 0,.int .u64 0,.int .u64 0,.int .u64 0] 51)).setCells W.heap.size 0 (ws x.1++ws x.2)):=
   RG.below_setCells (Nat.le_of_lt hle) _ _ _ ((Below.refl _ W).alloc (Nat.le_of_lt hle) _)
  exact hK _ _ (((KeepsOthers.alloc W _).trans (kZ _ _ _ _)).from _) hbl ⟨⟨hI.1.1,(hI.1.2.alloc _).other (Nat.ne_of_lt hle)⟩,hI.2.trans hbl⟩
   ⟨W.heap.size,hle,Row.put (vs:=[.int .u64 0,.int .u64 0,.int .u64 0,.int .u64 0,.int .u64 0,.int .u64 0,.int .u64 0,.int .u64 0]) ⟨hMx.lt,hMx.range,hMx.there⟩ rfl,rfl⟩
 case body =>
  rintro l pre x a' W hl ⟨r,hr⟩ ⟨⟨rfl,hRow⟩,hB⟩ ⟨Bx,hBx,hX,rfl⟩ hlt;obtain⟨d,hd1,hd2⟩:=Option.map_eq_some_iff.1 fD;have hXr:=hX.2.1;have hth:=hRow.2.2
  gi_wp2_with (first|refine iF rfl 51 _ rfl Bx 0 rfl (ws x.1++ws x.2) d hXr hd1 hd2 i109 ?_|refine bL rfl 51 _ _ rfl w.heap.size 0 (ws x.1++ws x.2).toArray rfl rfl hth i109 (by kernel_rfl) ?_)
  exact⟨(kZ _ _ _ _).from _,⟨rfl,x,rfl,hRow.put rfl⟩,RG.below_setCells (Nat.le_refl _) _ _ _ hB⟩
 case done =>
  rintro D ys W hD rfl ⟨⟨rfl,hRow⟩,hB⟩ hK;have hth:=hRow.2.2
  gi_wp2_with fail
  refine⟨trivial,(callsIn_wide.2 (GM C _)).mono ?_⟩;rintro e w2 ⟨v,rfl,hb2,rfl⟩;have hRow2:Row w2 w.heap.size [.int .u64 0,.int .u64 0,.int .u64 0,.int .u64 0,.int .u64 0,.int .u64 0,.int .u64 0,.int .u64 0]:=hRow.below hb2;have hth2:=hRow2.2.2
  gi_wp2_with (refine bL rfl 51 _ _ rfl w.heap.size 0 (ws (gX P)++ws (gY P)).toArray rfl rfl hth2 i109 (by kernel_rfl) ?_)
  have hK2:(w2.setCells w.heap.size 0 (ws (gX P)++ws (gY P))).heap[D]? = some (.deferred (some [])):=by
   rw[RG.cB _ _ _ _ _ (by omega),hb2.block D (Array.getElem?_eq_some_iff.1 hK).1];exact hK
  have hB2:Below w.heap.size w (w2.setCells w.heap.size 0 (ws (gX P)++ws (gY P))):=RG.below_setCells (Nat.le_refl _) _ _ _ (hB.trans (hb2.mono hB.size));have hRow3:Row (w2.setCells w.heap.size 0 (ws (gX P)++ws (gY P))) w.heap.size (ws (gX P)++ws (gY P)):=hRow2.put rfl;refine⟨by simp,.inl ⟨_,_,rfl,run_takeDeferred hK2,?_⟩⟩;exact⟨_,aY 2 51 rfl (hRow3.putObj hK2 rfl _) rfl fD i109,_,rfl,hB2.trans (belowK_b (w:=W0) (by omega) _ D _ _ hD hK2 rfl rfl),rfl⟩
 case stop =>
  rintro D c pre W hD hpre ⟨⟨rfl,x,rfl,hRow⟩,hB⟩ hK
  gi_wp2
  obtain⟨L',hL⟩:=hpre;have hL2:L=x :: L':=hL.symm;rw[hL2];refine⟨by simp,.inl ⟨_,_,rfl,run_takeDeferred hK,?_⟩⟩;exact⟨_,aY 2 51 rfl (hRow.putObj hK rfl _) rfl fD i109,_,rfl,hB.trans (belowK_b (w:=W0) (by omega) _ D _ _ hD hK rfl rfl),rfl⟩
end
section
open Go.RowKit Go.Sort Go.Deep Go.Shelf
attribute [local go_sem] Oper.semAt_some
def chv(sb so c i:Nat):Value:=.slice (some ⟨sb,so+c*i,none⟩) c c
theorem FY{w w':World}(h:Below w.heap.size w w')(row:Option Nat):w.grownBy w' row:=⟨h.os,h.tape,h.output,h.size,fun k hk _=>h.block k hk⟩
theorem sl3(sb so n cap x y:Nat)(h1:x<y)(h2:y<=cap)(w:World):(Instr.sliceAt 22 (.slice (some ⟨sb,so,none⟩) n cap) (some (.int .i64 x)) (some (.int .i64 y)) (some (.int .i64 y))).run prog w=.ok (.slice (some ⟨sb,so+x,none⟩) (y-x) (y-x)) w:=by
 have h3:¬y=x:=by omega
 have h4:(x:Int)<=y:=by omega
 have h5:(y:Int)<=cap:=by omega
 have h6:x<=y:=by omega
 go_simp
theorem Js(sb so c m n cap k1 k2:Nat)(w:World)(hc:0<c)(hn:n=c*m)(hcap:n<=cap)(hbig:n<=1073741824)(h1:w.cell? ⟨k1,0,none⟩=some (.slice (some ⟨sb,so,none⟩) n cap))(h2:w.cell? ⟨k2,0,none⟩=some (.int .i64 c))(l1:k1<w.heap.size)(l2:k2<w.heap.size)(nn:Nat):
 SeqStopsK Fence.wide nn prog 162 #[.pointer (some ⟨k1,0,none⟩),.pointer (some ⟨k2,0,none⟩)] (fun i:Nat=>#[chv sb so c i]) (Below w.heap.size) (fun xs=>xs=List.range m) (fun _=>True) m w:=by
 intro l J Jx W hW hJ hJx hY h0;have HN:Hid (n=c*m):=hn;clear hn;refine callsIn_of_wp Tryz.func162 rfl trivial ?_ rfl;simp only[Tryz.ntmps162,List.size_toArray,List.length_cons,List.length_nil,Nat.reduceAdd,Nat.reduceSub,Array.replicate_succ,Array.replicate_zero,List.push_toArray,List.append_toArray,List.nil_append,List.cons_append]
 gi_wp2
 gi_loopw [4] (fun p wr=>∃i:Nat,i<=m/\p=.int .i64 ((c*i:Nat):Int)/\J (List.range i) wr/\Below w.heap.size w wr/\W.heap.size<=wr.heap.size) (fun p wr=>n-(intOf p).toNat)
 case atStart =>
  exact⟨0,Nat.zero_le _,by rw[Nat.mul_zero];rfl,h0,hW,Nat.le_refl _⟩
 case round =>
  obtain⟨i,hi,rfl,hJi,hB,hsz⟩:=hrel;have c1:wr.cell? ⟨k1,0,none⟩=some (.slice (some ⟨sb,so,none⟩) n cap):=(World.cell?_of_block (hB.block k1 l1)).trans h1;have c2:wr.cell? ⟨k2,0,none⟩=some (.int .i64 c):=(World.cell?_of_block (hB.block k2 l2)).trans h2;by_cases he:i=m
  ·subst he;have hge:¬((c*i:Nat):Int)<(n:Int):=by rw[HN.out];omega
   gi_wp2
   go_end0
   exact⟨⟨_,rfl⟩,.inl hJi⟩
  ·obtain⟨x,hx⟩:∃x,Hid (c*i=x):=⟨_,rfl⟩
   have hxn:x+c<=n:=by
    have:=Nat.mul_le_mul_left c (show i+1<=m by omega);rw[Nat.mul_add,hx.out,<-HN.out]at this;omega
   have hlt:(x:Int)<(n:Int):=by omega
   rw[hx.out]
   gi_wp2_with fail
   refine wpIn_wide.2 ?_;have hsl:(Instr.sliceAt 22 (.slice (some ⟨sb,so,none⟩) n cap) (some (.int .i64 x)) none none).run prog wr.drew=.ok (.slice (some ⟨sb,so+x,none⟩) (n-x) (cap-x)) wr.drew:=by
    have h1:¬(x:Int)<0:=by omega
    have h2:(x:Int)<=n:=by omega
    have h3:(n:Int)<=cap:=by omega
    have h4:¬cap=x:=by omega
    go_simp
   have c1':wr.drew.cell? ⟨k1,0,none⟩=some (.slice (some ⟨sb,so,none⟩) n cap):=c1;have c2':wr.drew.cell? ⟨k2,0,none⟩=some (.int .i64 c):=c2;go_region
   rename_i K ha
   refine ha _ _ ?_;clear ha hsl c1' c2' hlt;obtain⟨fn,tmps,assign,body,hy,hR⟩:=hY (List.range i) i wr.drew (hJ _ wr _ none hJi (FY ((Below.refl _ wr).drew) none) (fun _ e=>by cases e)) (by rw[List.length_range];omega);have c1':wr.drew.cell? ⟨k1,0,none⟩=some (.slice (some ⟨sb,so,none⟩) n cap):=c1;have c2':wr.drew.cell? ⟨k2,0,none⟩=some (.int .i64 c):=c2;have hsl:∀w:World,(Instr.sliceAt 22 (.slice (some ⟨sb,so,none⟩) n cap) (some (.int .i64 x)) (some (.int .i64 ((x+c:Nat):Int))) (some (.int .i64 ((x+c:Nat):Int)))).run prog w=.ok (.slice (some ⟨sb,so+x,none⟩) c c) w:=fun w=>by
    have:=sl3 sb so n cap x (x+c) (by omega) (by omega) w;rwa[show x+c-x=c by omega]at this
   unfold chv at hy;rw[hx.out]at hy
   gi_wp2_with fail
   clear hy;refine⟨fun h=>(by cases h),hR.mono ?_⟩;clear hR hsl c1' c2' c1;have hBd:Below w.heap.size w wr.drew:=hB.drew;rintro e W8 (⟨rfl,hJ8,hk8⟩|⟨rfl,hJx8⟩)
   ·have c3:W8.cell? ⟨k2,0,none⟩=some (.int .i64 c):=(World.cell?_of_block ((hBd.trans hk8).block k2 l2)).trans h2
    gi_wp2_with fail
    refine⟨⟨i+1,by omega,?_,?_,hBd.trans hk8,Nat.le_trans hsz hk8.size⟩,?_⟩
    ·rw[Nat.mul_add,hx.out,Nat.mul_one];rfl
    ·rw[List.range_succ];exact hJ8
    ·simp[intOf];omega
   ·gi_wp2_with fail
    refine bodyPost_ret (results_none rfl _ _ _) rfl ?_;exact⟨⟨_,rfl⟩,.inr ⟨_,trivial,hJx8⟩⟩
end
section
open Go.RowKit Go.Sort Go.Deep Go.Shelf
attribute [local go_sem] Oper.semAt_some
theorem yV(base:Nat)(T:TypeId)(v:Value)(n:Nat)(xs:List Value):Own (fun(_:Unit) W=>W.ownsRow base T 1 v n xs):=fun s A B row hs hg hr=>by
 refine hs.kept hg ?_;rcases hs.2 with⟨rfl,_⟩|⟨g,cap,cur,rfl,_,hgb,_⟩
 ·exact .inl rfl
 ·refine .inr fun e'=>?_
  obtain⟨o,ho,hw⟩:=hr g (by simpa[Value.ownBlock]using e'.symm);rw[hgb]at ho;cases ho;cases hw
theorem iU{W:World}{base:Nat}{T U:TypeId}{v:Value}{n k:Nat}{xs:List Value}(h:W.ownsRow base T 1 v n xs){o:Obj}(hk:W.heap[k]? = some o)(hT:∀cs,o≠.cells cs T (0,0)):v.ownBlock=none\/v.ownBlock≠some k:=by
 rcases h.2 with⟨rfl,_⟩|⟨g,cap,cur,rfl,_,hgb,_⟩
 ·exact .inl rfl
 ·refine .inr fun e'=>?_
  have:g=k:=by simpa[Value.ownBlock]using e'
  subst this;rw[hgb]at hk;cases hk;exact hT cur rfl
theorem FW{W W':World}{base:Nat}{T:TypeId}{v:Value}{n:Nat}{xs:List Value}(h:W.ownsRow base T 1 v n xs)(hg:W.grownBy W' v.ownBlock):KeepsOthers W W':=by
 refine⟨hg.size,fun k o hk ho=>?_⟩;rw[hg.block k (Array.getElem?_eq_some_iff.1 hk).1 ?_]
 ·exact hk
 ·rcases h.2 with⟨rfl,_⟩|⟨g,cap,cur,rfl,_,hgb,_⟩
  ·simp[Value.ownBlock]
  ·intro e;have:k=g:=by simpa[Value.ownBlock]using e
   subst this;rw[hgb]at hk;cases hk;cases ho
def Box(T U:TypeId)(base Bs:Nat)(xs:List Value)(W:World):Prop:=∃v,W.heap[Bs]? = some (.cells #[v] U (0,0))/\W.ownsRow base T 1 v xs.length xs/\(v=.slice none 0 0↔xs=[])
theorem JB(T U:TypeId)(base Bs:Nat)(xs:List Value):Own (fun(_:Unit) W=>Box T U base Bs xs W):=fun s A B row hs hg hr=>by
 obtain⟨v,h1,h2,h3⟩:=hs;refine⟨v,?_,yV base T v _ xs () A B row h2 hg hr,h3⟩;rw[hg.block Bs (Array.getElem?_eq_some_iff.1 h1).1 ?_]
 ·exact h1
 ·intro e;obtain⟨o,ho,hw⟩:=hr Bs e.symm;rw[h1]at ho;cases ho;cases hw
theorem JA{W:World}{B:Nat}{v:Value}{t:TypeId}(v':Value)(h:W.heap[B]? = some (.cells #[v] t (0,0))):(W.setCell ⟨B,0,none⟩ v').heap[B]? = some (.cells #[v'] t (0,0)):=by
 obtain⟨hlt,hk⟩:=Array.getElem?_eq_some_iff.1 h;show(W.heap.modify B _)[B]? = _;rw[Array.getElem?_eq_getElem (by rw[Array.size_modify];exact hlt),Array.getElem_modify_self,hk];rfl
theorem Eh(W:World)(b:Nat)(v:Value):W.grownBy (W.setCell ⟨b,0,none⟩ v) (some b):=
 ⟨rfl,rfl,rfl,(KeepsOthers.setCell W _ v).size,fun k _ hk=>Below.heap_setCell _ _ _ k (fun e=>hk (by rw[e]))⟩
theorem iBy:(prog.info? 22).map (fun i=>(i.zero,i.size,i.bytes))=some (some (.slice none 0 0),1,24):=by kernel_rfl
theorem uBB:prog.underlying 48=some (.slice 22):=by kernel_rfl
theorem Ak(g:Nat->Addr)(c:Nat)(gf:Nat)(eg:∀args w,(callFunc gf args).run prog w=.ok (.enter gf args) w)(lb:Array Value)(N:Nat)(hN:N<=1048576)(w:World)
 (hseq:∀n,SeqStopsK Fence.wide n prog gf lb (fun i:Nat=>#[.slice (some (g i)) c c]) (Below w.heap.size) (fun xs=>xs=List.range N) (fun _=>True) N w) :
 Calls prog 161 #[.slice none 0 0,.func (.func gf) #[] lb] w (Ret fun e w'=>Below w.heap.size w w'/\w'.ownsRow w.heap.size 22 1 e N ((List.range N).map (fun i=>Value.slice (some (g i)) c c))/\(e=.slice none 0 0↔N=0)):=by
 obtain⟨i0,hi,hz0,hz1,hz2⟩:=info_parts iBy;refine(callsIn_wide (n:=5)).1 ?_;refine callsIn_of_wp_marks Tryz.func161 rfl trivial ?_ rfl;simp only[Tryz.ntmps161,List.size_toArray,List.length_cons,List.length_nil,Nat.reduceAdd,Nat.reduceSub,Array.replicate_succ,Array.replicate_zero,List.push_toArray,List.append_toArray,List.nil_append,List.cons_append]
 gi_wp2
 obtain⟨W0,hW0⟩:∃W0,W0=w.alloc (.cells #[.slice none 0 0] 48):=⟨_,rfl⟩
 have hsz:W0.heap.size=w.heap.size+1:=by rw[hW0,World.size_alloc]
 have hv0:W0.heap[w.heap.size]? = some (.cells #[.slice none 0 0] 48 (0,0)):=by rw[hW0];exact World.alloc_heap_new w _
 have hB0:Below w.heap.size w W0:=by rw[hW0];exact(Below.refl _ w).alloc (Nat.le_refl _) _
 rw[<-hW0];clear hW0;refine wpIn_rangeFunc_ownH (α:=Nat) rfl (by decide) (gf:=gf) (lb:=lb) rfl trivial eg (hseq 4) belowK_t (belowK_b (by omega)) hB0 (fun _=>rfl)
  (fun pre W=>Box 22 48 w.heap.size w.heap.size (pre.map (fun i=>Value.slice (some (g i)) c c)) W/\Below w.heap.size w W)
  (fun c pre W=>False)
  (OwnFrom.and (Own.from (show Own (fun(pre:List Nat) W=>Box 22 48 w.heap.size w.heap.size (pre.map (fun i=>Value.slice (some (g i)) c c)) W) from fun s A B row hs hg hr=>JB 22 48 w.heap.size w.heap.size (s.map (fun i=>Value.slice (some (g i)) c c)) () A B row hs hg hr) _) (ownFrom_below (Nat.le_refl _) (by omega)))
  (fun c=>fun s A B row hs hg hr=>hs.elim)
  ⟨⟨_,hv0,⟨rfl,.inl ⟨rfl,rfl⟩⟩,by simp⟩,hB0⟩
  (fun x a' W=>a' = { tmps:=#[.slice none 0 0,.func (.func gf) #[] lb,.pointer (some ⟨w.heap.size,0,none⟩),undef,.slice none 0 0,(.slice (some (g x)) c c),.func (.func gf) #[] lb,(.slice (some (g x)) c c),undef,undef,undef,undef,undef],defers:=[] })
  (fun x a'=>fun s A B row hs hg hr=>hs) ?assign ?body ?done ?stop
 case assign =>
  intro l pre x W K hI hK
  gi_wp2
  exact hK _ _ (KeepsFrom.refl _ _) (Below.refl _ _) hI rfl
 case body =>
  rintro l pre x a' W hl ⟨r,hr⟩ ⟨⟨v,hv,hrow,hnil⟩,hB⟩ rfl hlt;have hc:W.cell? ⟨w.heap.size,0,none⟩=some v:=by simp[World.cell?,hv]
  have hfz:W.frozen? ⟨w.heap.size,0,none⟩=false:=by simp[World.frozen?,hv]
  have hBlt:w.heap.size<W.heap.size:=(Array.getElem?_eq_some_iff.1 hv).1;have hlen:(pre.map (fun i=>Value.slice (some (g i)) c c)).length=pre.length:=List.length_map _;have hrow2:(W.alloc (.cells #[(.slice (some (g x)) c c)] 22)).ownsRow w.heap.size 22 1 v (pre.map (fun i=>Value.slice (some (g i)) c c)).length (pre.map (fun i=>Value.slice (some (g i)) c c)):=hrow.alloc _;have hv2:(W.alloc (.cells #[(.slice (some (g x)) c c)] 22)).heap[w.heap.size]? = some (.cells #[v] 48 (0,0)):=(Below.heap_alloc _ _ _ hBlt).trans hv;have hap:=iU (U:=0) hrow2 hv2 (fun cs e=>by cases e)
  gi_wp2_with (gi_at_builtin;refine Hid.out ?_)
  show wpListIn _ _ _ _ _ _ _ _
  (refine wpListIn_append_own _ rfl _ _ 48 rfl w.heap.size 22 i0 (.slice none 0 0) 1 24 uBB hi hz0 hz1 hz2 rfl (by decide) v _ _ rfl hrow2 ⟨W.heap.size,0,none⟩ 1 1 [(.slice (some (g x)) c c)] rfl rfl (cell_one_new _ _ _) (fun u hu=>by rw[List.mem_singleton.1 hu];rfl) (by rw[hlen];exact Nat.le_trans (show pre.length+1<=1048577 by omega) (by decide)) (by rw[hlen];omega) (by simp;omega) ?_;intro v' w3 hown' hg3 hnil3)
  have hne:(some w.heap.size:Option Nat)≠v.ownBlock:=by
   rcases hap with e|e
   ·rw[e];simp
   ·exact fun e'=>e e'.symm
  have hv3:w3.heap[w.heap.size]? = some (.cells #[v] 48 (0,0)):=(hg3.block _ (by rw[World.size_alloc];omega) hne).trans hv2;have hc3:w3.cell? ⟨w.heap.size,0,none⟩=some v:=by simp[World.cell?,hv3]
  have hf3:w3.frozen? ⟨w.heap.size,0,none⟩=false:=by simp[World.frozen?,hv3]
  have hk3:KeepsOthers W w3:=(KeepsOthers.alloc W _).trans (FW hrow2 hg3);have hb3:Below w.heap.size W w3:=((Below.refl _ W).alloc (Nat.le_of_lt hBlt) _).grown hg3 (by rw[World.size_alloc];omega) (fun k e=>(hrow2.lt k e).1);obtain⟨g',cap',cur',rfl,hbase',hgb',hr⟩:∃g' cap' cur',v'=.slice (some ⟨g',0,none⟩) ((pre.map (fun i=>Value.slice (some (g i)) c c)).length+1) cap'/\w.heap.size<=g'/\w3.heap[g']? = some (.cells cur' 22 (0,0))/\True:=by
   rcases hown'.2 with⟨_,h0⟩|⟨g',cap',cur',h1,h2,h3,_⟩
   ·exact absurd h0 (by omega)
   ·exact⟨g',cap',cur',h1,h2,h3,trivial⟩
  clear hg3 hc hfz hv hv2 hrow hrow2
  gi_wp2
  have hgB:=Eh w3 w.heap.size (.slice (some ⟨g',0,none⟩) (pre.length+1) cap');have hBx:=JA (.slice (some ⟨g',0,none⟩) (pre.length+1) cap') hv3;rw[hlen]at hown';have hown4:=hown'.kept hgB (iU (U:=0) hown' hv3 (fun cs e=>by cases e));have hb4:Below w.heap.size W (w3.setCell ⟨w.heap.size,0,none⟩ (.slice (some ⟨g',0,none⟩) (pre.length+1) cap')):=hb3.grown hgB (Nat.le_trans hB.size hb3.size) (fun k e=>by cases e;exact Nat.le_refl _);refine⟨(hk3.trans (KeepsOthers.setCell w3 _ _)).from _,hb4,⟨_,hBx,?_,?_⟩,hB.trans hb4⟩
  ·rw[List.map_append,List.length_append,hlen];exact hown4
  ·simp
 case done =>
  rintro D ys W hD rfl ⟨⟨v,hv,hrow,hnil⟩,hB⟩ hK;have hc:W.cell? ⟨w.heap.size,0,none⟩=some v:=by simp[World.cell?,hv]
  gi_wp2
  refine⟨by simp,.inl ⟨_,_,rfl,run_takeDeferred hK,?_⟩⟩;have hgD:=grownBy_putObj' W D (.deferred none);rw[List.length_map,List.length_range]at hrow;refine⟨_,results_tmp rfl _ _ _,v,rfl,hB.grown hgD hB.size (fun k e=>by cases e;omega),hrow.kept hgD (iU (U:=0) hrow hK (fun cs e=>by cases e)),?_⟩;rw[hnil];simp
 case stop =>
  rintro D c pre W hD hpre hF hK;exact hF.elim
theorem Ea(g:Nat->Addr)(c:Nat)(gf:Nat)(eg:∀args w,(callFunc gf args).run prog w=.ok (.enter gf args) w)(lb:Array Value)(N:Nat)(hN:N<=1048576)(w:World)
 (hseq:∀n,SeqStopsK Fence.wide n prog gf lb (fun i:Nat=>#[.slice (some (g i)) c c]) (Below w.heap.size) (fun xs=>xs=List.range N) (fun _=>True) N w) :
 Calls prog 133 #[.func (.func gf) #[] lb] w (Ret fun e w'=>Below w.heap.size w w'/\w'.ownsRow w.heap.size 22 1 e N ((List.range N).map (fun i=>Value.slice (some (g i)) c c))/\(e=.slice none 0 0↔N=0)):=by
 go_enter Tryz.func133,Tryz.ntmps133;go_wp2_with fail
 refine(Ak g c gf eg lb N hN w hseq).mono ?_;rintro e w1 ⟨v,rfl,hb,hr,hn⟩;go_wp2_with fail
 go_ret;exact⟨_,rfl,hb,hr,hn⟩
theorem zW(sb so c m n cap:Nat)(w:World)(hc:0<c)(hn:n=c*m)(hm:m<=1024)(hcap:n<=cap)(hbig:n<=1073741824)(k:Nat)(hk:k+1<w.heap.size)(h1:w.cell? ⟨k,0,none⟩=some (.slice (some ⟨sb,so,none⟩) n cap))(h2:w.cell? ⟨k+1,0,none⟩=some (.int .i64 c)):
 Calls prog 133 #[.func (.func 162) #[] #[.pointer (some ⟨k,0,none⟩),.pointer (some ⟨k+1,0,none⟩)]] w (Ret fun e w'=>Below w.heap.size w w'/\w'.ownsRow w.heap.size 22 1 e m ((List.range m).map (chv sb so c))/\(e=.slice none 0 0↔m=0)):=
 Ea (fun i=>⟨sb,so+c*i,none⟩) c _ (enters_of Tryz.func162 (by kernel_rfl) rfl) _ m (by omega) w (Js sb so c m n cap k (k+1) w hc hn hcap hbig h1 h2 (by omega) hk)
theorem zX(sb so n cap:Nat)(c:Nat)(hc:0<c)(w:World):Calls prog 134 #[.slice (some ⟨sb,so,none⟩) n cap,.int .i64 c] w (Ret fun e w'=>e=.func (.func 162) #[] #[.pointer (some ⟨w.heap.size,0,none⟩),.pointer (some ⟨w.heap.size+1,0,none⟩)]/\w'=(w.alloc (.cells #[.slice (some ⟨sb,so,none⟩) n cap] 22)).alloc (.cells #[.int .i64 c] 3)):=by
 have h1:¬(c:Int)<1:=by omega
 go_enter Tryz.func134,Tryz.ntmps134;go_wp2;go_ret;exact⟨_,rfl,rfl,rfl⟩
end
section
open Go.RowKit Go.Sort
variable {P:Nat}[NeZero P]{N:Nat}
structure RefP(p0 p1 p2 p3 c0 c1 c2 c3 P:Nat):Prop where
 hp0:p0<18446744073709551616
 hp1:p1<18446744073709551616
 hp2:p2<18446744073709551616
 hp3:p3<18446744073709551616
 hc0:c0<18446744073709551616
 hc1:c1<18446744073709551616
 hc2:c2<18446744073709551616
 hc3:c3<18446744073709551616
 eP:P=val p0 p1 p2 p3
 hP:P+val c0 c1 c2 c3=top
 hP2:top<2*P
theorem MQ:RefP 18446744069414583343 18446744073709551615 18446744073709551615 18446744073709551615 4294968273 0 0 0 Go.Proofs.YtgbjainaafdpgaaGreat.p0:=
 ⟨by decide,by decide,by decide,by decide,by decide,by decide,by decide,by decide,by decide +kernel,by decide +kernel,by decide +kernel⟩
theorem MP:RefP 13822214165235122497 13451932020343611451 18446744073709551614 18446744073709551615 4624529908474429119 4994812053365940164 1 0 Go.Proofs.YtgbjainaafdpgaaGreat.p1:=
 ⟨by decide,by decide,by decide,by decide,by decide,by decide,by decide,by decide,by decide +kernel,by decide +kernel,by decide +kernel⟩
theorem lO(x y:Value)(m n:Nat)(hx:Four x m)(hy:Four y n)(w:World):
 Calls prog 73 #[x,y] w (Ret fun e w'=>Below w.heap.size w w'/\∃(v:Value) (s k:Nat),e=.tuple #[v,.int .u64 k]/\Four v s/\k<=1/\s+n=m+top*k):=by
 obtain⟨a,b,c,d,rfl,ha,hb,hc,hd,em⟩:=hx;obtain⟨p,q,r,s,rfl,hp,hq,hr,hs,en⟩:=hy;obtain⟨s0,k0,a0,hs0,hk0,e0⟩:=vV a p ha hp;obtain⟨s1,k1,a1,hs1,hk1,e1⟩:=iZ b q k0 hb hq hk0;obtain⟨s2,k2,a2,hs2,hk2,e2⟩:=iZ c r k1 hc hr hk1;obtain⟨s3,k3,a3,hs3,hk3,e3⟩:=iZ d s k2 hd hs hk2;have hv:val s0 s1 s2 s3+n=m+top*k3:=by rw[em,en];unfold val top;omega
 clear e0 e1 e2 e3 em en;go_enter Tryz.func73,Tryz.ntmps73;go_wp2;refine wp_loop_rounds 5 ?_;rw[rounds_succ];go_wp2;go_region
 go_wp2;rw[rounds_succ];go_wp2;go_region
 go_wp2;rw[rounds_succ];go_wp2;go_region
 go_wp2;rw[rounds_succ];go_wp2;go_region
 go_wp2;rw[rounds_succ];go_wp2
 refine bodyPost_ret (v:=?v) ?hr rfl ?hR
 case hr=>simp[results,Tryz.results73,go_sem];rfl
 exact⟨_,rfl,(eR _ _ _ _ _).drew.drew.drew.drew,_,_,k3,rfl,Four.mk hs0 hs1 hs2 hs3 rfl,hk3,hv⟩
def mK(v:Value)(n:Nat):Prop:=∃a b c d a' b' c' d':Nat,v=.agg #[.int .u64 a,.int .u64 b,.int .u64 c,.int .u64 d,.int .u64 a',.int .u64 b',.int .u64 c',.int .u64 d'] /\
 a<18446744073709551616/\b<18446744073709551616/\c<18446744073709551616/\d<18446744073709551616/\a'<18446744073709551616/\b'<18446744073709551616/\c'<18446744073709551616/\d'<18446744073709551616 /\
 n=val a b c d+top*val a' b' c' d'
theorem BX{m n a b c d s u k l:Nat}(em:m=a+top*b)(en:n=c+top*d)(h1:s+top*k=a+c)(h2:u+top*l=b+d+k)(hlt:m+n<top*top):m+n=s+top*u:=by
 have h3:top*u+top*top*l=top*b+top*d+top*k:=by rw[Nat.mul_assoc,<-Nat.mul_add,h2,Nat.mul_add,Nat.mul_add]
 have h4:m+n=s+top*u+top*top*l:=by omega
 have h5:l=0:=by
  rcases Nat.eq_zero_or_pos l with h|h
  ·exact h
  ·have:=Nat.le_mul_of_pos_right (top*top) h;omega
 rw[h4,h5,Nat.mul_zero,Nat.add_zero]
theorem uJ(x y:Value)(m n:Nat)(hx:mK x m)(hy:mK y n)(hlt:m+n<top*top)(w:World):
 Calls prog 71 #[x,y] w (Ret fun e w'=>Below w.heap.size w w'/\mK e (m+n)):=by
 obtain⟨a,b,c,d,aa,bb,cc,dd,rfl,ha,hb,hc,hd,haa,hbb,hcc,hdd,em⟩:=hx;obtain⟨p,q,r,s,pp,qq,rr,ss,rfl,hp,hq,hr,hs,hpp,hqq,hrr,hss,en⟩:=hy;obtain⟨s0,k0,a0,hs0,hk0,e0⟩:=pR a p ha hp;obtain⟨s1,k1,a1,hs1,hk1,e1⟩:=lG b q k0 hb hq hk0;obtain⟨s2,k2,a2,hs2,hk2,e2⟩:=lG c r k1 hc hr hk1;obtain⟨s3,k3,a3,hs3,hk3,e3⟩:=lG d s k2 hd hs hk2;obtain⟨s4,k4,a4,hs4,hk4,e4⟩:=lG aa pp k3 haa hpp hk3;obtain⟨s5,k5,a5,hs5,hk5,e5⟩:=lG bb qq k4 hbb hqq hk4;obtain⟨s6,k6,a6,hs6,hk6,e6⟩:=lG cc rr k5 hcc hrr hk5;obtain⟨s7,k7,a7,hs7,hk7,e7⟩:=lG dd ss k6 hdd hss hk6;have v1:val s0 s1 s2 s3+top*k3=val a b c d+val p q r s:=by clear em en hlt e4 e5 e6 e7;unfold val top;omega
 have v2:val s4 s5 s6 s7+top*k7=val aa bb cc dd+val pp qq rr ss+k3:=by clear em en hlt e0 e1 e2 e3;unfold val top;omega
 have hv:m+n=val s0 s1 s2 s3+top*val s4 s5 s6 s7:=BX em en v1 v2 hlt;clear e0 e1 e2 e3 e4 e5 e6 e7 em en hlt;go_enter Tryz.func71,Tryz.ntmps71;go_wp2;refine wp_loop_rounds 9 ?_;rw[rounds_succ];go_wp2;go_region
 go_wp2;rw[rounds_succ];go_wp2;go_region
 go_wp2;rw[rounds_succ];go_wp2;go_region
 go_wp2;rw[rounds_succ];go_wp2;go_region
 go_wp2;rw[rounds_succ];go_wp2;go_region
 go_wp2;rw[rounds_succ];go_wp2;go_region
 go_wp2;rw[rounds_succ];go_wp2;go_region
 go_wp2;rw[rounds_succ];go_wp2;go_region
 go_wp2;rw[rounds_succ];go_wp2
 refine bodyPost_ret (v:=?v) ?hr rfl ?hR
 case hr=>simp[results,Tryz.results71,go_sem];rfl
 exact⟨_,rfl,(below3 _ _ _ _).drew.drew.drew.drew.drew.drew.drew.drew,s0,s1,s2,s3,s4,s5,s6,s7,rfl,hs0,hs1,hs2,hs3,hs4,hs5,hs6,hs7,hv⟩
theorem D5{a b c d n r0 r1 r2 r3 s0 s1 s2 s3 t0 t1 t2 t3 u0 u1 u2 u3 h0 h1 h2 h3:Nat}
 (e0:r0+18446744073709551616*val r1 r2 r3 h0=a*n+val 0 0 0 0)
 (e1:s0+18446744073709551616*val s1 s2 s3 h1=b*n+val r1 r2 r3 h0)
 (e2:t0+18446744073709551616*val t1 t2 t3 h2=c*n+val s1 s2 s3 h1)
 (e3:u0+18446744073709551616*val u1 u2 u3 h3=d*n+val t1 t2 t3 h2) :
 val a b c d*n=val r0 s0 t0 u0+top*val u1 u2 u3 h3:=by
 have hm:val a b c d*n=val (a*n) (b*n) (c*n) (d*n):=by
  rw[Nat.mul_comm,wP,Nat.mul_comm n a,Nat.mul_comm n b,Nat.mul_comm n c,Nat.mul_comm n d]
 rw[hm];generalize a*n=x0 at *;generalize b*n=x1 at *;generalize c*n=x2 at *;generalize d*n=x3 at *;generalize val r1 r2 r3 h0=y0 at *;generalize val s1 s2 s3 h1=y1 at *;generalize val t1 t2 t3 h2=y2 at *;generalize val u1 u2 u3 h3=y3 at *;unfold val at *;unfold top;omega
theorem nJ(x y:Value)(m n:Nat)(hx:Four x m)(hy:Four y n)(w:World):
 Calls prog 69 #[x,y] w (Ret fun e w'=>Below w.heap.size w w'/\mK e (m*n)):=by
 obtain⟨a,b,c,d,rfl,ha,hb,hc,hd,em⟩:=hx;obtain⟨p,q,r,s,rfl,hp,hq,hr,hs,en⟩:=hy;go_enter Tryz.func69,Tryz.ntmps69;go_wp2;refine wp_loop_rounds 5 ?_;have X:=(((At4.made w 37 a b c d rfl).alloc (.cells #[.int .u64 p,.int .u64 q,.int .u64 r,.int .u64 s] 37)).alloc (.cells #[.int .u64 0,.int .u64 0,.int .u64 0,.int .u64 0,.int .u64 0,.int .u64 0,.int .u64 0,.int .u64 0] 106)).alloc (.cells #[.int .u64 0,.int .u64 0,.int .u64 0,.int .u64 0,.int .u64 0,.int .u64 0,.int .u64 0,.int .u64 0] 106);have Y:=((At4.made (w.alloc (.cells #[.int .u64 a,.int .u64 b,.int .u64 c,.int .u64 d] 37)) 37 p q r s (World.size_alloc _ _)).alloc (.cells #[.int .u64 0,.int .u64 0,.int .u64 0,.int .u64 0,.int .u64 0,.int .u64 0,.int .u64 0,.int .u64 0] 106)).alloc (.cells #[.int .u64 0,.int .u64 0,.int .u64 0,.int .u64 0,.int .u64 0,.int .u64 0,.int .u64 0,.int .u64 0] 106);have R:=(At8.made ((w.alloc (.cells #[.int .u64 a,.int .u64 b,.int .u64 c,.int .u64 d] 37)).alloc (.cells #[.int .u64 p,.int .u64 q,.int .u64 r,.int .u64 s] 37)) 106 0 0 0 0 0 0 0 0 (k:=w.heap.size+1+1) (by simp)).alloc (.cells #[.int .u64 0,.int .u64 0,.int .u64 0,.int .u64 0,.int .u64 0,.int .u64 0,.int .u64 0,.int .u64 0] 106);have O:=At8.made (((w.alloc (.cells #[.int .u64 a,.int .u64 b,.int .u64 c,.int .u64 d] 37)).alloc (.cells #[.int .u64 p,.int .u64 q,.int .u64 r,.int .u64 s] 37)).alloc (.cells #[.int .u64 0,.int .u64 0,.int .u64 0,.int .u64 0,.int .u64 0,.int .u64 0,.int .u64 0,.int .u64 0] 106)) 106 0 0 0 0 0 0 0 0 (k:=w.heap.size+1+1+1) (by simp);have BL:Hid (Below w.heap.size w _):=eR w (.cells #[.int .u64 a,.int .u64 b,.int .u64 c,.int .u64 d] 37) (.cells #[.int .u64 p,.int .u64 q,.int .u64 r,.int .u64 s] 37) (.cells #[.int .u64 0,.int .u64 0,.int .u64 0,.int .u64 0,.int .u64 0,.int .u64 0,.int .u64 0,.int .u64 0] 106) (.cells #[.int .u64 0,.int .u64 0,.int .u64 0,.int .u64 0,.int .u64 0,.int .u64 0,.int .u64 0,.int .u64 0] 106);simp only[Int.natCast_zero]at R O;generalize World.alloc _ _=W0 at X Y R O BL⊢;generalize h3:w.heap.size+1+1+1=k3 at O⊢;generalize h2:w.heap.size+1+1=k2 at R⊢;generalize h1:w.heap.size+1=k1 at Y⊢;have Q3:Hid (w.heap.size<=k3):=by unfold Hid;omega
 have Q2:Hid (w.heap.size<=k2):=by unfold Hid;omega
 generalize h0:w.heap.size=k0 at X BL Q2 Q3⊢;have n03:k0≠k3:=by omega
 have n13:k1≠k3:=by omega
 have n23:k2≠k3:=by omega
 have H0:Hid (w.heap.size=k0):=h0;clear h0 h1 h2 h3;obtain⟨xc0,xc1,xc2,xc3,xf⟩:=id X;obtain⟨yc0,yc1,yc2,yc3,yf⟩:=id Y;obtain⟨oc0,oc1,oc2,oc3,oc4,oc5,oc6,oc7,of⟩:=id O;simp only[Int.natCast_zero]at oc0 oc1 oc2 oc3 oc4 oc5 oc6 oc7;rw[rounds_succ];go_wp2
 refine wp_loop_rounds 5 ?_;obtain⟨h00,l00,s00,k00,o00,j00,g00,y00,m00,b00,d00,v00,z00,ho00,hy00,e00⟩:=cP a p 0 0 ha hp (by decide) (by decide);simp only[Int.natCast_zero]at b00;simp only[Int.natCast_zero]at d00;rw[rounds_succ];go_wp2
 go_quiet ((go_at_call 102;exact Calls.quiet_of_same (m00 _)));revert nq;intro nq00
 go_wp2_with (first|simp only[b00]|simp only[d00])
 obtain⟨h01,l01,s01,k01,o01,j01,g01,y01,m01,b01,d01,v01,z01,ho01,hy01,e01⟩:=cP a q 0 y00 ha hq (by decide) hy00;simp only[Int.natCast_zero]at d01;rw[rounds_succ];go_wp2
 go_quiet ((go_at_call 102;exact Calls.quiet_of_same (m01 _)));revert nq;intro nq01
 go_wp2_with (first|simp only[b01]|simp only[d01])
 obtain⟨h02,l02,s02,k02,o02,j02,g02,y02,m02,b02,d02,v02,z02,ho02,hy02,e02⟩:=cP a r 0 y01 ha hr (by decide) hy01;simp only[Int.natCast_zero]at d02;rw[rounds_succ];go_wp2
 go_quiet ((go_at_call 102;exact Calls.quiet_of_same (m02 _)));revert nq;intro nq02
 go_wp2_with (first|simp only[b02]|simp only[d02])
 obtain⟨h03,l03,s03,k03,o03,j03,g03,y03,m03,b03,d03,v03,z03,ho03,hy03,e03⟩:=cP a s 0 y02 ha hs (by decide) hy02;simp only[Int.natCast_zero]at d03;rw[rounds_succ];go_wp2
 go_quiet ((go_at_call 102;exact Calls.quiet_of_same (m03 _)));revert nq;intro nq03
 go_wp2_with (first|simp only[b03]|simp only[d03])
 rw[rounds_succ];go_wp2
 have R0:=nK (n:=val 0 0 0 0) (p:=0) (q:=0) (r:=0) (s:=0) (x:=a) (l0:=o00) (l1:=o01) (l2:=o02) (l3:=o03) en rfl e00 e01 e02 e03;have HR0:Hid _:=R0;clear R0;clear e00 e01 e02 e03 m00 b00 d00 v00 z00 m01 b01 d01 v01 z01 m02 b02 d02 v02 z02 m03 b03 d03 v03 z03;clear xc0 xc1 xc2 xc3 xf yc0 yc1 yc2 yc3 yf oc0 oc1 oc2 oc3 oc4 oc5 oc6 oc7 of;have X0:=(((((((((X).drewN nq00).other (o:=0) n03.symm (.int .u64 o00)).drewN nq01).other (o:=1) n03.symm (.int .u64 o01)).drewN nq02).other (o:=2) n03.symm (.int .u64 o02)).drewN nq03).other (o:=3) n03.symm (.int .u64 o03)).other (o:=4) n03.symm (.int .u64 y03);have Y0:=(((((((((Y).drewN nq00).other (o:=0) n13.symm (.int .u64 o00)).drewN nq01).other (o:=1) n13.symm (.int .u64 o01)).drewN nq02).other (o:=2) n13.symm (.int .u64 o02)).drewN nq03).other (o:=3) n13.symm (.int .u64 o03)).other (o:=4) n13.symm (.int .u64 y03);have RR0:=(((((((((R).drewN nq00).other (o:=0) n23.symm (.int .u64 o00)).drewN nq01).other (o:=1) n23.symm (.int .u64 o01)).drewN nq02).other (o:=2) n23.symm (.int .u64 o02)).drewN nq03).other (o:=3) n23.symm (.int .u64 o03)).other (o:=4) n23.symm (.int .u64 y03);have O0:=(((((((((O).drewN nq00).set0 o00).drewN nq01).set1 o01).drewN nq02).set2 o02).drewN nq03).set3 o03).set4 y03;have BL0:Hid (Below k0 w _):=((aT ((aT ((aT ((aT (BL.out) nq00).setCell (p:=⟨k3,0,none⟩) Q3.out (.int .u64 o00)) nq01).setCell (p:=⟨k3,1,none⟩) Q3.out (.int .u64 o01)) nq02).setCell (p:=⟨k3,2,none⟩) Q3.out (.int .u64 o02)) nq03).setCell (p:=⟨k3,3,none⟩) Q3.out (.int .u64 o03)).setCell (p:=⟨k3,4,none⟩) Q3.out (.int .u64 y03);generalize World.setCell _ _ _=W1 at X0 Y0 RR0 O0 BL0⊢;clear X Y R O BL;have X:=X0;have Y:=Y0;have R:=RR0;have O:=O0;have BL:=BL0;clear X0 Y0 RR0 O0 BL0;obtain⟨xc0,xc1,xc2,xc3,xf⟩:=id X;obtain⟨yc0,yc1,yc2,yc3,yf⟩:=id Y;obtain⟨oc0,oc1,oc2,oc3,oc4,oc5,oc6,oc7,of⟩:=id O;simp only[Int.natCast_zero]at oc5 oc6 oc7;rw[rounds_succ];go_wp2
 refine wp_loop_rounds 5 ?_;obtain⟨h10,l10,s10,k10,o10,j10,g10,y10,m10,b10,d10,v10,z10,ho10,hy10,e10⟩:=cP b p o01 0 hb hp ho01 (by decide);simp only[Int.natCast_zero]at b10;rw[rounds_succ];go_wp2
 go_quiet ((go_at_call 102;exact Calls.quiet_of_same (m10 _)));revert nq;intro nq10
 go_wp2_with (first|simp only[b10]|simp only[d10])
 obtain⟨h11,l11,s11,k11,o11,j11,g11,y11,m11,b11,d11,v11,z11,ho11,hy11,e11⟩:=cP b q o02 y10 hb hq ho02 hy10;rw[rounds_succ];go_wp2
 go_quiet ((go_at_call 102;exact Calls.quiet_of_same (m11 _)));revert nq;intro nq11
 go_wp2_with (first|simp only[b11]|simp only[d11])
 obtain⟨h12,l12,s12,k12,o12,j12,g12,y12,m12,b12,d12,v12,z12,ho12,hy12,e12⟩:=cP b r o03 y11 hb hr ho03 hy11;rw[rounds_succ];go_wp2
 go_quiet ((go_at_call 102;exact Calls.quiet_of_same (m12 _)));revert nq;intro nq12
 go_wp2_with (first|simp only[b12]|simp only[d12])
 obtain⟨h13,l13,s13,k13,o13,j13,g13,y13,m13,b13,d13,v13,z13,ho13,hy13,e13⟩:=cP b s y03 y12 hb hs hy03 hy12;rw[rounds_succ];go_wp2
 go_quiet ((go_at_call 102;exact Calls.quiet_of_same (m13 _)));revert nq;intro nq13
 go_wp2_with (first|simp only[b13]|simp only[d13])
 rw[rounds_succ];go_wp2
 have R1:=nK (n:=val o01 o02 o03 y03) (p:=o01) (q:=o02) (r:=o03) (s:=y03) (x:=b) (l0:=o10) (l1:=o11) (l2:=o12) (l3:=o13) en rfl e10 e11 e12 e13;have HR1:Hid _:=R1;clear R1;clear e10 e11 e12 e13 m10 b10 d10 v10 z10 m11 b11 d11 v11 z11 m12 b12 d12 v12 z12 m13 b13 d13 v13 z13;clear xc0 xc1 xc2 xc3 xf yc0 yc1 yc2 yc3 yf oc0 oc1 oc2 oc3 oc4 oc5 oc6 oc7 of;have X1:=(((((((((X).drewN nq10).other (o:=1) n03.symm (.int .u64 o10)).drewN nq11).other (o:=2) n03.symm (.int .u64 o11)).drewN nq12).other (o:=3) n03.symm (.int .u64 o12)).drewN nq13).other (o:=4) n03.symm (.int .u64 o13)).other (o:=5) n03.symm (.int .u64 y13);have Y1:=(((((((((Y).drewN nq10).other (o:=1) n13.symm (.int .u64 o10)).drewN nq11).other (o:=2) n13.symm (.int .u64 o11)).drewN nq12).other (o:=3) n13.symm (.int .u64 o12)).drewN nq13).other (o:=4) n13.symm (.int .u64 o13)).other (o:=5) n13.symm (.int .u64 y13);have RR1:=(((((((((R).drewN nq10).other (o:=1) n23.symm (.int .u64 o10)).drewN nq11).other (o:=2) n23.symm (.int .u64 o11)).drewN nq12).other (o:=3) n23.symm (.int .u64 o12)).drewN nq13).other (o:=4) n23.symm (.int .u64 o13)).other (o:=5) n23.symm (.int .u64 y13);have O1:=(((((((((O).drewN nq10).set1 o10).drewN nq11).set2 o11).drewN nq12).set3 o12).drewN nq13).set4 o13).set5 y13;have BL1:Hid (Below k0 w _):=((aT ((aT ((aT ((aT (BL.out) nq10).setCell (p:=⟨k3,1,none⟩) Q3.out (.int .u64 o10)) nq11).setCell (p:=⟨k3,2,none⟩) Q3.out (.int .u64 o11)) nq12).setCell (p:=⟨k3,3,none⟩) Q3.out (.int .u64 o12)) nq13).setCell (p:=⟨k3,4,none⟩) Q3.out (.int .u64 o13)).setCell (p:=⟨k3,5,none⟩) Q3.out (.int .u64 y13);generalize World.setCell _ _ _=W2 at X1 Y1 RR1 O1 BL1⊢;clear X Y R O BL;have X:=X1;have Y:=Y1;have R:=RR1;have O:=O1;have BL:=BL1;clear X1 Y1 RR1 O1 BL1;obtain⟨xc0,xc1,xc2,xc3,xf⟩:=id X;obtain⟨yc0,yc1,yc2,yc3,yf⟩:=id Y;obtain⟨oc0,oc1,oc2,oc3,oc4,oc5,oc6,oc7,of⟩:=id O;simp only[Int.natCast_zero]at oc6 oc7;rw[rounds_succ];go_wp2
 refine wp_loop_rounds 5 ?_;obtain⟨h20,l20,s20,k20,o20,j20,g20,y20,m20,b20,d20,v20,z20,ho20,hy20,e20⟩:=cP c p o11 0 hc hp ho11 (by decide);simp only[Int.natCast_zero]at b20;rw[rounds_succ];go_wp2
 go_quiet ((go_at_call 102;exact Calls.quiet_of_same (m20 _)));revert nq;intro nq20
 go_wp2_with (first|simp only[b20]|simp only[d20])
 obtain⟨h21,l21,s21,k21,o21,j21,g21,y21,m21,b21,d21,v21,z21,ho21,hy21,e21⟩:=cP c q o12 y20 hc hq ho12 hy20;rw[rounds_succ];go_wp2
 go_quiet ((go_at_call 102;exact Calls.quiet_of_same (m21 _)));revert nq;intro nq21
 go_wp2_with (first|simp only[b21]|simp only[d21])
 obtain⟨h22,l22,s22,k22,o22,j22,g22,y22,m22,b22,d22,v22,z22,ho22,hy22,e22⟩:=cP c r o13 y21 hc hr ho13 hy21;rw[rounds_succ];go_wp2
 go_quiet ((go_at_call 102;exact Calls.quiet_of_same (m22 _)));revert nq;intro nq22
 go_wp2_with (first|simp only[b22]|simp only[d22])
 obtain⟨h23,l23,s23,k23,o23,j23,g23,y23,m23,b23,d23,v23,z23,ho23,hy23,e23⟩:=cP c s y13 y22 hc hs hy13 hy22;rw[rounds_succ];go_wp2
 go_quiet ((go_at_call 102;exact Calls.quiet_of_same (m23 _)));revert nq;intro nq23
 go_wp2_with (first|simp only[b23]|simp only[d23])
 rw[rounds_succ];go_wp2
 have R2:=nK (n:=val o11 o12 o13 y13) (p:=o11) (q:=o12) (r:=o13) (s:=y13) (x:=c) (l0:=o20) (l1:=o21) (l2:=o22) (l3:=o23) en rfl e20 e21 e22 e23;have HR2:Hid _:=R2;clear R2;clear e20 e21 e22 e23 m20 b20 d20 v20 z20 m21 b21 d21 v21 z21 m22 b22 d22 v22 z22 m23 b23 d23 v23 z23;clear xc0 xc1 xc2 xc3 xf yc0 yc1 yc2 yc3 yf oc0 oc1 oc2 oc3 oc4 oc5 oc6 oc7 of;have X2:=(((((((((X).drewN nq20).other (o:=2) n03.symm (.int .u64 o20)).drewN nq21).other (o:=3) n03.symm (.int .u64 o21)).drewN nq22).other (o:=4) n03.symm (.int .u64 o22)).drewN nq23).other (o:=5) n03.symm (.int .u64 o23)).other (o:=6) n03.symm (.int .u64 y23);have Y2:=(((((((((Y).drewN nq20).other (o:=2) n13.symm (.int .u64 o20)).drewN nq21).other (o:=3) n13.symm (.int .u64 o21)).drewN nq22).other (o:=4) n13.symm (.int .u64 o22)).drewN nq23).other (o:=5) n13.symm (.int .u64 o23)).other (o:=6) n13.symm (.int .u64 y23);have RR2:=(((((((((R).drewN nq20).other (o:=2) n23.symm (.int .u64 o20)).drewN nq21).other (o:=3) n23.symm (.int .u64 o21)).drewN nq22).other (o:=4) n23.symm (.int .u64 o22)).drewN nq23).other (o:=5) n23.symm (.int .u64 o23)).other (o:=6) n23.symm (.int .u64 y23);have O2:=(((((((((O).drewN nq20).set2 o20).drewN nq21).set3 o21).drewN nq22).set4 o22).drewN nq23).set5 o23).set6 y23;have BL2:Hid (Below k0 w _):=((aT ((aT ((aT ((aT (BL.out) nq20).setCell (p:=⟨k3,2,none⟩) Q3.out (.int .u64 o20)) nq21).setCell (p:=⟨k3,3,none⟩) Q3.out (.int .u64 o21)) nq22).setCell (p:=⟨k3,4,none⟩) Q3.out (.int .u64 o22)) nq23).setCell (p:=⟨k3,5,none⟩) Q3.out (.int .u64 o23)).setCell (p:=⟨k3,6,none⟩) Q3.out (.int .u64 y23);generalize World.setCell _ _ _=W3 at X2 Y2 RR2 O2 BL2⊢;clear X Y R O BL;have X:=X2;have Y:=Y2;have R:=RR2;have O:=O2;have BL:=BL2;clear X2 Y2 RR2 O2 BL2;obtain⟨xc0,xc1,xc2,xc3,xf⟩:=id X;obtain⟨yc0,yc1,yc2,yc3,yf⟩:=id Y;obtain⟨oc0,oc1,oc2,oc3,oc4,oc5,oc6,oc7,of⟩:=id O;simp only[Int.natCast_zero]at oc7;rw[rounds_succ];go_wp2
 refine wp_loop_rounds 5 ?_;obtain⟨h30,l30,s30,k30,o30,j30,g30,y30,m30,b30,d30,v30,z30,ho30,hy30,e30⟩:=cP d p o21 0 hd hp ho21 (by decide);simp only[Int.natCast_zero]at b30;rw[rounds_succ];go_wp2
 go_quiet ((go_at_call 102;exact Calls.quiet_of_same (m30 _)));revert nq;intro nq30
 go_wp2_with (first|simp only[b30]|simp only[d30])
 obtain⟨h31,l31,s31,k31,o31,j31,g31,y31,m31,b31,d31,v31,z31,ho31,hy31,e31⟩:=cP d q o22 y30 hd hq ho22 hy30;rw[rounds_succ];go_wp2
 go_quiet ((go_at_call 102;exact Calls.quiet_of_same (m31 _)));revert nq;intro nq31
 go_wp2_with (first|simp only[b31]|simp only[d31])
 obtain⟨h32,l32,s32,k32,o32,j32,g32,y32,m32,b32,d32,v32,z32,ho32,hy32,e32⟩:=cP d r o23 y31 hd hr ho23 hy31;rw[rounds_succ];go_wp2
 go_quiet ((go_at_call 102;exact Calls.quiet_of_same (m32 _)));revert nq;intro nq32
 go_wp2_with (first|simp only[b32]|simp only[d32])
 obtain⟨h33,l33,s33,k33,o33,j33,g33,y33,m33,b33,d33,v33,z33,ho33,hy33,e33⟩:=cP d s y23 y32 hd hs hy23 hy32;rw[rounds_succ];go_wp2
 go_quiet ((go_at_call 102;exact Calls.quiet_of_same (m33 _)));revert nq;intro nq33
 go_wp2_with (first|simp only[b33]|simp only[d33])
 rw[rounds_succ];go_wp2
 have R3:=nK (n:=val o21 o22 o23 y23) (p:=o21) (q:=o22) (r:=o23) (s:=y23) (x:=d) (l0:=o30) (l1:=o31) (l2:=o32) (l3:=o33) en rfl e30 e31 e32 e33;have HR3:Hid _:=R3;clear R3;clear e30 e31 e32 e33 m30 b30 d30 v30 z30 m31 b31 d31 v31 z31 m32 b32 d32 v32 z32 m33 b33 d33 v33 z33;clear xc0 xc1 xc2 xc3 xf yc0 yc1 yc2 yc3 yf oc0 oc1 oc2 oc3 oc4 oc5 oc6 oc7 of;have X3:=(((((((((X).drewN nq30).other (o:=3) n03.symm (.int .u64 o30)).drewN nq31).other (o:=4) n03.symm (.int .u64 o31)).drewN nq32).other (o:=5) n03.symm (.int .u64 o32)).drewN nq33).other (o:=6) n03.symm (.int .u64 o33)).other (o:=7) n03.symm (.int .u64 y33);have Y3:=(((((((((Y).drewN nq30).other (o:=3) n13.symm (.int .u64 o30)).drewN nq31).other (o:=4) n13.symm (.int .u64 o31)).drewN nq32).other (o:=5) n13.symm (.int .u64 o32)).drewN nq33).other (o:=6) n13.symm (.int .u64 o33)).other (o:=7) n13.symm (.int .u64 y33);have RR3:=(((((((((R).drewN nq30).other (o:=3) n23.symm (.int .u64 o30)).drewN nq31).other (o:=4) n23.symm (.int .u64 o31)).drewN nq32).other (o:=5) n23.symm (.int .u64 o32)).drewN nq33).other (o:=6) n23.symm (.int .u64 o33)).other (o:=7) n23.symm (.int .u64 y33);have O3:=(((((((((O).drewN nq30).set3 o30).drewN nq31).set4 o31).drewN nq32).set5 o32).drewN nq33).set6 o33).set7 y33;have BL3:Hid (Below k0 w _):=((aT ((aT ((aT ((aT (BL.out) nq30).setCell (p:=⟨k3,3,none⟩) Q3.out (.int .u64 o30)) nq31).setCell (p:=⟨k3,4,none⟩) Q3.out (.int .u64 o31)) nq32).setCell (p:=⟨k3,5,none⟩) Q3.out (.int .u64 o32)) nq33).setCell (p:=⟨k3,6,none⟩) Q3.out (.int .u64 o33)).setCell (p:=⟨k3,7,none⟩) Q3.out (.int .u64 y33);generalize World.setCell _ _ _=W4 at X3 Y3 RR3 O3 BL3⊢;clear X Y R O BL;have X:=X3;have Y:=Y3;have R:=RR3;have O:=O3;have BL:=BL3;clear X3 Y3 RR3 O3 BL3;obtain⟨oc0,oc1,oc2,oc3,oc4,oc5,oc6,oc7,of⟩:=id O;obtain⟨rc0,rc1,rc2,rc3,rc4,rc5,rc6,rc7,rf⟩:=id R;have z3:=O.lt;have z2:=R.lt;rw[rounds_succ];go_wp2
 have RF:=R.self8 o00 o10 o20 o30 o31 o32 o33 y33;unfold yD at RF;refine bodyPost_ret (v:=?v) ?hr rfl ?hR
 case hr=>simp[results,Tryz.results69,go_sem,RF.c0,RF.c1,RF.c2,RF.c3,RF.c4,RF.c5,RF.c6,RF.c7];rfl
 refine⟨_,rfl,?_,o00,o10,o20,o30,o31,o32,o33,y33,rfl,ho00,ho10,ho20,ho30,ho31,ho32,ho33,hy33,?_⟩
 ·rw[H0.out];exact qK BL.out Q2.out _ _ _ _ _ _ _ _
 ·rw[em];exact D5 HR0.out HR1.out HR2.out HR3.out
end
section
open Go.RowKit Go.Sort
structure LessI(w wr:World)(p0 p1 p2 p3 c0 c1 c2 c3 a b c d e f g h:Nat):Prop where
 bl:Below w.heap.size w wr
 fr:At8 wr w.heap.size p0 p1 p2 p3 c0 c1 c2 c3
 wi:At8 wr (w.heap.size+1) a b c d e f g h
 re:At4 wr (w.heap.size+1+1) 0 0 0 0
 ha:a<18446744073709551616
 hb:b<18446744073709551616
 hc:c<18446744073709551616
 hd:d<18446744073709551616
 he:e<18446744073709551616
 hf:f<18446744073709551616
 hg:g<18446744073709551616
 hh:h<18446744073709551616
theorem Bf{x y:Nat}(hx:x<top)(hy:y<top):x*y+top<=top*top:=by
 have h1:x*y<=(top-1)*(top-1):=Nat.mul_le_mul (by omega) (by omega);have h2:(top-1)*(top-1)+top<=top*top:=by unfold top;decide
 omega
section
variable {w w0:World}{k a b c d e f g h j B:Nat}
theorem Ag(H:Below B w0 w)(hj:B<=j)(x0 x1 x2 x3 x4 x5 x6 x7:Value):Below B w0 ((((((((w.setCell ⟨j,0,none⟩ x0).setCell ⟨j,1,none⟩ x1).setCell ⟨j,2,none⟩ x2).setCell ⟨j,3,none⟩ x3).setCell ⟨j,4,none⟩ x4).setCell ⟨j,5,none⟩ x5).setCell ⟨j,6,none⟩ x6).setCell ⟨j,7,none⟩ x7):=qK H hj x0 x1 x2 x3 x4 x5 x6 x7
theorem At8.other8x(H:At8 w k a b c d e f g h)(hj:j≠k)(x0 x1 x2 x3 x4 x5 x6 x7:Value):At8 ((((((((w.setCell ⟨j,0,none⟩ x0).setCell ⟨j,1,none⟩ x1).setCell ⟨j,2,none⟩ x2).setCell ⟨j,3,none⟩ x3).setCell ⟨j,4,none⟩ x4).setCell ⟨j,5,none⟩ x5).setCell ⟨j,6,none⟩ x6).setCell ⟨j,7,none⟩ x7) k a b c d e f g h:=H.other8 hj x0 x1 x2 x3 x4 x5 x6 x7
theorem At4.other8x(H:At4 w k a b c d)(hj:j≠k)(x0 x1 x2 x3 x4 x5 x6 x7:Value):At4 ((((((((w.setCell ⟨j,0,none⟩ x0).setCell ⟨j,1,none⟩ x1).setCell ⟨j,2,none⟩ x2).setCell ⟨j,3,none⟩ x3).setCell ⟨j,4,none⟩ x4).setCell ⟨j,5,none⟩ x5).setCell ⟨j,6,none⟩ x6).setCell ⟨j,7,none⟩ x7) k a b c d:=H.other8 hj x0 x1 x2 x3 x4 x5 x6 x7
theorem At8.self8x(H:At8 w k a b c d e f g h)(x0 x1 x2 x3 x4 x5 x6 x7:Nat):At8 ((((((((w.setCell ⟨k,0,none⟩ (.int .u64 x0)).setCell ⟨k,1,none⟩ (.int .u64 x1)).setCell ⟨k,2,none⟩ (.int .u64 x2)).setCell ⟨k,3,none⟩ (.int .u64 x3)).setCell ⟨k,4,none⟩ (.int .u64 x4)).setCell ⟨k,5,none⟩ (.int .u64 x5)).setCell ⟨k,6,none⟩ (.int .u64 x6)).setCell ⟨k,7,none⟩ (.int .u64 x7)) k x0 x1 x2 x3 x4 x5 x6 x7:=H.self8 x0 x1 x2 x3 x4 x5 x6 x7
end
theorem sM{w W:World}{k0 k1 k2 p0 p1 p2 p3 c0 c1 c2 c3 a b c d e f g h:Nat}(H:Kept w k0 [⟨k0,0,p0,p1,p2,p3⟩,⟨k0,4,c0,c1,c2,c3⟩,⟨k1,0,a,b,c,d⟩,⟨k1,4,e,f,g,h⟩,⟨k2,0,0,0,0,0⟩] W):W.cell? ⟨k0,4,none⟩=some (.int .u64 c0)/\W.cell? ⟨k0,5,none⟩=some (.int .u64 c1)/\W.cell? ⟨k0,6,none⟩=some (.int .u64 c2)/\W.cell? ⟨k0,7,none⟩=some (.int .u64 c3)/\W.cell? ⟨k1,0,none⟩=some (.int .u64 a)/\W.cell? ⟨k1,1,none⟩=some (.int .u64 b)/\W.cell? ⟨k1,2,none⟩=some (.int .u64 c)/\W.cell? ⟨k1,3,none⟩=some (.int .u64 d)/\W.cell? ⟨k1,4,none⟩=some (.int .u64 e)/\W.cell? ⟨k1,5,none⟩=some (.int .u64 f)/\W.cell? ⟨k1,6,none⟩=some (.int .u64 g)/\W.cell? ⟨k1,7,none⟩=some (.int .u64 h)/\Kept w k0 [⟨k0,0,p0,p1,p2,p3⟩,⟨k0,4,c0,c1,c2,c3⟩,⟨k1,0,a,b,c,d⟩,⟨k1,4,e,f,g,h⟩,⟨k2,0,0,0,0,0⟩] W:=
 ⟨H.tail.head.c0,H.tail.head.c1,H.tail.head.c2,H.tail.head.c3,H.tail.tail.head.c0,H.tail.tail.head.c1,H.tail.tail.head.c2,H.tail.tail.head.c3,H.tail.tail.tail.head.c0,H.tail.tail.tail.head.c1,H.tail.tail.tail.head.c2,H.tail.tail.tail.head.c3,H⟩
theorem or4(a b c d:Nat)(ha:a<18446744073709551616)(hb:b<18446744073709551616)(hc:c<18446744073709551616)(hd:d<18446744073709551616):
 ∃o:Nat,bits .or .u64 (bits .or .u64 (bits .or .u64 (a:Int) (b:Int)) (c:Int)) (d:Int)=(o:Int)/\(o=0↔(a=0/\b=0/\c=0/\d=0)):=by
 have lt:∀x y:Nat,x<18446744073709551616->y<18446744073709551616->x ||| y<18446744073709551616:=fun x y hx hy=>Nat.or_lt_two_pow (n:=64) hx hy
 refine⟨a ||| b ||| c ||| d,?_,?_⟩
 ·rw[bits_or_u64_nat a b ha hb,bits_or_u64_nat _ c (lt _ _ ha hb) hc,bits_or_u64_nat _ d (lt _ _ (lt _ _ ha hb) hc) hd]
 ·constructor
  ·intro h;have h1:=Nat.left_le_or (n:=a ||| b ||| c) (m:=d);have h2:=Nat.right_le_or (n:=a ||| b ||| c) (m:=d);have h3:=Nat.left_le_or (n:=a ||| b) (m:=c);have h4:=Nat.right_le_or (n:=a ||| b) (m:=c);have h5:=Nat.left_le_or (n:=a) (m:=b);have h6:=Nat.right_le_or (n:=a) (m:=b);omega
  ·rintro⟨rfl,rfl,rfl,rfl⟩;rfl
theorem D3{lo hi cc P gk:Nat}(hP:P+cc=top)(hP2:top<2*P)(hpos:0<hi)(hg:gk=lo+top*hi):hi*cc+lo<gk/\(hi*cc+lo)%P=gk%P:=by
 have e:gk=hi*cc+lo+P*hi:=by rw[hg,<-hP,Nat.add_mul,Nat.mul_comm cc];omega
 rw[e,Nat.add_mul_mod_self_left];have:0<P*hi:=Nat.mul_pos (by omega) hpos;exact⟨by omega,rfl⟩
theorem uP(p0 p1 p2 p3 c0 c1 c2 c3 P:Nat)(x:Value)(m:Nat)(hp0:p0<18446744073709551616)(hp1:p1<18446744073709551616)(hp2:p2<18446744073709551616)(hp3:p3<18446744073709551616)
 (hc0:c0<18446744073709551616) (hc1:c1<18446744073709551616) (hc2:c2<18446744073709551616) (hc3:c3<18446744073709551616) (eP:P=val p0 p1 p2 p3) (hP:P+val c0 c1 c2 c3=top) (hP2:top<2*P) (hx:mK x m) (w:World) :
 Calls prog 68 #[.agg #[.int .u64 p0,.int .u64 p1,.int .u64 p2,.int .u64 p3,.int .u64 c0,.int .u64 c1,.int .u64 c2,.int .u64 c3],x] w (Ret fun e w'=>Below w.heap.size w w'/\Four e (m%P)):=by
 obtain⟨a,b,c,d,e,f,g,h,rfl,ha,hb,hc,hd,he,hf,hg,hh,em⟩:=hx;go_enter Tryz.func68,Tryz.ntmps68;go_wp2;have HEP:Hid (P=val p0 p1 p2 p3):=eP;clear eP;go_loopg [] (val a b c d+top*val e f g h) (fun gk wr=>∃(a b c d e f g h:Nat),LessI w wr p0 p1 p2 p3 c0 c1 c2 c3 a b c d e f g h/\gk=val a b c d+top*val e f g h/\Hid (gk%P=m%P))
 case atStart =>
  refine⟨a,b,c,d,e,f,g,h,⟨below3 _ _ _ _,?_,?_,?_,ha,hb,hc,hd,he,hf,hg,hh⟩,rfl,?_⟩
  ·exact(((At8.made w 65 p0 p1 p2 p3 c0 c1 c2 c3 rfl).alloc _).alloc _)
  ·exact(At8.made (w.alloc _) 106 a b c d e f g h (World.size_alloc _ _)).alloc _
  ·exact At4.made ((w.alloc _).alloc _) 37 0 0 0 0 (by simp)
  ·rw[em];rfl
 case round =>
  obtain⟨a,b,c,d,e,f,g,h,hI,hgk,HE⟩:=hrel;clear em ha hb hc hd he hf hg hh;obtain⟨bl,fr,wi,re,ha,hb,hc,hd,he,hf,hg,hh⟩:=hI;have HB:Hid (Below w.heap.size w wr):=bl;clear bl;generalize q2:w.heap.size+1+1=k2 at re⊢;generalize q1:w.heap.size+1=k1 at wi⊢;have H:Hid (w.heap.size+1=k1/\w.heap.size+1+1=k2):=⟨q1,q2⟩
  have Q1:Hid (w.heap.size<=k1):=by unfold Hid;omega
  have Q2:Hid (w.heap.size<=k2):=by unfold Hid;omega
  generalize q0:w.heap.size=k0 at fr HB Q1 Q2⊢;have H0:Hid (w.heap.size=k0):=q0;have n01:k0≠k1:=by omega
  have n02:k0≠k2:=by omega
  have n12:k1≠k2:=by omega
  have z0:=fr.lt;have z1:=wi.lt;have z2:=re.lt;clear q0 q1 q2;obtain⟨o,ho,hoz⟩:=or4 e f g h he hf hg hh;obtain⟨fc0,fc1,fc2,fc3,fc4,fc5,fc6,fc7,ff⟩:=id fr;obtain⟨wc0,wc1,wc2,wc3,wc4,wc5,wc6,wc7,wf⟩:=id wi;obtain⟨rc0,rc1,rc2,rc3,rf⟩:=id re;by_cases hz:o=0
  ·obtain⟨rfl,rfl,rfl,rfl⟩:=hoz.1 hz;have hlow:gk=val a b c d:=by rw[hgk];rfl
   have HE2:Hid (val a b c d%P=m%P):=by unfold Hid;rw[<-hlow];exact HE.out
   clear hgk HE hoz hlow;subst hz;go_wp2;have N:=At4.made wr 37 a b c d rfl;have M0:k0≠wr.heap.size:=Nat.ne_of_lt z0;have M2:k2≠wr.heap.size:=Nat.ne_of_lt z2;have M5:Hid (k0<=wr.heap.size):=Nat.le_of_lt z0;have HB0:Hid (Below k0 w _):=HB.out.alloc (Nat.le_of_lt z0) (.cells #[.int .u64 a,.int .u64 b,.int .u64 c,.int .u64 d] 37);replace fr:=fr.alloc (.cells #[.int .u64 a,.int .u64 b,.int .u64 c,.int .u64 d] 37);replace re:=re.alloc (.cells #[.int .u64 a,.int .u64 b,.int .u64 c,.int .u64 d] 37);clear wi fc0 fc1 fc2 fc3 fc4 fc5 fc6 fc7 ff wc0 wc1 wc2 wc3 wc4 wc5 wc6 wc7 wf rc0 rc1 rc2 rc3 rf z0 z1 z2 HB ho;generalize World.alloc _ _=W0 at N fr re HB0⊢;generalize wr.heap.size=k5 at N M0 M2 M5⊢;have hB4:Hid (a<18446744073709551616/\b<18446744073709551616/\c<18446744073709551616/\d<18446744073709551616):=⟨ha,hb,hc,hd⟩
   have HPP:Hid (0<P):=by unfold Hid;have:=hP2;omega
   clear ha hb hc hd hP hP2;have KP:Kept w k0 [⟨k5,0,a,b,c,d⟩,⟨k0,0,p0,p1,p2,p3⟩,⟨k2,0,0,0,0,0⟩] W0:=
    (((Kept.mk1 HB0.out (Nat.le_of_lt fr.lt)).cons re.blk).cons (x:=⟨k0,0,p0,p1,p2,p3⟩) ⟨fr.c0,fr.c1,fr.c2,fr.c3,fr.fz⟩).cons N.blk
   clear fr re N HB0;go_loopg [] (val a b c d) (fun gk2 wr2=>∃(a b c d:Nat),gk2=val a b c d/\Kept w k0 [⟨k5,0,a,b,c,d⟩,⟨k0,0,p0,p1,p2,p3⟩,⟨k2,0,0,0,0,0⟩] wr2/\Hid (a<18446744073709551616/\b<18446744073709551616/\c<18446744073709551616/\d<18446744073709551616)/\Hid (val a b c d%P=m%P))
   case atStart=>exact⟨a,b,c,d,rfl,KP,hB4,HE2⟩
   case round =>
    clear KP hB4 HE2;obtain⟨a,b,c,d,hgk2,KP,hB4,HE2⟩:=hrel;obtain⟨xc0,xc1,xc2,xc3,xf⟩:=KP.head.at4;obtain⟨pc0,pc1,pc2,pc3,pf⟩:=KP.tail.head.at4;have z5:=KP.head.lt;have z0:=KP.tail.head.lt;go_wp2_with fail
    refine(lO _ _ _ _ (Four.mk hB4.out.1 hB4.out.2.1 hB4.out.2.2.1 hB4.out.2.2.2 rfl) (Four.mk hp0 hp1 hp2 hp3 rfl) _).mono ?_;rintro r w2 ⟨v,rfl,hb2,v2,t2,j,rfl,⟨a2,b2,c2,d2,rfl,ha2,hb2',hc2,hd2,es2⟩,hj,he2⟩;clear xc0 xc1 xc2 xc3 xf pc0 pc1 pc2 pc3 pf z5 z0;replace KP:=KP.call hb2;clear hb2;have HE3:Hid (val a2 b2 c2 d2+P=val a b c d+top*j):=by unfold Hid;rw[<-es2,HEP.out];exact he2
    clear he2 es2;have hj':j=0\/j=1:=by omega
    rcases hj' with rfl|rfl
    ·obtain⟨xc0,xc1,xc2,xc3,xf⟩:=KP.head.at4;have z5:=KP.head.lt;go_wp2;go_roundg (val a2 b2 c2 d2)
     case measure=>have:=HE3.out;have:=HPP.out;omega
     case rel =>
      refine⟨a2,b2,c2,d2,rfl,?_,⟨ha2,hb2',hc2,hd2⟩,?_⟩
      ·exact(KP.put M5.out (by simp only[List.mem_cons,List.not_mem_nil,or_false];rintro x (rfl|rfl);exact M0.symm;exact M2.symm) a2 b2 c2 d2).alloc _
      ·unfold Hid;rw[<-HE2.out,show val a b c d=val a2 b2 c2 d2+P by have:=HE3.out;omega,Nat.add_mod_right]
    ·obtain⟨xc0,xc1,xc2,xc3,xf⟩:=KP.head.at4;obtain⟨rc0,rc1,rc2,rc3,rf⟩:=KP.tail.tail.head.at4;have z5:=KP.head.lt;have z3:=KP.tail.tail.head.lt;go_wp2;have RF:=(KP.tail.tail.head.at4.self4 a b c d).alloc (.cells #[.int .u64 a2,.int .u64 b2,.int .u64 c2,.int .u64 d2] 37);unfold set4 at RF;refine bodyPost_ret (v:=?v) ?hr rfl ?hR
     case hr=>simp[results,Tryz.results68,go_sem,RF.c0,RF.c1,RF.c2,RF.c3];rfl
     refine⟨_,rfl,?_,Four.mk hB4.out.1 hB4.out.2.1 hB4.out.2.2.1 hB4.out.2.2.2 ?_⟩
     ·rw[H0.out];exact(aF KP.bl Q2.out _ _ _ _).alloc (by rw[Dw];exact KP.le) _
     ·rw[<-HE2.out,Nat.mod_eq_of_lt (by have:=HE3.out;have:=fN ha2 hb2' hc2 hd2;omega)]
  ·have hpos:0<val e f g h:=by
    rcases Nat.eq_zero_or_pos (val e f g h)with h0|h0
    ·exact absurd (hoz.2 (by unfold val at h0;omega)) hz
    ·exact h0
   have HL:Hid (_/\_):=D3 hP hP2 hpos hgk;clear hoz hgk hpos;go_wp2;have KP:Kept w k0 [⟨k0,0,p0,p1,p2,p3⟩,⟨k0,4,c0,c1,c2,c3⟩,⟨k1,0,a,b,c,d⟩,⟨k1,4,e,f,g,h⟩,⟨k2,0,0,0,0,0⟩] wr:=
    (((((Kept.mk1 HB.out (Nat.le_of_lt z0)).cons re.blk).cons (x:=⟨k1,4,e,f,g,h⟩) ⟨wi.c4,wi.c5,wi.c6,wi.c7,wi.fz⟩).cons (x:=⟨k1,0,a,b,c,d⟩) ⟨wi.c0,wi.c1,wi.c2,wi.c3,wi.fz⟩).cons (x:=⟨k0,4,c0,c1,c2,c3⟩) ⟨fr.c4,fr.c5,fr.c6,fr.c7,fr.fz⟩).cons (x:=⟨k0,0,p0,p1,p2,p3⟩) ⟨fr.c0,fr.c1,fr.c2,fr.c3,fr.fz⟩
   clear HEP rc0 rc1 rc2 rc3 rf fc0 fc1 fc2 fc3 fr wi re HB;refine anyTill.begin (fun w'=>w'.cell? ⟨k0,4,none⟩=some (.int .u64 c0)/\w'.cell? ⟨k0,5,none⟩=some (.int .u64 c1)/\w'.cell? ⟨k0,6,none⟩=some (.int .u64 c2)/\w'.cell? ⟨k0,7,none⟩=some (.int .u64 c3)/\w'.cell? ⟨k1,0,none⟩=some (.int .u64 a)/\w'.cell? ⟨k1,1,none⟩=some (.int .u64 b)/\w'.cell? ⟨k1,2,none⟩=some (.int .u64 c)/\w'.cell? ⟨k1,3,none⟩=some (.int .u64 d)/\w'.cell? ⟨k1,4,none⟩=some (.int .u64 e)/\w'.cell? ⟨k1,5,none⟩=some (.int .u64 f)/\w'.cell? ⟨k1,6,none⟩=some (.int .u64 g)/\w'.cell? ⟨k1,7,none⟩=some (.int .u64 h)/\Kept w k0 [⟨k0,0,p0,p1,p2,p3⟩,⟨k0,4,c0,c1,c2,c3⟩,⟨k1,0,a,b,c,d⟩,⟨k1,4,e,f,g,h⟩,⟨k2,0,0,0,0,0⟩] w') 22 mixed (sM KP.drew) (fun hS=>?_);refine anyTill.tk (i:=0) (v:=?_) rfl (Or.inl ⟨by rfl,?_⟩) hS ?_
   rotate_left
   ·intro w hSw
    (try dsimp only at hSw)
    go_simp;try(with_reducible rfl)
   simp only[Act.put,List.setIfInBounds_toArray];refine anyTill.tk (i:=1) (v:=?_) rfl (Or.inl ⟨by rfl,?_⟩) hS ?_
   rotate_left
   ·intro w hSw
    (try dsimp only at hSw)
    go_simp;try(with_reducible rfl)
   simp only[Act.put];refine anyTill.tk (i:=2) (v:=?_) rfl (Or.inl ⟨by rfl,?_⟩) hS ?_
   rotate_left
   ·intro w hSw
    (try dsimp only at hSw)
    go_simp;try(with_reducible rfl)
   simp only[Act.put];refine anyTill.tk (i:=3) (v:=?_) rfl (Or.inl ⟨by rfl,?_⟩) hS ?_
   rotate_left
   ·intro w hSw
    (try dsimp only at hSw)
    go_simp;try(with_reducible rfl)
   simp only[Act.put];refine anyTill.tk (i:=4) (v:=?_) rfl (Or.inl ⟨by rfl,?_⟩) hS ?_
   rotate_left
   ·intro w hSw
    (try dsimp only at hSw)
    go_simp;try(with_reducible rfl)
   simp only[Act.put];refine anyTill.tk (i:=5) (v:=?_) rfl (Or.inl ⟨by rfl,?_⟩) hS ?_
   rotate_left
   ·intro w hSw
    (try dsimp only at hSw)
    go_simp;try(with_reducible rfl)
   simp only[Act.put];refine anyTill.tk (i:=6) (v:=?_) rfl (Or.inl ⟨by rfl,?_⟩) hS ?_
   rotate_left
   ·intro w hSw
    (try dsimp only at hSw)
    go_simp;try(with_reducible rfl)
   simp only[Act.put];refine anyTill.tk (i:=7) (v:=?_) rfl (Or.inl ⟨by rfl,?_⟩) hS ?_
   rotate_left
   ·intro w hSw
    (try dsimp only at hSw)
    go_simp;try(with_reducible rfl)
   simp only[Act.put];refine anyTill.tk (i:=8) (v:=?_) rfl (Or.inl ⟨by rfl,?_⟩) hS ?_
   rotate_left
   ·intro w hSw
    (try dsimp only at hSw)
    go_simp;try(with_reducible rfl)
   simp only[Act.put];refine anyTill.tk (i:=9) (v:=?_) rfl (Or.inl ⟨by rfl,?_⟩) hS ?_
   rotate_left
   ·intro w hSw
    (try dsimp only at hSw)
    go_simp;try(with_reducible rfl)
   simp only[Act.put];refine anyTill.tk (i:=10) (v:=?_) rfl (Or.inl ⟨by rfl,?_⟩) hS ?_
   rotate_left
   ·intro w hSw
    (try dsimp only at hSw)
    go_simp;try(with_reducible rfl)
   simp only[Act.put];refine anyTill.tk (i:=12) (v:=?_) rfl (Or.inl ⟨by rfl,?_⟩) hS ?_
   rotate_left
   ·intro w hSw
    (try dsimp only at hSw)
    go_simp;try(with_reducible rfl)
   simp only[Act.put];refine anyTill.tk (i:=13) (v:=?_) rfl (Or.inl ⟨by rfl,?_⟩) hS ?_
   rotate_left
   ·intro w hSw
    (try dsimp only at hSw)
    go_simp;try(with_reducible rfl)
   simp only[Act.put];refine anyTill.tk (i:=14) (v:=?_) rfl (Or.inl ⟨by rfl,?_⟩) hS ?_
   rotate_left
   ·intro w hSw
    (try dsimp only at hSw)
    go_simp;try(with_reducible rfl)
   simp only[Act.put];refine anyTill.tk (i:=15) (v:=?_) rfl (Or.inl ⟨by rfl,?_⟩) hS ?_
   rotate_left
   ·intro w hSw
    (try dsimp only at hSw)
    go_simp;try(with_reducible rfl)
   simp only[Act.put];refine anyTill.tk (i:=16) (v:=?_) rfl (Or.inl ⟨by rfl,?_⟩) hS ?_
   rotate_left
   ·intro w hSw
    (try dsimp only at hSw)
    go_simp;try(with_reducible rfl)
   simp only[Act.put];refine anyTill.tk (i:=17) (v:=?_) rfl (Or.inl ⟨by rfl,?_⟩) hS ?_
   rotate_left
   ·intro w hSw
    (try dsimp only at hSw)
    go_simp;try(with_reducible rfl)
   simp only[Act.put];refine anyTill.tk (i:=18) (v:=?_) rfl (Or.inl ⟨by rfl,?_⟩) hS ?_
   rotate_left
   ·intro w hSw
    (try dsimp only at hSw)
    go_simp;try(with_reducible rfl)
   simp only[Act.put];refine anyTill.tk (i:=19) (v:=?_) rfl (Or.inl ⟨by rfl,?_⟩) hS ?_
   rotate_left
   ·intro w hSw
    (try dsimp only at hSw)
    go_simp;try(with_reducible rfl)
   simp only[Act.put];refine anyTill.tk (i:=20) (v:=?_) rfl (Or.inl ⟨by rfl,?_⟩) hS ?_
   rotate_left
   ·intro w hSw
    (try dsimp only at hSw)
    go_simp;try(with_reducible rfl)
   simp only[Act.put];refine anyTill.step (i:=11) rfl (by kernel_rfl) (fun K hK=>?_);go_simp;refine(nJ _ _ _ _ (Four.mk he hf hg hh rfl) (Four.mk hc0 hc1 hc2 hc3 rfl) _).mono ?_;rintro r w1 ⟨v,rfl,hb1,hE1⟩;obtain⟨x0,x1,x2,x3,x4,x5,x6,x7,rfl,hx0,hx1,hx2,hx3,hx4,hx5,hx6,hx7,hxe⟩:=id hE1;clear hxe hS;have KP1:=KP.drew.call hb1;clear hb1 KP;refine hK.out _ _ (fun _=>sM KP1) ?_;clear hK K;try simp only[Act.put,List.setIfInBounds_toArray,List.set_cons_zero,List.set_cons_succ]
   refine anyTill.step (i:=21) rfl (by kernel_rfl) (fun K hK=>?_);go_simp;refine(uJ _ _ _ _ hE1 ⟨a,b,c,d,0,0,0,0,rfl,ha,hb,hc,hd,by decide,by decide,by decide,by decide,rfl⟩ (by have h1:=Bf (fN he hf hg hh) (fN hc0 hc1 hc2 hc3);have h2:=fN ha hb hc hd;have e0:val 0 0 0 0=0:=rfl;rw[e0,Nat.mul_zero,Nat.add_zero];omega) _).mono ?_;rintro r w2 ⟨v,rfl,hb2,hE2⟩;obtain⟨y0,y1,y2,y3,y4,y5,y6,y7,rfl,hy0,hy1,hy2,hy3,hy4,hy5,hy6,hy7,hye⟩:=id hE2;rw[show val 0 0 0 0=0 from rfl,Nat.mul_zero,Nat.add_zero]at hye;have HY:Hid (_=_):=hye;clear hye hE1 hE2;have KP2:=KP1.call hb2;clear hb2 KP1;refine hK.out _ _ (fun _=>sM KP2) ?_;clear hK K;try simp only[Act.put,List.setIfInBounds_toArray,List.set_cons_zero,List.set_cons_succ]
   have fr:At8 w2 k0 p0 p1 p2 p3 c0 c1 c2 c3:=⟨KP2.head.c0,KP2.head.c1,KP2.head.c2,KP2.head.c3,KP2.tail.head.c0,KP2.tail.head.c1,KP2.tail.head.c2,KP2.tail.head.c3,KP2.head.f⟩
   have wi:At8 w2 k1 a b c d e f g h:=⟨KP2.tail.tail.head.c0,KP2.tail.tail.head.c1,KP2.tail.tail.head.c2,KP2.tail.tail.head.c3,KP2.tail.tail.tail.head.c0,KP2.tail.tail.tail.head.c1,KP2.tail.tail.tail.head.c2,KP2.tail.tail.tail.head.c3,KP2.tail.tail.head.f⟩
   have re:At4 w2 k2 0 0 0 0:=KP2.tail.tail.tail.tail.head.at4;have HB:Hid (Below k0 w w2):=KP2.bl;clear KP2 wc0 wc1 wc2 wc3 wc4 wc5 wc6 wc7 wf z0 z1 z2;obtain⟨wc0,wc1,wc2,wc3,wc4,wc5,wc6,wc7,wf⟩:=id wi;have z1:=wi.lt;refine anyTill.step (i:=22) rfl (by kernel_rfl) (fun K hK=>?_);go_simp;refine hK.out _ _ (fun h=>Bool.noConfusion h) ?_;clear hK K;try simp only[Act.put,List.setIfInBounds_toArray,List.set_cons_zero,List.set_cons_succ]
   refine anyTill.done (by kernel_rfl) ?_ _;obtain⟨q1,q2⟩:=H.out;have q0:=H0.out;subst q1 q2 q0;go_wp2;go_roundg (val y0 y1 y2 y3+top*val y4 y5 y6 y7)
   case measure=>rw[<-HY.out];exact HL.out.1
   case rel =>
    refine⟨y0,y1,y2,y3,y4,y5,y6,y7,⟨?_,?_,?_,?_,hy0,hy1,hy2,hy3,hy4,hy5,hy6,hy7⟩,rfl,?_⟩
    ·exact Ag HB.out Q1.out _ _ _ _ _ _ _ _
    ·exact At8.other8x fr n01.symm _ _ _ _ _ _ _ _
    ·exact At8.self8x wi y0 y1 y2 y3 y4 y5 y6 y7
    ·exact At4.other8x re n12 _ _ _ _ _ _ _ _
    ·unfold Hid;rw[<-HY.out,<-HE.out];exact HL.out.2
end
section
open Go.RowKit Go.Sort
variable {P:Nat}[NeZero P]{N:Nat}
theorem dP{w W:World}{k0 k1 k2 p0 p1 p2 p3 c0 c1 c2 c3 a b c d p q r s:Nat}(h:Kept w k0 [⟨k0,0,p0,p1,p2,p3⟩,⟨k0,4,c0,c1,c2,c3⟩,⟨k1,0,a,b,c,d⟩,⟨k2,0,p,q,r,s⟩] W):W.cell? ⟨k0,0,none⟩=some (.int .u64 p0)/\W.cell? ⟨k0,1,none⟩=some (.int .u64 p1)/\W.cell? ⟨k0,2,none⟩=some (.int .u64 p2)/\W.cell? ⟨k0,3,none⟩=some (.int .u64 p3)/\W.cell? ⟨k0,4,none⟩=some (.int .u64 c0)/\W.cell? ⟨k0,5,none⟩=some (.int .u64 c1)/\W.cell? ⟨k0,6,none⟩=some (.int .u64 c2)/\W.cell? ⟨k0,7,none⟩=some (.int .u64 c3)/\W.cell? ⟨k1,0,none⟩=some (.int .u64 a)/\W.cell? ⟨k1,1,none⟩=some (.int .u64 b)/\W.cell? ⟨k1,2,none⟩=some (.int .u64 c)/\W.cell? ⟨k1,3,none⟩=some (.int .u64 d)/\W.cell? ⟨k2,0,none⟩=some (.int .u64 p)/\W.cell? ⟨k2,1,none⟩=some (.int .u64 q)/\W.cell? ⟨k2,2,none⟩=some (.int .u64 r)/\W.cell? ⟨k2,3,none⟩=some (.int .u64 s)/\Kept w k0 [⟨k0,0,p0,p1,p2,p3⟩,⟨k0,4,c0,c1,c2,c3⟩,⟨k1,0,a,b,c,d⟩,⟨k2,0,p,q,r,s⟩] W:=
 ⟨h.head.c0,h.head.c1,h.head.c2,h.head.c3,h.tail.head.c0,h.tail.head.c1,h.tail.head.c2,h.tail.head.c3,h.tail.tail.head.c0,h.tail.tail.head.c1,h.tail.tail.head.c2,h.tail.tail.head.c3,h.tail.tail.tail.head.c0,h.tail.tail.tail.head.c1,h.tail.tail.tail.head.c2,h.tail.tail.tail.head.c3,h⟩
theorem Fh(p0 p1 p2 p3 c0 c1 c2 c3 P:Nat)(x y:Value)(m n:Nat)(hp0:p0<18446744073709551616)(hp1:p1<18446744073709551616)(hp2:p2<18446744073709551616)(hp3:p3<18446744073709551616)
 (hc0:c0<18446744073709551616) (hc1:c1<18446744073709551616) (hc2:c2<18446744073709551616) (hc3:c3<18446744073709551616) (eP:P=val p0 p1 p2 p3) (hP:P+val c0 c1 c2 c3=top) (hP2:top<2*P) (hx:Four x m) (hy:Four y n) (w:World) :
 Calls prog 32 #[.agg #[.int .u64 p0,.int .u64 p1,.int .u64 p2,.int .u64 p3,.int .u64 c0,.int .u64 c1,.int .u64 c2,.int .u64 c3],x,y] w (Ret fun e w'=>Below w.heap.size w w'/\Four e (m*n%P)):=by
 obtain⟨a,b,c,d,rfl,ha,hb,hc,hd,em⟩:=id hx;obtain⟨p,q,r,s,rfl,hp,hq,hr,hs,en⟩:=id hy;have HX:Hid (Four _ _):=hx;have HY:Hid (Four _ _):=hy;have HL:Hid (∀(v:Value) (k:Nat) (w:World),mK v k->Calls prog 68 #[.agg #[.int .u64 p0,.int .u64 p1,.int .u64 p2,.int .u64 p3,.int .u64 c0,.int .u64 c1,.int .u64 c2,.int .u64 c3],v] w (Ret fun e w'=>Below w.heap.size w w'/\Four e (k%P))):=
  fun v k w hv=>uP p0 p1 p2 p3 c0 c1 c2 c3 P v k hp0 hp1 hp2 hp3 hc0 hc1 hc2 hc3 eP hP hP2 hv w
 clear em en hx hy ha hb hc hd hp hq hr hs hp0 hp1 hp2 hp3 hc0 hc1 hc2 hc3 eP hP hP2;go_enter Tryz.func32,Tryz.ntmps32;go_wp2_with fail
 have FR:=((((At8.made w 65 p0 p1 p2 p3 c0 c1 c2 c3 rfl).alloc (.cells #[.int .u64 a,.int .u64 b,.int .u64 c,.int .u64 d] 37)).alloc (.cells #[.int .u64 p,.int .u64 q,.int .u64 r,.int .u64 s] 37)).alloc (.cells #[.int .u64 0,.int .u64 0,.int .u64 0,.int .u64 0] 37))
 have X:=(((At4.made (w.alloc (.cells #[.int .u64 p0,.int .u64 p1,.int .u64 p2,.int .u64 p3,.int .u64 c0,.int .u64 c1,.int .u64 c2,.int .u64 c3] 65)) 37 a b c d (World.size_alloc _ _)).alloc (.cells #[.int .u64 p,.int .u64 q,.int .u64 r,.int .u64 s] 37)).alloc (.cells #[.int .u64 0,.int .u64 0,.int .u64 0,.int .u64 0] 37))
 have Y:=((At4.made ((w.alloc (.cells #[.int .u64 p0,.int .u64 p1,.int .u64 p2,.int .u64 p3,.int .u64 c0,.int .u64 c1,.int .u64 c2,.int .u64 c3] 65)).alloc (.cells #[.int .u64 a,.int .u64 b,.int .u64 c,.int .u64 d] 37)) 37 p q r s (k:=w.heap.size+1+1) (by simp)).alloc (.cells #[.int .u64 0,.int .u64 0,.int .u64 0,.int .u64 0] 37))
 have T3:=At4.made (((w.alloc (.cells #[.int .u64 p0,.int .u64 p1,.int .u64 p2,.int .u64 p3,.int .u64 c0,.int .u64 c1,.int .u64 c2,.int .u64 c3] 65)).alloc (.cells #[.int .u64 a,.int .u64 b,.int .u64 c,.int .u64 d] 37)).alloc (.cells #[.int .u64 p,.int .u64 q,.int .u64 r,.int .u64 s] 37)) 37 0 0 0 0 (k:=w.heap.size+1+1+1) (by simp);have KP:=((((Kept.mk1 (eR w (.cells #[.int .u64 p0,.int .u64 p1,.int .u64 p2,.int .u64 p3,.int .u64 c0,.int .u64 c1,.int .u64 c2,.int .u64 c3] 65) (.cells #[.int .u64 a,.int .u64 b,.int .u64 c,.int .u64 d] 37) (.cells #[.int .u64 p,.int .u64 q,.int .u64 r,.int .u64 s] 37) (.cells #[.int .u64 0,.int .u64 0,.int .u64 0,.int .u64 0] 37)) (eR w (.cells #[.int .u64 p0,.int .u64 p1,.int .u64 p2,.int .u64 p3,.int .u64 c0,.int .u64 c1,.int .u64 c2,.int .u64 c3] 65) (.cells #[.int .u64 a,.int .u64 b,.int .u64 c,.int .u64 d] 37) (.cells #[.int .u64 p,.int .u64 q,.int .u64 r,.int .u64 s] 37) (.cells #[.int .u64 0,.int .u64 0,.int .u64 0,.int .u64 0] 37)).size).cons Y.blk).cons X.blk).cons (x:=⟨w.heap.size,4,c0,c1,c2,c3⟩) ⟨FR.c4,FR.c5,FR.c6,FR.c7,FR.fz⟩).cons (x:=⟨w.heap.size,0,p0,p1,p2,p3⟩) ⟨FR.c0,FR.c1,FR.c2,FR.c3,FR.fz⟩;simp only[Int.natCast_zero]at T3;clear FR X Y;generalize World.alloc _ _=W0 at KP T3⊢;generalize h3:w.heap.size+1+1+1=k3 at T3⊢;generalize h2:w.heap.size+1+1=k2 at KP⊢;generalize h1:w.heap.size+1=k1 at KP⊢;have Q3:Hid (w.heap.size<=k3):=by unfold Hid;omega
 generalize h0:w.heap.size=k0 at KP Q3⊢;have H0:Hid (w.heap.size=k0):=h0;have hl3:∀x∈([⟨k0,0,p0,p1,p2,p3⟩,⟨k0,4,c0,c1,c2,c3⟩,⟨k1,0,a,b,c,d⟩,⟨k2,0,p,q,r,s⟩]:List Blk),k3≠x.k:=by simp only[List.mem_cons,List.not_mem_nil,or_false];rintro x (rfl|rfl|rfl|rfl)<;>simp only<;>omega
 clear h0 h1 h2 h3;obtain⟨tc0,tc1,tc2,tc3,tf⟩:=id T3;have zt:=T3.lt;go_region_held3 (fun w'=>w'.cell? ⟨k0,0,none⟩=some (.int .u64 p0)/\w'.cell? ⟨k0,1,none⟩=some (.int .u64 p1)/\w'.cell? ⟨k0,2,none⟩=some (.int .u64 p2)/\w'.cell? ⟨k0,3,none⟩=some (.int .u64 p3)/\w'.cell? ⟨k0,4,none⟩=some (.int .u64 c0)/\w'.cell? ⟨k0,5,none⟩=some (.int .u64 c1)/\w'.cell? ⟨k0,6,none⟩=some (.int .u64 c2)/\w'.cell? ⟨k0,7,none⟩=some (.int .u64 c3)/\w'.cell? ⟨k1,0,none⟩=some (.int .u64 a)/\w'.cell? ⟨k1,1,none⟩=some (.int .u64 b)/\w'.cell? ⟨k1,2,none⟩=some (.int .u64 c)/\w'.cell? ⟨k1,3,none⟩=some (.int .u64 d)/\w'.cell? ⟨k2,0,none⟩=some (.int .u64 p)/\w'.cell? ⟨k2,1,none⟩=some (.int .u64 q)/\w'.cell? ⟨k2,2,none⟩=some (.int .u64 r)/\w'.cell? ⟨k2,3,none⟩=some (.int .u64 s)/\Kept w k0 [⟨k0,0,p0,p1,p2,p3⟩,⟨k0,4,c0,c1,c2,c3⟩,⟨k1,0,a,b,c,d⟩,⟨k2,0,p,q,r,s⟩] w') (first|(with_reducible exact dP KP)|(with_reducible exact dP KP.drew)|(with_reducible exact dP (KP.set4' Q3.out hl3 _ _ _ _))|(with_reducible exact dP (KP.set4' Q3.out hl3 _ _ _ _).drew)|fail) (first|(go_at_call 69;refine(nJ _ _ _ _ HX.out HY.out _).mono ?_;rintro e w1 ⟨v,rfl,hb1,hE1⟩;obtain⟨x0,x1,x2,x3,x4,x5,x6,x7,rfl,hx0,hx1,hx2,hx3,hx4,hx5,hx6,hx7,hxe⟩:=id hE1;clear hxe;have HE1:Hid (mK _ _):=hE1;clear hE1;have KP1:=KP.drew.call hb1;have T1:=T3.drew.call hb1;clear KP T3 hb1;have KP:=KP1;have T3:=T1;clear KP1 T1;obtain⟨tc0,tc1,tc2,tc3,tf⟩:=id T3;have zt:=T3.lt)|(go_at_call 68;refine(HL.out _ _ _ HE1.out).mono ?_;rintro e w2 ⟨v,rfl,hb2,hF3⟩;obtain⟨a',b',c',d',rfl,ha',hb',hc',hd',es3⟩:=id hF3;clear es3;have HF3:Hid (Four _ _):=hF3;clear hF3;have KP1:=KP.call hb2;have T1:=T3.call hb2;clear KP T3 hb2;have KP:=KP1;have T3:=T1;clear KP1 T1;obtain⟨tc0,tc1,tc2,tc3,tf⟩:=id T3;have zt:=T3.lt))
 go_wp2;have RF:=T3.self4 a' b' c' d';unfold set4 at RF;refine bodyPost_ret (v:=?v) ?hr rfl ?hR
 case hr=>simp[results,Tryz.results32,go_sem,RF.c0,RF.c1,RF.c2,RF.c3];rfl
 refine⟨_,rfl,?_,HF3.out⟩;rw[H0.out];exact aF KP.bl Q3.out _ _ _ _
theorem Four.eight{a b c d m:Nat}(h:Four (.agg #[.int .u64 a,.int .u64 b,.int .u64 c,.int .u64 d]) m):
 mK (.agg #[.int .u64 a,.int .u64 b,.int .u64 c,.int .u64 d,.int .u64 0,.int .u64 0,.int .u64 0,.int .u64 0]) m:=by
 obtain⟨p,q,r,s,e,hp,hq,hr,hs,rfl⟩:=h;simp only[Value.agg.injEq,Array.mk.injEq,List.cons.injEq,Value.int.injEq,true_and,and_true,Int.ofNat_inj]at e;obtain⟨rfl,rfl,rfl,rfl⟩:=e;exact⟨a,b,c,d,0,0,0,0,rfl,hp,hq,hr,hs,by decide,by decide,by decide,by decide,rfl⟩
theorem Ep{v u:Value}{m n:Nat}(hx:Four v m)(hy:Four u n):m+n<top*top:=by
 have h1:=hx.lt;have h2:=hy.lt;have h3:top+top<=top*top:=by unfold top;decide
 omega
theorem Fp(p0 p1 p2 p3 c0 c1 c2 c3 P:Nat)(x y:Value)(m n:Nat)(hp0:p0<18446744073709551616)(hp1:p1<18446744073709551616)(hp2:p2<18446744073709551616)(hp3:p3<18446744073709551616)
 (hc0:c0<18446744073709551616) (hc1:c1<18446744073709551616) (hc2:c2<18446744073709551616) (hc3:c3<18446744073709551616) (eP:P=val p0 p1 p2 p3) (hP:P+val c0 c1 c2 c3=top) (hP2:top<2*P) (hx:Four x m) (hy:Four y n) (w:World) :
 Calls prog 36 #[.agg #[.int .u64 p0,.int .u64 p1,.int .u64 p2,.int .u64 p3,.int .u64 c0,.int .u64 c1,.int .u64 c2,.int .u64 c3],x,y] w (Ret fun e w'=>Below w.heap.size w w'/\Four e ((m+n)%P)):=by
 obtain⟨a,b,c,d,rfl,ha,hb,hc,hd,em⟩:=id hx;obtain⟨p,q,r,s,rfl,hp,hq,hr,hs,en⟩:=id hy;have HX:Hid (Four _ _):=hx;have HY:Hid (Four _ _):=hy;have HL:Hid (∀(v:Value) (k:Nat) (w:World),mK v k->Calls prog 68 #[.agg #[.int .u64 p0,.int .u64 p1,.int .u64 p2,.int .u64 p3,.int .u64 c0,.int .u64 c1,.int .u64 c2,.int .u64 c3],v] w (Ret fun e w'=>Below w.heap.size w w'/\Four e (k%P))):=
  fun v k w hv=>uP p0 p1 p2 p3 c0 c1 c2 c3 P v k hp0 hp1 hp2 hp3 hc0 hc1 hc2 hc3 eP hP hP2 hv w
 clear em en hx hy ha hb hc hd hp hq hr hs hp0 hp1 hp2 hp3 hc0 hc1 hc2 hc3 eP hP hP2;go_enter Tryz.func36,Tryz.ntmps36;go_wp2_with fail
 have FR:=((((At8.made w 65 p0 p1 p2 p3 c0 c1 c2 c3 rfl).alloc (.cells #[.int .u64 a,.int .u64 b,.int .u64 c,.int .u64 d] 37)).alloc (.cells #[.int .u64 p,.int .u64 q,.int .u64 r,.int .u64 s] 37)).alloc (.cells #[.int .u64 0,.int .u64 0,.int .u64 0,.int .u64 0] 37))
 have X:=(((At4.made (w.alloc (.cells #[.int .u64 p0,.int .u64 p1,.int .u64 p2,.int .u64 p3,.int .u64 c0,.int .u64 c1,.int .u64 c2,.int .u64 c3] 65)) 37 a b c d (World.size_alloc _ _)).alloc (.cells #[.int .u64 p,.int .u64 q,.int .u64 r,.int .u64 s] 37)).alloc (.cells #[.int .u64 0,.int .u64 0,.int .u64 0,.int .u64 0] 37))
 have Y:=((At4.made ((w.alloc (.cells #[.int .u64 p0,.int .u64 p1,.int .u64 p2,.int .u64 p3,.int .u64 c0,.int .u64 c1,.int .u64 c2,.int .u64 c3] 65)).alloc (.cells #[.int .u64 a,.int .u64 b,.int .u64 c,.int .u64 d] 37)) 37 p q r s (k:=w.heap.size+1+1) (by simp)).alloc (.cells #[.int .u64 0,.int .u64 0,.int .u64 0,.int .u64 0] 37))
 have T3:=At4.made (((w.alloc (.cells #[.int .u64 p0,.int .u64 p1,.int .u64 p2,.int .u64 p3,.int .u64 c0,.int .u64 c1,.int .u64 c2,.int .u64 c3] 65)).alloc (.cells #[.int .u64 a,.int .u64 b,.int .u64 c,.int .u64 d] 37)).alloc (.cells #[.int .u64 p,.int .u64 q,.int .u64 r,.int .u64 s] 37)) 37 0 0 0 0 (k:=w.heap.size+1+1+1) (by simp);have KP:=((((Kept.mk1 (eR w (.cells #[.int .u64 p0,.int .u64 p1,.int .u64 p2,.int .u64 p3,.int .u64 c0,.int .u64 c1,.int .u64 c2,.int .u64 c3] 65) (.cells #[.int .u64 a,.int .u64 b,.int .u64 c,.int .u64 d] 37) (.cells #[.int .u64 p,.int .u64 q,.int .u64 r,.int .u64 s] 37) (.cells #[.int .u64 0,.int .u64 0,.int .u64 0,.int .u64 0] 37)) (eR w (.cells #[.int .u64 p0,.int .u64 p1,.int .u64 p2,.int .u64 p3,.int .u64 c0,.int .u64 c1,.int .u64 c2,.int .u64 c3] 65) (.cells #[.int .u64 a,.int .u64 b,.int .u64 c,.int .u64 d] 37) (.cells #[.int .u64 p,.int .u64 q,.int .u64 r,.int .u64 s] 37) (.cells #[.int .u64 0,.int .u64 0,.int .u64 0,.int .u64 0] 37)).size).cons Y.blk).cons X.blk).cons (x:=⟨w.heap.size,4,c0,c1,c2,c3⟩) ⟨FR.c4,FR.c5,FR.c6,FR.c7,FR.fz⟩).cons (x:=⟨w.heap.size,0,p0,p1,p2,p3⟩) ⟨FR.c0,FR.c1,FR.c2,FR.c3,FR.fz⟩;simp only[Int.natCast_zero]at T3;clear FR X Y;generalize World.alloc _ _=W0 at KP T3⊢;generalize h3:w.heap.size+1+1+1=k3 at T3⊢;generalize h2:w.heap.size+1+1=k2 at KP⊢;generalize h1:w.heap.size+1=k1 at KP⊢;have Q3:Hid (w.heap.size<=k3):=by unfold Hid;omega
 generalize h0:w.heap.size=k0 at KP Q3⊢;have H0:Hid (w.heap.size=k0):=h0;have hl3:∀x∈([⟨k0,0,p0,p1,p2,p3⟩,⟨k0,4,c0,c1,c2,c3⟩,⟨k1,0,a,b,c,d⟩,⟨k2,0,p,q,r,s⟩]:List Blk),k3≠x.k:=by simp only[List.mem_cons,List.not_mem_nil,or_false];rintro x (rfl|rfl|rfl|rfl)<;>simp only<;>omega
 clear h0 h1 h2 h3;obtain⟨tc0,tc1,tc2,tc3,tf⟩:=id T3;have zt:=T3.lt;go_region_held3 (fun w'=>w'.cell? ⟨k0,0,none⟩=some (.int .u64 p0)/\w'.cell? ⟨k0,1,none⟩=some (.int .u64 p1)/\w'.cell? ⟨k0,2,none⟩=some (.int .u64 p2)/\w'.cell? ⟨k0,3,none⟩=some (.int .u64 p3)/\w'.cell? ⟨k0,4,none⟩=some (.int .u64 c0)/\w'.cell? ⟨k0,5,none⟩=some (.int .u64 c1)/\w'.cell? ⟨k0,6,none⟩=some (.int .u64 c2)/\w'.cell? ⟨k0,7,none⟩=some (.int .u64 c3)/\w'.cell? ⟨k1,0,none⟩=some (.int .u64 a)/\w'.cell? ⟨k1,1,none⟩=some (.int .u64 b)/\w'.cell? ⟨k1,2,none⟩=some (.int .u64 c)/\w'.cell? ⟨k1,3,none⟩=some (.int .u64 d)/\w'.cell? ⟨k2,0,none⟩=some (.int .u64 p)/\w'.cell? ⟨k2,1,none⟩=some (.int .u64 q)/\w'.cell? ⟨k2,2,none⟩=some (.int .u64 r)/\w'.cell? ⟨k2,3,none⟩=some (.int .u64 s)/\Kept w k0 [⟨k0,0,p0,p1,p2,p3⟩,⟨k0,4,c0,c1,c2,c3⟩,⟨k1,0,a,b,c,d⟩,⟨k2,0,p,q,r,s⟩] w') (first|(with_reducible exact dP KP)|(with_reducible exact dP KP.drew)|(with_reducible exact dP (KP.set4' Q3.out hl3 _ _ _ _))|(with_reducible exact dP (KP.set4' Q3.out hl3 _ _ _ _).drew)|fail) (first|(go_at_call 71;refine(uJ _ _ _ _ (Four.eight HX.out) (Four.eight HY.out) (Ep HX.out HY.out) _).mono ?_;rintro e w1 ⟨v,rfl,hb1,hE1⟩;obtain⟨x0,x1,x2,x3,x4,x5,x6,x7,rfl,hx0,hx1,hx2,hx3,hx4,hx5,hx6,hx7,hxe⟩:=id hE1;clear hxe;have HE1:Hid (mK _ _):=hE1;clear hE1;have KP1:=KP.drew.call hb1;have T1:=T3.drew.call hb1;clear KP T3 hb1;have KP:=KP1;have T3:=T1;clear KP1 T1;obtain⟨tc0,tc1,tc2,tc3,tf⟩:=id T3;have zt:=T3.lt)|(go_at_call 68;refine(HL.out _ _ _ HE1.out).mono ?_;rintro e w2 ⟨v,rfl,hb2,hF3⟩;obtain⟨a',b',c',d',rfl,ha',hb',hc',hd',es3⟩:=id hF3;clear es3;have HF3:Hid (Four _ _):=hF3;clear hF3;have KP1:=KP.call hb2;have T1:=T3.call hb2;clear KP T3 hb2;have KP:=KP1;have T3:=T1;clear KP1 T1;obtain⟨tc0,tc1,tc2,tc3,tf⟩:=id T3;have zt:=T3.lt))
 go_wp2;have RF:=T3.self4 a' b' c' d';unfold set4 at RF;refine bodyPost_ret (v:=?v) ?hr rfl ?hR
 case hr=>simp[results,Tryz.results36,go_sem,RF.c0,RF.c1,RF.c2,RF.c3];rfl
 refine⟨_,rfl,?_,HF3.out⟩;rw[H0.out];exact aF KP.bl Q3.out _ _ _ _
theorem AZ(x y:Value)(m n:Nat)(hx:Four x m)(hy:Four y n)(w:World):
 Calls prog 64 #[x,y] w (Ret fun e w'=>Below w.heap.size w w'/\e=.bool (decide (m<n))):=by
 obtain⟨a,b,c,d,rfl,ha,hb,hc,hd,em⟩:=id hx;obtain⟨p,q,r,s,rfl,hp,hq,hr,hs,en⟩:=id hy;have HX:Hid (Four _ _):=hx;have HY:Hid (Four _ _):=hy;clear em en hx hy ha hb hc hd hp hq hr hs;go_enter Tryz.func64,Tryz.ntmps64;go_wp2_with fail
 refine(lO _ _ _ _ HX.out HY.out _).mono ?_;rintro e w1 ⟨v,rfl,hb1,v2,t,k,rfl,hF,hk,he⟩;have HB:Hid (Below w.heap.size w w1):=(below2 w _ _).trans (hb1.mono (below2 w _ _).size);have hd:decide (m<n)=decide (k=1):=by
  have h1:=hF.lt;have h2:=HX.out.lt;have h3:=HY.out.lt;have:k=0\/k=1:=by omega
  rcases this with rfl|rfl
  ·rw[decide_eq_false (by omega),decide_eq_false (by omega)]
  ·rw[decide_eq_true (by omega),decide_eq_true rfl]
 have HD:Hid (decide (m<n)=decide (k=1)):=hd;obtain⟨a',b',c',d',rfl,ha',hb',hc',hd',es⟩:=id hF;clear es hF he hd hb1;have:k=0\/k=1:=by omega
 rcases this with rfl|rfl
 ·go_wp2;go_ret;exact⟨_,rfl,HB.out.alloc HB.out.size _,by rw[HD.out];rfl⟩
 ·go_wp2;go_ret;exact⟨_,rfl,HB.out.alloc HB.out.size _,by rw[HD.out];rfl⟩
end
section
open Go.RowKit Go.Sort Go.Deep
variable {P:Nat}[NeZero P]{N:Nat}
theorem At4.setq{w:World}{k a b c d:Nat}(h:At4 w k a b c d)(q o:Nat)(hq:q<4):
 At4 (w.setCell ⟨k,q,none⟩ (.int .u64 o)) k (if q=0 then o else a) (if q=1 then o else b) (if q=2 then o else c) (if q=3 then o else d):=by
 have h':q=0\/q=1\/q=2\/q=3:=by omega
 rcases h' with rfl|rfl|rfl|rfl
 ·exact h.set0 o
 ·exact h.set1 o
 ·exact h.set2 o
 ·exact h.set3 o
theorem I7{a b c d M k B:Nat}(ha:a<18446744073709551616)(hb:b<18446744073709551616)(hc:c<18446744073709551616)(hd:d<18446744073709551616)(hk:k<32)(hB:B<256)(hv:val a b c d=M*256^(k+1)):
 bits .or .u64 (wd a b c d (k/8):Int) ((B*2^(8*(k%8)):Nat):Int)=((wd a b c d (k/8)+B*2^(8*(k%8)):Nat):Int)/\wd a b c d (k/8)+B*2^(8*(k%8))<18446744073709551616:=by
 have h1:wd a b c d (k/8)=256^(k%8+1)*(M%256^(7-k%8)):=by
  rw[EF (k/8) (by omega) ha hb hc hd,hv,Lr rfl rfl]
 obtain⟨h2,h3⟩:=MY (y:=M%256^(7-k%8)) (x:=B) (r:=k%8) (by omega) hB (Nat.mod_lt _ (Nat.pow_pos (by decide)));rw[h1];refine⟨?_,h3⟩;rw[bits_or_u64_nat _ _ (by omega) (by omega),h2]
theorem I8{a b c d k B o:Nat}(hk:k<32)(ho:o=wd a b c d (k/8)+B*2^(8*(k%8))):
 val (if k/8=0 then o else a) (if k/8=1 then o else b) (if k/8=2 then o else c) (if k/8=3 then o else d)=val a b c d+B*256^k:=by
 have h:=Cc a b c d (k/8) o (by omega);have e:(256:Nat)^k=2^(64*(k/8))*2^(8*(k%8)):=by
  rw[<-Nat.pow_add,show 64*(k/8)+8*(k%8)=8*k by omega,Nat.pow_mul]
 rw[ho,Nat.mul_add,<-Nat.mul_assoc,Nat.mul_comm (2^(64*(k/8))) B,Nat.mul_assoc,<-e]at h;rw[ho];omega
theorem GI(s:ByteArray)(i:Nat)(hi:i<s.size):beV (s.data.extract 0 (i+1)).toList=beV (s.data.extract 0 i).toList*256+s[i].toNat:=by
 have e:(s.data.extract 0 (i+1)).toList=(s.data.extract 0 i).toList++[s[i]]:=by
  rw[Array.extract_succ_right (by omega) hi,Array.toList_push];rfl
 rw[e,dD];simp[beV]
theorem Ct(s:ByteArray)(hs:s.size=32)(w:World):
 Calls prog 63 #[.string s] w (Ret fun e w'=>Below w.heap.size w w'/\Four e (beV s.data.toList)):=by
 go_enter Tryz.func63,Tryz.ntmps63;go_wp2;have KP:=((Kept.mk1 (below2 w (.cells #[.int .u64 0,.int .u64 0,.int .u64 0,.int .u64 0] 37) (.cells #[.int .u64 0,.int .u64 0,.int .u64 0,.int .u64 0] 37)) (below2 w _ _).size).cons ((At4.made w 37 0 0 0 0 rfl).alloc (.cells #[.int .u64 0,.int .u64 0,.int .u64 0,.int .u64 0] 37)).blk).cons (At4.made (w.alloc (.cells #[.int .u64 0,.int .u64 0,.int .u64 0,.int .u64 0] 37)) 37 0 0 0 0 (World.size_alloc _ _)).blk;generalize World.alloc _ _=W0 at KP⊢;generalize h1:w.heap.size+1=k1 at KP⊢;have n10:k1≠w.heap.size:=by omega
 have Q1:Hid (w.heap.size<=k1):=by unfold Hid;omega
 clear h1;go_loopg [4] 32 (fun gk s4 wr=>∃i a b c d:Nat,i+gk=32/\s4=.int .i64 i/\Kept w w.heap.size [⟨k1,0,a,b,c,d⟩,⟨w.heap.size,0,0,0,0,0⟩] wr/\Hid (Four (.agg #[.int .u64 a,.int .u64 b,.int .u64 c,.int .u64 d]) (beV (s.data.extract 0 i).toList*256^(32-i))))
 case atStart =>
  refine⟨0,0,0,0,0,rfl,rfl,KP,?_⟩;have:beV (s.data.extract 0 0).toList=0:=by simp[beV]
  rw[this,Nat.zero_mul];exact Four.mk (by decide) (by decide) (by decide) (by decide) rfl
 case round =>
  clear KP;obtain⟨i,a,b,c,d,hi,rfl,KP,HF⟩:=hrel;by_cases hlt:i<32
  ·obtain⟨k,hk⟩:∃k,31-i=k:=⟨_,rfl⟩
   have hk32:k<32:=by omega
   have hi32:i<s.size:=by omega
   have hF:val a b c d=beV (s.data.extract 0 i).toList*256^(k+1)/\a<18446744073709551616/\b<18446744073709551616/\c<18446744073709551616/\d<18446744073709551616:=by
    obtain⟨a',b',c',d',e',h1,h2,h3,h4,h5⟩:=HF.out;obtain⟨rfl,rfl,rfl,rfl⟩:a'=a/\b'=b/\c'=c/\d'=d:=by
     simp only[Value.agg.injEq,Array.mk.injEq,List.cons.injEq,Value.int.injEq,true_and,and_true,Int.ofNat_inj]at e';exact⟨e'.1.symm,e'.2.1.symm,e'.2.2.1.symm,e'.2.2.2.symm⟩
    exact⟨by rw[<-h5,show 32-i=k+1 by omega],h1,h2,h3,h4⟩
   obtain⟨B,hB⟩:∃B,s[i].toNat=B:=⟨_,rfl⟩
   have hB256:B<256:=hB ▸ s[i].toNat_lt;have hsb:IntKind.u64.wrap (s[i].toNat:Int)=(B:Int):=by rw[hB];exact wrapN _ (by omega)
   obtain⟨hor,hol⟩:=I7 hF.2.1 hF.2.2.1 hF.2.2.2.1 hF.2.2.2.2 hk32 hB256 hF.1;have xw:=KP.head.at4.wd (k/8) (by omega);obtain⟨o,ho⟩:∃o,wd a b c d (k/8)+B*2^(8*(k%8))=o:=⟨_,rfl⟩
   rw[ho]at hor hol;have hst:=I8 (a:=a) (b:=b) (c:=c) (d:=d) hk32 ho.symm;have HST:Hid (Four (.agg #[.int .u64 ((if k/8=0 then o else a:Nat):Int),.int .u64 ((if k/8=1 then o else b:Nat):Int),.int .u64 ((if k/8=2 then o else c:Nat):Int),.int .u64 ((if k/8=3 then o else d:Nat):Int)]) (beV (s.data.extract 0 (i+1)).toList*256^(32-(i+1)))):=by
    refine Four.mk ?_ ?_ ?_ ?_ ?_
    ·split;exact hol;exact hF.2.1
    ·split;exact hol;exact hF.2.2.1
    ·split;exact hol;exact hF.2.2.2.1
    ·split;exact hol;exact hF.2.2.2.2
    ·rw[hst,hF.1,GI s i hi32,hB,show 32-(i+1)=k by omega,Nat.add_mul,Nat.pow_succ,Nat.mul_assoc,Nat.mul_comm (256^k) 256]
   obtain⟨y,hy⟩:∃y,B*2^(8*(k%8))=y:=⟨_,rfl⟩
   have hyl:y<18446744073709551616:=by omega
   rw[hy]at hor;obtain⟨v,hv⟩:∃v,wd a b c d (k/8)=v:=⟨_,rfl⟩
   rw[hv]at hor xw;obtain⟨q,hq⟩:∃q,k/8=q:=⟨_,rfl⟩
   obtain⟨r,hr⟩:∃r,k%8=r:=⟨_,rfl⟩
   obtain⟨t,ht⟩:∃t,8*r=t:=⟨_,rfl⟩
   have hq4:q<4:=by omega
   have PT:=fun(v:Value)=>KP.tail.set (j:=k1) (i:=q) Q1.out (by simp only[List.mem_cons,List.not_mem_nil,or_false];rintro x rfl;exact n10) v
   rw[hq]at xw HST;have hsh:IntKind.u64.wrap ((B:Int)*2^t)=(y:Int):=by
    rw[<-ht,<-hr,<-hy,Int.natCast_mul,Int.natCast_pow];have:=wrapN (B*2^(8*(k%8))) (by omega);rw[Int.natCast_mul,Int.natCast_pow]at this;exact this
   have i1:(31:Int)-(i:Int)=(k:Int):=by omega
   have i2:(k:Int).tdiv 8=(q:Int):=by rw[Int.tdiv_eq_ediv_of_nonneg (by omega)];omega
   have i3:(k:Int).tmod 8=(r:Int):=by rw[Int.tmod_eq_emod_of_nonneg (by omega)];omega
   have i4:(q:Int)<4:=by omega
   have i5:IntKind.i64.wrap (q:Int)=(q:Int):=f8 _ (by omega);have i6:IntKind.i64.wrap (r:Int)=(r:Int):=f8 _ (by omega);have i7:(8:Int)*(r:Int)=(t:Int):=by omega
   have i8:IntKind.i64.wrap (t:Int)=(t:Int):=f8 _ (by omega);have i9:t<64:=by omega
   have i10:(t:Int)<64:=by omega
   have hlt':(i:Int)<32:=by omega
   have T1:=KP.head.at4.setq q o hq4;have z1:=KP.head.lt;have xf:=KP.head.f;have HSB:Hid (s[i].toNat=B):=hB;have H4:Hid (q<4):=hq4;clear hy hv hq hr ht ho hst hF hB HF;go_wp2;go_region
   go_wp2;go_roundg (gk-1)
   case measure=>omega
   case rel =>
    refine⟨i+1,_,_,_,_,by omega,rfl,?_,HST⟩;exact((PT _).cons T1.blk).drew
  ·have hi32:i=32:=by omega
   subst hi32;have hse:s.data.extract 0 32=s.data:=by
    have h2:s.data.size=32:=hs;rw[<-h2];exact Array.extract_size
   have h1:=HF.out;rw[Nat.sub_self,Nat.pow_zero,Nat.mul_one,hse]at h1;have HFE:Hid (Four _ _):=h1;clear h1 hse;obtain⟨nc0,nc1,nc2,nc3,nf⟩:=KP.head.at4;obtain⟨rc0,rc1,rc2,rc3,rf⟩:=KP.tail.head.at4;have z1:=KP.head.lt;have z0:=KP.tail.head.lt;clear HF;go_wp2;have RF:=KP.tail.head.at4.self4 a b c d;unfold set4 at RF;refine bodyPost_ret (v:=?v) ?hr rfl ?hR
   case hr=>simp[results,Tryz.results63,go_sem,RF.c0,RF.c1,RF.c2,RF.c3];rfl
   exact⟨_,rfl,aF KP.bl (Nat.le_refl _) _ _ _ _,HFE.out⟩
theorem LG(w:World)(p0 p1 p2 p3 c0 c1 c2 c3 a b c d p q r s:Nat):
 Kept w w.heap.size [⟨w.heap.size,0,p0,p1,p2,p3⟩,⟨w.heap.size,4,c0,c1,c2,c3⟩,⟨w.heap.size+1,0,a,b,c,d⟩,⟨w.heap.size+1+1,0,p,q,r,s⟩,⟨w.heap.size+1+1+1,0,0,0,0,0⟩]
  ((((w.alloc (.cells #[.int .u64 p0,.int .u64 p1,.int .u64 p2,.int .u64 p3,.int .u64 c0,.int .u64 c1,.int .u64 c2,.int .u64 c3] 65)).alloc (.cells #[.int .u64 a,.int .u64 b,.int .u64 c,.int .u64 d] 37)).alloc (.cells #[.int .u64 p,.int .u64 q,.int .u64 r,.int .u64 s] 37)).alloc (.cells #[.int .u64 0,.int .u64 0,.int .u64 0,.int .u64 0] 37)):=by
 have F:=(((At8.made w 65 p0 p1 p2 p3 c0 c1 c2 c3 rfl).alloc (.cells #[.int .u64 a,.int .u64 b,.int .u64 c,.int .u64 d] 37)).alloc (.cells #[.int .u64 p,.int .u64 q,.int .u64 r,.int .u64 s] 37)).alloc (.cells #[.int .u64 0,.int .u64 0,.int .u64 0,.int .u64 0] 37);refine(((((Kept.mk1 (eR w _ _ _ _) (eR w _ _ _ _).size).cons ?_).cons ?_).cons ?_).cons ?_).cons ?_
 ·exact(At4.made _ 37 0 0 0 0 (by simp)).blk
 ·exact((At4.made _ 37 p q r s (by simp)).alloc _).blk
 ·exact(((At4.made _ 37 a b c d (by simp)).alloc _).alloc _).blk
 ·exact⟨F.c4,F.c5,F.c6,F.c7,F.fz⟩
 ·exact⟨F.c0,F.c1,F.c2,F.c3,F.fz⟩
theorem Bi(w:World)(p0 p1 p2 p3 c0 c1 c2 c3 a b c d:Nat):
 Kept w w.heap.size [⟨w.heap.size,0,p0,p1,p2,p3⟩,⟨w.heap.size,4,c0,c1,c2,c3⟩,⟨w.heap.size+1,0,a,b,c,d⟩,⟨w.heap.size+1+1,0,0,0,0,0⟩]
  (((w.alloc (.cells #[.int .u64 p0,.int .u64 p1,.int .u64 p2,.int .u64 p3,.int .u64 c0,.int .u64 c1,.int .u64 c2,.int .u64 c3] 65)).alloc (.cells #[.int .u64 a,.int .u64 b,.int .u64 c,.int .u64 d] 37)).alloc (.cells #[.int .u64 0,.int .u64 0,.int .u64 0,.int .u64 0] 37)):=by
 have F:=((At8.made w 65 p0 p1 p2 p3 c0 c1 c2 c3 rfl).alloc (.cells #[.int .u64 a,.int .u64 b,.int .u64 c,.int .u64 d] 37)).alloc (.cells #[.int .u64 0,.int .u64 0,.int .u64 0,.int .u64 0] 37);refine((((Kept.mk1 (below3 w _ _ _) (below3 w _ _ _).size).cons ?_).cons ?_).cons ?_).cons ?_
 ·exact(At4.made _ 37 0 0 0 0 (by simp)).blk
 ·exact((At4.made _ 37 a b c d (by simp)).alloc _).blk
 ·exact⟨F.c4,F.c5,F.c6,F.c7,F.fz⟩
 ·exact⟨F.c0,F.c1,F.c2,F.c3,F.fz⟩
theorem LH(w:World)(p0 p1 p2 p3 c0 c1 c2 c3:Nat):
 Kept w w.heap.size [⟨w.heap.size,0,p0,p1,p2,p3⟩,⟨w.heap.size,4,c0,c1,c2,c3⟩,⟨w.heap.size+1,0,0,0,0,0⟩] ((w.alloc (.cells #[.int .u64 p0,.int .u64 p1,.int .u64 p2,.int .u64 p3,.int .u64 c0,.int .u64 c1,.int .u64 c2,.int .u64 c3] 65)).alloc (.cells #[.int .u64 0,.int .u64 0,.int .u64 0,.int .u64 0] 37)):=by
 have F:=(At8.made w 65 p0 p1 p2 p3 c0 c1 c2 c3 rfl).alloc (.cells #[.int .u64 0,.int .u64 0,.int .u64 0,.int .u64 0] 37);refine(((Kept.mk1 (below2 w _ _) (below2 w _ _).size).cons ?_).cons ?_).cons ?_
 ·exact(At4.made _ 37 0 0 0 0 (by simp)).blk
 ·exact⟨F.c4,F.c5,F.c6,F.c7,F.fz⟩
 ·exact⟨F.c0,F.c1,F.c2,F.c3,F.fz⟩
theorem kP(p0 p1 p2 p3 c0 c1 c2 c3 P:Nat)(x:ByteArray)(hR:RefP p0 p1 p2 p3 c0 c1 c2 c3 P)(w:World):
 Calls prog 27 #[.agg #[.int .u64 p0,.int .u64 p1,.int .u64 p2,.int .u64 p3,.int .u64 c0,.int .u64 c1,.int .u64 c2,.int .u64 c3],.string x] w (Ret fun e w'=>Below w.heap.size w w'/\∃(a b c d:Nat) (ok:Bool),e=.tuple #[.agg #[.int .u64 a,.int .u64 b,.int .u64 c,.int .u64 d],.bool ok]/\(ok=true->Ku P x.data/\Four (.agg #[.int .u64 a,.int .u64 b,.int .u64 c,.int .u64 d]) (beV x.data.toList))/\(ok=false->¬Ku P x.data)/\(x.size=32->Four (.agg #[.int .u64 a,.int .u64 b,.int .u64 c,.int .u64 d]) (beV x.data.toList))/\(¬x.size=32->a=0/\b=0/\c=0/\d=0)):=by
 have HR:Hid (RefP p0 p1 p2 p3 c0 c1 c2 c3 P):=hR;clear hR;by_cases hs:x.size=32
 ·have HS:Hid (x.size=32):=hs;have hs':(x.size:Int)=32:=by omega
  clear hs;go_enter Tryz.func27,Tryz.ntmps27;go_wp2_with fail
  have KP:=LH w p0 p1 p2 p3 c0 c1 c2 c3;generalize World.alloc _ _=W0 at KP⊢;refine(Ct x HS.out _).mono ?_;rintro e w1 ⟨v,rfl,hb1,hF⟩;obtain⟨a,b,c,d,rfl,ha,hb,hc,hd,es⟩:=id hF;have HF:Hid (Four _ _):=hF;replace KP:=KP.call hb1;clear hF es hb1 ha hb hc hd;obtain⟨pc0,pc1,pc2,pc3,pf⟩:=KP.head.at4;have z0:=KP.head.lt;have n0:w.heap.size≠w1.heap.size:=Nat.ne_of_lt z0;go_wp2_with fail
  refine(AZ _ _ _ _ HF.out (Four.mk HR.out.hp0 HR.out.hp1 HR.out.hp2 HR.out.hp3 HR.out.eP) _).mono ?_;rintro e w2 ⟨v,rfl,hb2,rfl⟩;have KP2:=((KP.alloc (.cells #[.int .u64 a,.int .u64 b,.int .u64 c,.int .u64 d] 37)).cons (At4.made w1 37 a b c d rfl).blk).call hb2;clear hb2 pc0 pc1 pc2 pc3 pf z0 n0;have n4:w.heap.size+1≠w1.heap.size:=Nat.ne_of_lt KP.tail.tail.head.lt;clear KP;generalize w1.heap.size=k5 at KP2 n4⊢;obtain⟨nc0,nc1,nc2,nc3,nf⟩:=KP2.head.at4;obtain⟨rc0,rc1,rc2,rc3,rf⟩:=KP2.tail.tail.tail.head.at4;have z5:=KP2.head.lt;have z1:=KP2.tail.tail.tail.head.lt;obtain⟨ok,hok⟩:∃ok,decide (beV x.data.toList<P)=ok:=⟨_,rfl⟩
  rw[hok];have HO:Hid (decide (beV x.data.toList<P)=ok):=hok;clear hok;go_wp2;have RF:=KP2.tail.tail.tail.head.at4.self4 a b c d;unfold set4 at RF;refine bodyPost_ret (v:=?v) ?hr rfl ?hR
  case hr=>simp[results,Tryz.results27,go_sem,RF.c0,RF.c1,RF.c2,RF.c3];rfl
  refine⟨_,rfl,aF KP2.bl (Nat.le_succ _) _ _ _ _,a,b,c,d,ok,rfl,fun h=>⟨⟨HS.out,?_⟩,HF.out⟩,fun h hn=>?_,fun _=>HF.out,fun h=>absurd HS.out h⟩
  ·exact of_decide_eq_true (HO.out.trans h)
  ·have:=HO.out;rw[h]at this;exact of_decide_eq_false this hn.2
 ·have hs':¬(x.size:Int)=32:=by omega
  go_enter Tryz.func27,Tryz.ntmps27;go_wp2;refine bodyPost_ret (v:=?v2) ?hr2 rfl ?hR2
  case hr2=>simp[results,Tryz.results27,go_sem];rfl
  exact⟨_,rfl,below2 _ _ _,0,0,0,0,false,rfl,fun h=>Bool.noConfusion h,fun _ h=>hs h.1,fun h=>absurd h hs,fun _=>⟨rfl,rfl,rfl,rfl⟩⟩
theorem mS(n:Nat)(_:n<18446744073709551616)(w:World):Calls prog 65 #[.int .u64 n] w (Ret fun e w'=>Below w.heap.size w w'/\e=.agg #[.int .u64 n,.int .u64 0,.int .u64 0,.int .u64 0]):=by
 go_enter Tryz.func65,Tryz.ntmps65;go_wp2;refine bodyPost_ret (v:=?v) ?hr rfl ?hR
 case hr=>simp[results,Tryz.results65,go_sem];rfl
 exact⟨_,rfl,aE _ _,rfl⟩
theorem nS(x:Value)(m i:Nat)(hx:Four x m)(hi:i<256)(w:World):Calls prog 72 #[x,.int .i64 i] w (Ret fun e w'=>Below w.heap.size w w'/\∃t:Nat,e=.int .u64 t/\t=m/2^i%2):=by
 obtain⟨a,b,c,d,rfl,ha,hb,hc,hd,em⟩:=id hx;have xw:=(At4.made w 37 a b c d rfl).wd (i/64) (by omega);have hwl:wd a b c d (i/64)<18446744073709551616:=EE _ ha hb hc hd;have hbit:wd a b c d (i/64)/2^(i%64)%2=m/2^i%2:=by rw[em];exact Ax i hi ha hb hc hd
 have i2:(i:Int).tdiv 64=((i/64:Nat):Int):=by rw[Int.tdiv_eq_ediv_of_nonneg (by omega)];omega
 have i3:(i:Int).tmod 64=((i%64:Nat):Int):=by rw[Int.tmod_eq_emod_of_nonneg (by omega)];omega
 have i4:(i/64:Nat)<4:=by omega
 generalize wd a b c d (i/64)=v at xw hwl hbit;have hvl:v/2^(i%64)<18446744073709551616:=Nat.lt_of_le_of_lt (Nat.div_le_self _ _) hwl;have hand:bits .and .u64 ((v:Int)/2^(i%64)) 1=((m/2^i%2:Nat):Int):=by
  have:=and_one (v/2^(i%64)) hvl;rw[hbit]at this;rw[<-this,Int.natCast_ediv,Int.natCast_pow];rfl
 obtain⟨t,ht⟩:∃t,m/2^i%2=t:=⟨_,rfl⟩
 rw[ht]at hand;have HT:Hid (t=m/2^i%2):=ht.symm;clear hx em ha hb hc hd hbit ht hvl;go_enter Tryz.func72,Tryz.ntmps72
 go_upto_region 1 with fail
 have zx:w.heap.size<(w.alloc (.cells #[.int .u64 a,.int .u64 b,.int .u64 c,.int .u64 d] 37)).heap.size:=by simp
 have BL:=aE w (.cells #[.int .u64 a,.int .u64 b,.int .u64 c,.int .u64 d] 37);generalize World.alloc _ _=W0 at xw zx BL⊢;go_wp2;go_ret;exact⟨_,rfl,BL,t,rfl,HT.out⟩
theorem Ba(a b:Nat)(ha:a<18446744073709551616)(hb:b<18446744073709551616):∃x:Nat,bits .or .u64 (a:Int) (b:Int)=(x:Int)/\(x=0↔a=0/\b=0)/\x<18446744073709551616:=
 ⟨a ||| b,bits_or_u64_nat a b ha hb,Nat.or_eq_zero_iff,Nat.or_lt_two_pow (n:=64) ha hb⟩
theorem pB(x:Value)(m:Nat)(hx:Four x m)(w:World):Calls prog 33 #[x] w (Ret fun e w'=>Below w.heap.size w w'/\e=.bool (decide (m=0))):=by
 obtain⟨a,b,c,d,rfl,ha,hb,hc,hd,em⟩:=id hx;obtain⟨y,o1,z1,l1⟩:=Ba a b ha hb;obtain⟨z,o2,z2,l2⟩:=Ba y c l1 hc;obtain⟨t,o3,z3,l3⟩:=Ba z d l2 hd;have hz:decide (m=0)=decide (t=0):=by
  rw[decide_eq_decide,z3,z2,z1,em];unfold val;omega
 rw[hz];clear z1 z2 z3 hz em hx;go_enter Tryz.func33,Tryz.ntmps33;go_wp2;go_ret;exact⟨_,rfl,aE _ _,by by_cases h:t=0<;>simp[h]⟩
theorem neg_val{P m s k:Nat}(hm:m<P)(_:P<top)(h0:¬m=0)(hs:s<top)(hk:k<=1)(h:s+m=P+top*k):s=(P-m)%P:=by
 have:k=0\/k=1:=by omega
 rw[Nat.mod_eq_of_lt (by omega)];rcases this with h'|h'<;>rw[h']at h<;>omega
theorem yO(p0 p1 p2 p3 c0 c1 c2 c3 P : Nat)(x : Value)(m : Nat)(hR : RefP p0 p1 p2 p3 c0 c1 c2 c3 P)(hx : Four x m)(hm : m < P)(w : World):
    Calls prog 70 #[.agg #[.int .u64 (p0 : Int), .int .u64 (p1 : Int), .int .u64 (p2 : Int), .int .u64 (p3 : Int), .int .u64 (c0 : Int), .int .u64 (c1 : Int), .int .u64 (c2 : Int), .int .u64 (c3 : Int)], x] w (Ret fun e w' => Below w.heap.size w w' /\ Four e ((P - m) % P)) := by
  have HR : Hid (RefP p0 p1 p2 p3 c0 c1 c2 c3 P) := hR;have HX : Hid (Four x m) := hx;have HM : Hid (m < P) := hm;obtain⟨a, b, c, d, rfl, ha, hb, hc, hd, em⟩ := id hx;clear hR hx hm em ha hb hc hd;go_enter Tryz.func70, Tryz.ntmps70;go_wp2_with fail
  have KP := Bi w p0 p1 p2 p3 c0 c1 c2 c3 a b c d;generalize World.alloc _ _ = W0 at KP⊢;generalize h2 : w.heap.size + 1 + 1 = k2 at KP⊢;generalize h1 : w.heap.size + 1 = k1 at KP⊢;have Q2 : Hid (w.heap.size <= k2) := by unfold Hid; omega
  generalize h0 : w.heap.size = k0 at KP Q2⊢;have H0 : Hid (w.heap.size = k0) := h0;clear h0 h1 h2;refine(pB _ _ HX.out _).mono ?_;rintro e w1 ⟨v, rfl, hb1, rfl⟩;replace KP := KP.call hb1;clear hb1;obtain⟨xc0, xc1, xc2, xc3, xf⟩ := KP.tail.tail.head.at4;have zx := KP.tail.tail.head.lt;by_cases hz : m = 0
  · have hd : decide (m = 0) = true := decide_eq_true hz
    rw [hd];have HZ : Hid (m = 0) := hz;clear hd hz;obtain⟨rc0, rc1, rc2, rc3, rf⟩ := KP.tail.tail.tail.head.at4;have zr := KP.tail.tail.tail.head.lt;go_wp2;have RF := KP.tail.tail.tail.head.at4.self4 a b c d;unfold set4 at RF;refine bodyPost_ret (v := ?v) ?hr rfl ?hR
    case hr => simp [results, Tryz.results70, go_sem, RF.c0, RF.c1, RF.c2, RF.c3]; rfl
    refine⟨_, rfl, by rw [H0.out]; exact aF KP.bl Q2.out _ _ _ _, ?_⟩;have h1 := HX.out;rw [HZ.out]at h1⊢;rw [Nat.sub_zero, Nat.mod_self];exact h1
  · have hd : decide (m = 0) = false := decide_eq_false hz
    rw [hd];have HZ : Hid (¬m = 0) := hz;clear hd hz;obtain⟨fc0, fc1, fc2, fc3, ff⟩ := KP.head.at4;have zf := KP.head.lt;go_wp2_with fail
    refine(lO _ _ _ _ (Four.mk HR.out.hp0 HR.out.hp1 HR.out.hp2 HR.out.hp3 HR.out.eP) HX.out _).mono ?_;rintro e w2 ⟨v, rfl, hb2, v2, t, k, rfl, hF, hk, he⟩;have HF : Hid (Four v2 ((P - m) % P)) := by
      have h1 := neg_val HM.out (by have h3 := HR.out.hP; have h4 := HR.out.hP2; have h5 := HM.out; have h6 : 0 < val c0 c1 c2 c3 ∨ val c0 c1 c2 c3 = 0 := by omega
                                    rcases h6 with h6 | h6
                                    · omega
                                    · have h7 : Four (.agg #[.int .u64 (p0 : Int), .int .u64 (p1 : Int), .int .u64 (p2 : Int), .int .u64 (p3 : Int)]) P := Four.mk HR.out.hp0 HR.out.hp1 HR.out.hp2 HR.out.hp3 HR.out.eP
                                      exact h7.lt) HZ.out hF.lt hk he
      rw [<-h1]; exact hF
    obtain⟨ra, rb, rc, rd, rfl, -⟩ := id hF;replace KP := KP.call hb2;clear hb2 xc0 xc1 xc2 xc3 xf zx fc0 fc1 fc2 fc3 ff zf hF he;obtain⟨rc0, rc1, rc2, rc3, rf⟩ := KP.tail.tail.tail.head.at4;have zr := KP.tail.tail.tail.head.lt;have nr : k2 ≠ w2.heap.size := Nat.ne_of_lt zr;go_wp2;have RF := (KP.tail.tail.tail.head.at4.self4 ra rb rc rd).alloc (.cells #[.int .u64 (ra : Int), .int .u64 (rb : Int), .int .u64 (rc : Int), .int .u64 (rd : Int)] 37);unfold set4 at RF;refine bodyPost_ret (v := ?v2) ?hr2 rfl ?hR2
    case hr2 => simp [results, Tryz.results70, go_sem, RF.c0, RF.c1, RF.c2, RF.c3]; rfl
    refine⟨_, rfl, ?_, HF.out⟩;rw [H0.out];exact(aF KP.bl Q2.out _ _ _ _).alloc (by simpa [set4]using KP.le) _
theorem uFq:(prog.underlying 65).map (·.isRow)=some true:=by kernel_rfl
theorem iFq:(prog.info? 65).map (·.size)=some 8:=by kernel_rfl
def rl1:List Value:=[.int .u64 13822214165235122497,.int .u64 13451932020343611451,.int .u64 18446744073709551614,.int .u64 18446744073709551615,.int .u64 4624529908474429119,.int .u64 4994812053365940164,.int .u64 1,.int .u64 0]
def rv1:Value:=.agg rl1.toArray
theorem Fj:Gives 62 #[.int .i64 1] rv1:=fun w=>(Ld w).mono (by rintro e w' ⟨v,rfl,hb,rfl⟩;exact⟨_,rfl,hb,rfl⟩)
theorem OW:Gives 26 #[] rv1:=by
 intro w;go_enter Tryz.func26,Tryz.ntmps26;refine RG.M.enter [] 2 (by kernel_rfl) ?_;intro a0 M0;repeat refine wp_seq ?_
 refine M0.t [.m 0 [] 0] [(0,(RG.z 8))] [] [(RG.z 8)] [(0,(.p 0 0))] ⟨RG.mk 0 65,trivial⟩ ?_;intro j1 a1 w1 M1;repeat refine wp_seq ?_
 refine M1.t [.c 1 [] rv1,.u [(1,0)] 0] [] [(0,1,rl1)] [rl1] [(0,(.p 0 0))] ⟨RG.cl (Fj),RG.pt iFq,trivial⟩ ?_;intro a2 w2 M2;refine wp_ret ?_;refine bodyPost_ret (v:=rv1) (RG.aD M2.st 0 65 rfl 0 _ rfl (M2.at (s:=(.p 0 0))) uFq iFq) M2.sl.defers ?_;exact⟨_,rfl,M2.st.bel.below,rfl⟩
def nuV(bs:Bs):Nat:=if bs.size=32 then beV bs.toList else 0
theorem Lc{N:Nat}(hR:RefP 13822214165235122497 13451932020343611451 18446744073709551614 18446744073709551615 4624529908474429119 4994812053365940164 1 0 N)(s:ByteArray):Gives 27 #[rv1,.string s] (.tuple #[nv (nuV s.data),.bool (rq N s.data).isSome]):=fun w =>
 (kP _ _ _ _ _ _ _ _ N s hR w).mono (by
  rintro e w' ⟨v,rfl,hb,a,b,c,d,ok,rfl,h1,h2,h3,h4⟩;refine⟨_,rfl,hb,?_⟩;unfold nuV rq;cases ok with
  | true =>
   obtain⟨hi,hF⟩:=h1 rfl;rw[if_pos (show s.data.size=32/\beV s.data.toList<N from hi),if_pos (show s.data.size=32 from hi.1),hF.nv];rfl
  | false =>
   rw[if_neg (show ¬(s.data.size=32/\beV s.data.toList<N) from h2 rfl)];by_cases hs:s.data.size=32
   ·rw[if_pos hs,(h3 hs).nv];rfl
   ·rw[if_neg hs];obtain⟨rfl,rfl,rfl,rfl⟩:=h4 hs;rfl)
theorem nI{N:Nat}{bs:Bs}{n:Nat}(h:rq N bs=some n):n=nuV bs:=by
 unfold rq at h;split at h
 ·rename_i hc
  unfold nuV;rw[if_pos hc.1];exact(Option.some.inj h).symm
 ·cases h
theorem Fq{p0 p1 p2 p3 c0 c1 c2 c3 P:Nat}{x y:Value}{m n:Nat}(hR:RefP p0 p1 p2 p3 c0 c1 c2 c3 P)(hx:Four x m)(hy:Four y n)(w:World):
 Calls prog 36 #[.agg #[.int .u64 p0,.int .u64 p1,.int .u64 p2,.int .u64 p3,.int .u64 c0,.int .u64 c1,.int .u64 c2,.int .u64 c3],x,y] w (Ret fun e w'=>Below w.heap.size w w'/\Four e ((m+n)%P)):=
 Fp p0 p1 p2 p3 c0 c1 c2 c3 P x y m n hR.hp0 hR.hp1 hR.hp2 hR.hp3 hR.hc0 hR.hc1 hR.hc2 hR.hc3 hR.eP hR.hP hR.hP2 hx hy w
theorem rT{p0 p1 p2 p3 c0 c1 c2 c3 P:Nat}{x y:Value}{m n:Nat}(hR:RefP p0 p1 p2 p3 c0 c1 c2 c3 P)(hx:Four x m)(hy:Four y n)(w:World):
 Calls prog 32 #[.agg #[.int .u64 p0,.int .u64 p1,.int .u64 p2,.int .u64 p3,.int .u64 c0,.int .u64 c1,.int .u64 c2,.int .u64 c3],x,y] w (Ret fun e w'=>Below w.heap.size w w'/\Four e (m*n%P)):=
 Fh p0 p1 p2 p3 c0 c1 c2 c3 P x y m n hR.hp0 hR.hp1 hR.hp2 hR.hp3 hR.hc0 hR.hc1 hR.hc2 hR.hc3 hR.eP hR.hP hR.hP2 hx hy w
theorem Ic{P m n:Nat}(hn:n<P):(m+(P-n)%P)%P=(m+P-n)%P:=by
 rw[Nat.add_mod,Nat.mod_mod,<-Nat.add_mod,show m+P-n=m+(P-n) by omega]
theorem Fg(p0 p1 p2 p3 c0 c1 c2 c3 P:Nat)(x y:Value)(m n:Nat)(hR:RefP p0 p1 p2 p3 c0 c1 c2 c3 P)(hx:Four x m)(hy:Four y n)(hn:n<P)(w:World):
 Calls prog 35 #[.agg #[.int .u64 p0,.int .u64 p1,.int .u64 p2,.int .u64 p3,.int .u64 c0,.int .u64 c1,.int .u64 c2,.int .u64 c3],x,y] w (Ret fun e w'=>Below w.heap.size w w'/\Four e ((m+P-n)%P)):=by
 obtain⟨a,b,c,d,rfl,ha,hb,hc,hd,em⟩:=id hx;obtain⟨p,q,r,s,rfl,hp,hq,hr,hs,en⟩:=id hy;have HX:Hid (Four _ _):=hx;have HY:Hid (Four _ _):=hy;have HR:Hid (RefP p0 p1 p2 p3 c0 c1 c2 c3 P):=hR;have HN:Hid (n<P):=hn;clear em en hx hy ha hb hc hd hp hq hr hs hR hn;go_enter Tryz.func35,Tryz.ntmps35;go_wp2_with fail
 have FR:=((((At8.made w 65 p0 p1 p2 p3 c0 c1 c2 c3 rfl).alloc (.cells #[.int .u64 a,.int .u64 b,.int .u64 c,.int .u64 d] 37)).alloc (.cells #[.int .u64 p,.int .u64 q,.int .u64 r,.int .u64 s] 37)).alloc (.cells #[.int .u64 0,.int .u64 0,.int .u64 0,.int .u64 0] 37))
 have X:=(((At4.made (w.alloc (.cells #[.int .u64 p0,.int .u64 p1,.int .u64 p2,.int .u64 p3,.int .u64 c0,.int .u64 c1,.int .u64 c2,.int .u64 c3] 65)) 37 a b c d (World.size_alloc _ _)).alloc (.cells #[.int .u64 p,.int .u64 q,.int .u64 r,.int .u64 s] 37)).alloc (.cells #[.int .u64 0,.int .u64 0,.int .u64 0,.int .u64 0] 37))
 have Y:=((At4.made ((w.alloc (.cells #[.int .u64 p0,.int .u64 p1,.int .u64 p2,.int .u64 p3,.int .u64 c0,.int .u64 c1,.int .u64 c2,.int .u64 c3] 65)).alloc (.cells #[.int .u64 a,.int .u64 b,.int .u64 c,.int .u64 d] 37)) 37 p q r s (k:=w.heap.size+1+1) (by simp)).alloc (.cells #[.int .u64 0,.int .u64 0,.int .u64 0,.int .u64 0] 37))
 have T3:=At4.made (((w.alloc (.cells #[.int .u64 p0,.int .u64 p1,.int .u64 p2,.int .u64 p3,.int .u64 c0,.int .u64 c1,.int .u64 c2,.int .u64 c3] 65)).alloc (.cells #[.int .u64 a,.int .u64 b,.int .u64 c,.int .u64 d] 37)).alloc (.cells #[.int .u64 p,.int .u64 q,.int .u64 r,.int .u64 s] 37)) 37 0 0 0 0 (k:=w.heap.size+1+1+1) (by simp);have KP:=((((Kept.mk1 (eR w (.cells #[.int .u64 p0,.int .u64 p1,.int .u64 p2,.int .u64 p3,.int .u64 c0,.int .u64 c1,.int .u64 c2,.int .u64 c3] 65) (.cells #[.int .u64 a,.int .u64 b,.int .u64 c,.int .u64 d] 37) (.cells #[.int .u64 p,.int .u64 q,.int .u64 r,.int .u64 s] 37) (.cells #[.int .u64 0,.int .u64 0,.int .u64 0,.int .u64 0] 37)) (eR w (.cells #[.int .u64 p0,.int .u64 p1,.int .u64 p2,.int .u64 p3,.int .u64 c0,.int .u64 c1,.int .u64 c2,.int .u64 c3] 65) (.cells #[.int .u64 a,.int .u64 b,.int .u64 c,.int .u64 d] 37) (.cells #[.int .u64 p,.int .u64 q,.int .u64 r,.int .u64 s] 37) (.cells #[.int .u64 0,.int .u64 0,.int .u64 0,.int .u64 0] 37)).size).cons Y.blk).cons X.blk).cons (x:=⟨w.heap.size,4,c0,c1,c2,c3⟩) ⟨FR.c4,FR.c5,FR.c6,FR.c7,FR.fz⟩).cons (x:=⟨w.heap.size,0,p0,p1,p2,p3⟩) ⟨FR.c0,FR.c1,FR.c2,FR.c3,FR.fz⟩;simp only[Int.natCast_zero]at T3;clear FR X Y;generalize World.alloc _ _=W0 at KP T3⊢;generalize h3:w.heap.size+1+1+1=k3 at T3⊢;generalize h2:w.heap.size+1+1=k2 at KP⊢;generalize h1:w.heap.size+1=k1 at KP⊢;have Q3:Hid (w.heap.size<=k3):=by unfold Hid;omega
 generalize h0:w.heap.size=k0 at KP Q3⊢;have H0:Hid (w.heap.size=k0):=h0;have hl3:∀x∈([⟨k0,0,p0,p1,p2,p3⟩,⟨k0,4,c0,c1,c2,c3⟩,⟨k1,0,a,b,c,d⟩,⟨k2,0,p,q,r,s⟩]:List Blk),k3≠x.k:=by simp only[List.mem_cons,List.not_mem_nil,or_false];rintro x (rfl|rfl|rfl|rfl)<;>simp only<;>omega
 clear h0 h1 h2 h3;obtain⟨tc0,tc1,tc2,tc3,tf⟩:=id T3;have zt:=T3.lt;go_region_held3 (fun w'=>w'.cell? ⟨k0,0,none⟩=some (.int .u64 p0)/\w'.cell? ⟨k0,1,none⟩=some (.int .u64 p1)/\w'.cell? ⟨k0,2,none⟩=some (.int .u64 p2)/\w'.cell? ⟨k0,3,none⟩=some (.int .u64 p3)/\w'.cell? ⟨k0,4,none⟩=some (.int .u64 c0)/\w'.cell? ⟨k0,5,none⟩=some (.int .u64 c1)/\w'.cell? ⟨k0,6,none⟩=some (.int .u64 c2)/\w'.cell? ⟨k0,7,none⟩=some (.int .u64 c3)/\w'.cell? ⟨k1,0,none⟩=some (.int .u64 a)/\w'.cell? ⟨k1,1,none⟩=some (.int .u64 b)/\w'.cell? ⟨k1,2,none⟩=some (.int .u64 c)/\w'.cell? ⟨k1,3,none⟩=some (.int .u64 d)/\w'.cell? ⟨k2,0,none⟩=some (.int .u64 p)/\w'.cell? ⟨k2,1,none⟩=some (.int .u64 q)/\w'.cell? ⟨k2,2,none⟩=some (.int .u64 r)/\w'.cell? ⟨k2,3,none⟩=some (.int .u64 s)/\Kept w k0 [⟨k0,0,p0,p1,p2,p3⟩,⟨k0,4,c0,c1,c2,c3⟩,⟨k1,0,a,b,c,d⟩,⟨k2,0,p,q,r,s⟩] w') (first|(with_reducible exact dP KP)|(with_reducible exact dP KP.drew)|(with_reducible exact dP (KP.set4' Q3.out hl3 _ _ _ _))|(with_reducible exact dP (KP.set4' Q3.out hl3 _ _ _ _).drew)|fail) (first|(go_at_call 70;refine(yO p0 p1 p2 p3 c0 c1 c2 c3 P _ _ HR.out HY.out HN.out _).mono ?_;rintro e w1 ⟨v,rfl,hb1,hE1⟩;obtain⟨x0,x1,x2,x3,rfl,-⟩:=id hE1;have HE1:Hid (Four _ _):=hE1;clear hE1;have KP1:=KP.drew.call hb1;have T1:=T3.drew.call hb1;clear KP T3 hb1;have KP:=KP1;have T3:=T1;clear KP1 T1;obtain⟨tc0,tc1,tc2,tc3,tf⟩:=id T3;have zt:=T3.lt)|(go_at_call 36;refine(Fq HR.out HX.out HE1.out _).mono ?_;rintro e w2 ⟨v,rfl,hb2,hF3⟩;rw[Ic HN.out]at hF3;obtain⟨a',b',c',d',rfl,ha',hb',hc',hd',es3⟩:=id hF3;clear es3;have HF3:Hid (Four _ _):=hF3;clear hF3;have KP1:=KP.call hb2;have T1:=T3.call hb2;clear KP T3 hb2;have KP:=KP1;have T3:=T1;clear KP1 T1;obtain⟨tc0,tc1,tc2,tc3,tf⟩:=id T3;have zt:=T3.lt))
 go_wp2;have RF:=T3.self4 a' b' c' d';unfold set4 at RF;refine bodyPost_ret (v:=?v) ?hr rfl ?hR
 case hr=>simp[results,Tryz.results35,go_sem,RF.c0,RF.c1,RF.c2,RF.c3];rfl
 refine⟨_,rfl,?_,HF3.out⟩;rw[H0.out];exact aF KP.bl Q3.out _ _ _ _
theorem yN(p0 p1 p2 p3 c0 c1 c2 c3 P:Nat)(x y:Value)(m n:Nat)(hR:RefP p0 p1 p2 p3 c0 c1 c2 c3 P)(hx:Four x m)(hy:Four y n)(w:World):
 Calls prog 74 #[.agg #[.int .u64 p0,.int .u64 p1,.int .u64 p2,.int .u64 p3,.int .u64 c0,.int .u64 c1,.int .u64 c2,.int .u64 c3],x,y] w (Ret fun e w'=>Below w.heap.size w w'/\Four e (m^n%P)):=by
 obtain⟨a,b,c,d,rfl,ha,hb,hc,hd,em⟩:=id hx;obtain⟨p,q,r,s,rfl,hp,hq,hr,hs,en⟩:=id hy;have HX:Hid (Four _ _):=hx;have HY:Hid (Four _ _):=hy;have HR:Hid (RefP p0 p1 p2 p3 c0 c1 c2 c3 P):=hR;clear em en hx hy ha hb hc hd hp hq hr hs hR;go_enter Tryz.func74,Tryz.ntmps74;go_wp2_with fail
 have KP:=LG w p0 p1 p2 p3 c0 c1 c2 c3 a b c d p q r s;generalize World.alloc _ _=W0 at KP⊢;generalize h3:w.heap.size+1+1+1=k3 at KP⊢;generalize h2:w.heap.size+1+1=k2 at KP⊢;generalize h1:w.heap.size+1=k1 at KP⊢;have Q3:Hid (w.heap.size<=k3):=by unfold Hid;omega
 generalize h0:w.heap.size=k0 at KP Q3⊢;have H0:Hid (w.heap.size=k0):=h0;clear h0 h1 h2 h3;refine(mS 1 (by decide) _).mono ?_;rintro e w1 ⟨v,rfl,hb1,rfl⟩;replace KP:=KP.call hb1;clear hb1;go_wp2;have KN:Kept w k0 (⟨w1.heap.size,0,1,0,0,0⟩ :: [⟨k0,0,p0,p1,p2,p3⟩,⟨k0,4,c0,c1,c2,c3⟩,⟨k1,0,a,b,c,d⟩,⟨k2,0,p,q,r,s⟩,⟨k3,0,0,0,0,0⟩]) _:=(KP.alloc (.cells #[.int .u64 1,.int .u64 0,.int .u64 0,.int .u64 0] 37)).cons (At4.made w1 37 1 0 0 0 rfl).blk;have Q7:Hid (k0<=w1.heap.size):=KP.le;have hlt:=KP.lts;clear KP;generalize World.alloc _ _=W1 at KN⊢;generalize w1.heap.size=k7 at KN hlt Q7⊢;have hl7:∀x∈([⟨k0,0,p0,p1,p2,p3⟩,⟨k0,4,c0,c1,c2,c3⟩,⟨k1,0,a,b,c,d⟩,⟨k2,0,p,q,r,s⟩,⟨k3,0,0,0,0,0⟩]:List Blk),k7≠x.k:=fun x hx=>Nat.ne_of_gt (hlt x hx)
 have n70:k7≠k0:=hl7 _ (List.mem_cons_self);have n71:k7≠k1:=hl7 ⟨k1,0,a,b,c,d⟩ (by simp);have n72:k7≠k2:=hl7 ⟨k2,0,p,q,r,s⟩ (by simp);have n73:k7≠k3:=hl7 ⟨k3,0,0,0,0,0⟩ (by simp);clear hlt;go_loopg [8] 256 (fun gk s8 wr=>gk<=256/\s8=.int .i64 ((gk:Int)-1)/\∃na nb nc nd:Nat,Kept w k0 (⟨k7,0,na,nb,nc,nd⟩ :: [⟨k0,0,p0,p1,p2,p3⟩,⟨k0,4,c0,c1,c2,c3⟩,⟨k1,0,a,b,c,d⟩,⟨k2,0,p,q,r,s⟩,⟨k3,0,0,0,0,0⟩]) wr/\Hid (Four (.agg #[.int .u64 na,.int .u64 nb,.int .u64 nc,.int .u64 nd]) (m^(n/2^gk)%P)))
 case atStart =>
  refine⟨Nat.le_refl _,rfl,1,0,0,0,KN,?_⟩;have h1:=HR.out.hP2;have h2:3<top:=by decide
  rw[show n/2^256=0 from Nat.div_eq_of_lt HY.out.lt,Nat.pow_zero,Nat.mod_eq_of_lt (by omega)];exact Four.mk (by decide) (by decide) (by decide) (by decide) rfl
 case round =>
  clear KN;obtain⟨hg,rfl,na,nb,nc,nd,KP,HF⟩:=hrel;obtain⟨tc0,tc1,tc2,tc3,tf⟩:=KP.head.at4;have zt:=KP.head.lt;by_cases hz:gk=0
  ·subst hz;have HF0:=HF.out;rw[Nat.pow_zero,Nat.div_one]at HF0;have HFE:Hid (Four _ _):=HF0;clear HF0 HF;obtain⟨rc0,rc1,rc2,rc3,rf⟩:=KP.tail.tail.tail.tail.tail.head.at4;have zr:=KP.tail.tail.tail.tail.tail.head.lt;go_wp2;have RF:=KP.tail.tail.tail.tail.tail.head.at4.self4 na nb nc nd;unfold set4 at RF;refine bodyPost_ret (v:=?v) ?hr rfl ?hR
   case hr=>simp[results,Tryz.results74,go_sem,RF.c0,RF.c1,RF.c2,RF.c3];rfl
   refine⟨_,rfl,?_,HFE.out⟩;rw[H0.out];exact aF KP.bl Q3.out _ _ _ _
  ·obtain⟨i,hi⟩:∃i,gk=i+1:=⟨gk-1,by omega⟩
   have e1:(gk:Int)-1=(i:Int):=by omega
   rw[e1];have d1:(0:Int)<=(i:Int):=by omega
   have hi2:i<256:=by omega
   obtain⟨E,hE⟩:∃E,n/2^gk=E:=⟨_,rfl⟩
   rw[hE]at HF;rw[hi]at hE;have HE:Hid (n/2^(i+1)=E):=hE;have HI:Hid (gk=i+1):=hi;clear hE hi e1;obtain⟨fc0,fc1,fc2,fc3,ff⟩:=KP.tail.head.at4;have fb:=KP.tail.tail.head;obtain⟨fd0,fd1,fd2,fd3,fg⟩:=id fb;replace fd0:wr.cell? ⟨k0,4,none⟩=some (.int .u64 c0):=fd0;replace fd1:wr.cell? ⟨k0,5,none⟩=some (.int .u64 c1):=fd1;replace fd2:wr.cell? ⟨k0,6,none⟩=some (.int .u64 c2):=fd2;replace fd3:wr.cell? ⟨k0,7,none⟩=some (.int .u64 c3):=fd3;have zf:=KP.tail.head.lt;go_wp2_with fail
   clear tc0 tc1 tc2 tc3 tf zt fc0 fc1 fc2 fc3 ff fb fd0 fd1 fd2 fd3 fg zf;refine(rT HR.out HF.out HF.out _).mono ?_;rintro e w2 ⟨v,rfl,hb2,hF3⟩;rw[fH]at hF3;obtain⟨ya,yb,yc,yd,rfl,-⟩:=id hF3;clear HF;have HF:Hid (Four _ _):=hF3;clear hF3;replace KP:=KP.call hb2;clear hb2;obtain⟨tc0,tc1,tc2,tc3,tf⟩:=KP.head.at4;have zt:=KP.head.lt;obtain⟨ec0,ec1,ec2,ec3,ef⟩:=KP.tail.tail.tail.tail.head.at4;have ze:=KP.tail.tail.tail.tail.head.lt;go_wp2_with fail
   clear tc0 tc1 tc2 tc3 tf zt ec0 ec1 ec2 ec3 ef ze;have KP2:=KP.put Q7.out hl7 ya yb yc yd;clear KP;generalize World.setCell _ _ _=WX at KP2⊢;refine(nS _ _ i HY.out hi2 _).mono ?_;rintro e w3 ⟨v,rfl,hb3,t,rfl,ht⟩;have KP:=KP2.call hb3;have HT:Hid (t=n/2^i%2):=ht;have ht2:t=0\/t=1:=by omega
   clear hb3 KP2 ht;rcases ht2 with rfl|rfl
   ·go_wp2;go_roundg (gk-1)
    case measure=>omega
    case rel =>
     refine⟨by omega,?_,ya,yb,yc,yd,KP,?_⟩
     ·have:=HI.out
      congr 1
      omega
     ·have h1:=HF.out;unfold Hid;rw[HI.out,Nat.add_sub_cancel,wW n i,HE.out,<-HT.out,Nat.add_zero];exact h1
   ·obtain⟨tc0,tc1,tc2,tc3,tf⟩:=KP.head.at4;have zt:=KP.head.lt;obtain⟨ac0,ac1,ac2,ac3,af⟩:=KP.tail.tail.tail.head.at4;have za:=KP.tail.tail.tail.head.lt;obtain⟨fc0,fc1,fc2,fc3,ff⟩:=KP.tail.head.at4;have fb:=KP.tail.tail.head;obtain⟨fd0,fd1,fd2,fd3,fg⟩:=id fb;replace fd0:w3.cell? ⟨k0,4,none⟩=some (.int .u64 c0):=fd0;replace fd1:w3.cell? ⟨k0,5,none⟩=some (.int .u64 c1):=fd1;replace fd2:w3.cell? ⟨k0,6,none⟩=some (.int .u64 c2):=fd2;replace fd3:w3.cell? ⟨k0,7,none⟩=some (.int .u64 c3):=fd3;have zf:=KP.tail.head.lt;go_wp2_with fail
    clear tc0 tc1 tc2 tc3 tf zt fc0 fc1 fc2 fc3 ff fb fd0 fd1 fd2 fd3 fg zf ac0 ac1 ac2 ac3 af za;refine(rT HR.out HF.out HX.out _).mono ?_;rintro e w4 ⟨v,rfl,hb4,hF3⟩;rw[nU]at hF3;obtain⟨ua,ub,uc,ud,rfl,-⟩:=id hF3;clear HF;have HF:Hid (Four _ _):=hF3;clear hF3;replace KP:=KP.call hb4;clear hb4;obtain⟨tc0,tc1,tc2,tc3,tf⟩:=KP.head.at4;have zt:=KP.head.lt;go_wp2;go_roundg (gk-1)
    case measure=>omega
    case rel =>
     refine⟨by omega,?_,ua,ub,uc,ud,KP.put Q7.out hl7 ua ub uc ud,?_⟩
     ·have:=HI.out
      congr 1
      omega
     ·have h1:=HF.out;unfold Hid;rw[HI.out,Nat.add_sub_cancel,wW n i,HE.out,<-HT.out];exact h1
theorem Fo(p0 p1 p2 p3 c0 c1 c2 c3 P:Nat)(x:Value)(m:Nat)(hR:RefP p0 p1 p2 p3 c0 c1 c2 c3 P)(hx:Four x m)(w:World):
 Calls prog 39 #[.agg #[.int .u64 p0,.int .u64 p1,.int .u64 p2,.int .u64 p3,.int .u64 c0,.int .u64 c1,.int .u64 c2,.int .u64 c3],x] w (Ret fun e w'=>Below w.heap.size w w'/\Four e (m^(P-2)%P)):=by
 have HR:Hid (RefP p0 p1 p2 p3 c0 c1 c2 c3 P):=hR;have HX:Hid (Four x m):=hx;obtain⟨a,b,c,d,rfl,ha,hb,hc,hd,em⟩:=id hx;clear hR hx em ha hb hc hd;go_enter Tryz.func39,Tryz.ntmps39;go_wp2_with fail
 have KP:=Bi w p0 p1 p2 p3 c0 c1 c2 c3 a b c d;generalize World.alloc _ _=W0 at KP⊢;generalize h2:w.heap.size+1+1=k2 at KP⊢;generalize h1:w.heap.size+1=k1 at KP⊢;have Q2:Hid (w.heap.size<=k2):=by unfold Hid;omega
 generalize h0:w.heap.size=k0 at KP Q2⊢;have H0:Hid (w.heap.size=k0):=h0;clear h0 h1 h2;have hP4:Four (.agg #[.int .u64 p0,.int .u64 p1,.int .u64 p2,.int .u64 p3]) P:=Four.mk HR.out.hp0 HR.out.hp1 HR.out.hp2 HR.out.hp3 HR.out.eP;refine(lO _ _ P 2 hP4 (Four.mk (a:=2) (b:=0) (c:=0) (d:=0) (by decide) (by decide) (by decide) (by decide) rfl) _).mono ?_;rintro e w1 ⟨v,rfl,hb1,v2,t,k,rfl,hF,hk,he⟩;have ht:t=P-2:=by
  have h1:=hF.lt;have h2:=hP4.lt;have h3:=HR.out.hP2;have h4:3<top:=by decide
  have:k=0\/k=1:=by omega
  rcases this with h|h<;>rw[h]at he<;>omega
 have HE:Hid (Four v2 (P-2)):=by unfold Hid;rw[<-ht];exact hF
 obtain⟨ea,eb,ec,ed,rfl,-⟩:=id hF;replace KP:=KP.call hb1;clear hb1 hF ht he hP4;obtain⟨xc0,xc1,xc2,xc3,xf⟩:=KP.tail.tail.head.at4;have zx:=KP.tail.tail.head.lt;obtain⟨fc0,fc1,fc2,fc3,ff⟩:=KP.head.at4;have fb:=KP.tail.head;obtain⟨fd0,fd1,fd2,fd3,fg⟩:=id fb;replace fd0:w1.cell? ⟨k0,4,none⟩=some (.int .u64 c0):=fd0;replace fd1:w1.cell? ⟨k0,5,none⟩=some (.int .u64 c1):=fd1;replace fd2:w1.cell? ⟨k0,6,none⟩=some (.int .u64 c2):=fd2;replace fd3:w1.cell? ⟨k0,7,none⟩=some (.int .u64 c3):=fd3;have zf:=KP.head.lt;have n0:k0≠w1.heap.size:=Nat.ne_of_lt zf;have n1:k1≠w1.heap.size:=Nat.ne_of_lt zx;go_wp2_with fail
 clear xc0 xc1 xc2 xc3 xf zx fc0 fc1 fc2 fc3 ff fb fd0 fd1 fd2 fd3 fg zf n0 n1;refine(yN p0 p1 p2 p3 c0 c1 c2 c3 P _ _ _ _ HR.out HX.out HE.out _).mono ?_;rintro e w2 ⟨v,rfl,hb2,hF⟩;replace KP:=(KP.alloc _).call hb2;clear hb2;obtain⟨qa,qb,qc,qd,rfl,-⟩:=id hF;have HF:Hid (Four _ _):=hF;clear hF;obtain⟨rc0,rc1,rc2,rc3,rf⟩:=KP.tail.tail.tail.head.at4;have zr:=KP.tail.tail.tail.head.lt;go_wp2;have RF:=KP.tail.tail.tail.head.at4.self4 qa qb qc qd;unfold set4 at RF;refine bodyPost_ret (v:=?v) ?hr rfl ?hR
 case hr=>simp[results,Tryz.results39,go_sem,RF.c0,RF.c1,RF.c2,RF.c3];rfl
 refine⟨_,rfl,?_,HF.out⟩;rw[H0.out];exact aF KP.bl Q2.out _ _ _ _
theorem I3(v t r:Nat)(hr:r<64)(hv:v<2^r)(ht:t<2):bits .or .u64 (v:Int) ((t*2^r:Nat):Int)=((v+t*2^r:Nat):Int)/\v+t*2^r<18446744073709551616:=by
 have h1:2^r<=2^63:=Nat.pow_le_pow_right (by decide) (by omega);have h2:t*2^r<=1*2^r:=Nat.mul_le_mul_right _ (by omega);have h3:(2:Nat)^63=9223372036854775808:=by decide
 have e:=Nat.two_pow_add_eq_or_of_lt hv t;refine⟨?_,by omega⟩;rw[bits_or_u64_nat _ _ (by omega) (by omega),Nat.or_comm,Nat.mul_comm t,<-e,Nat.add_comm]
theorem A2{a b c d Q i:Nat}(ha:a<18446744073709551616)(hb:b<18446744073709551616)(hc:c<18446744073709551616)(hd:d<18446744073709551616)(hi:i<256)(hv:val a b c d=Q%2^i):wd a b c d (i/64)<2^(i%64):=by
 rw[EF (i/64) (by omega) ha hb hc hd,hv];refine Nat.lt_of_le_of_lt (Nat.mod_le _ _) ?_;refine Nat.div_lt_of_lt_mul ?_;rw[<-Nat.pow_add,show 64*(i/64)+i%64=i by omega];exact Nat.mod_lt _ (Nat.pow_pos (by decide))
theorem A3{a b c d Q i t o:Nat}(hi:i<256)(hv:val a b c d=Q%2^i)(ht:t=Q/2^i%2)(ho:o=wd a b c d (i/64)+t*2^(i%64)):
 val (if i/64=0 then o else a) (if i/64=1 then o else b) (if i/64=2 then o else c) (if i/64=3 then o else d)=Q%2^(i+1):=by
 have h:=Cc a b c d (i/64) o (by omega);have e:(2:Nat)^i=2^(64*(i/64))*2^(i%64):=by
  rw[<-Nat.pow_add,show 64*(i/64)+i%64=i by omega]
 rw[ho,Nat.mul_add,<-Nat.mul_assoc,Nat.mul_comm (2^(64*(i/64))) t,Nat.mul_assoc,<-e]at h;rw[ho,Nat.pow_succ,Nat.mod_mul,<-ht,Nat.mul_comm (2^i)];omega
theorem rI{w W:World}{k0 k1 k2 k3 j v p0 p1 p2 p3 c0 c1 c2 c3 a b c d qa qb qc qd:Nat}(h:Kept w k0 (⟨k3,0,qa,qb,qc,qd⟩ :: [⟨k0,0,p0,p1,p2,p3⟩,⟨k0,4,c0,c1,c2,c3⟩,⟨k1,0,a,b,c,d⟩,⟨k2,0,0,0,0,0⟩]) W)(hx:W.cell? ⟨k3,j,none⟩=some (.int .u64 v)):W.cell? ⟨k0,0,none⟩=some (.int .u64 p0)/\W.cell? ⟨k0,1,none⟩=some (.int .u64 p1)/\W.cell? ⟨k0,2,none⟩=some (.int .u64 p2)/\W.cell? ⟨k0,3,none⟩=some (.int .u64 p3)/\W.cell? ⟨k3,j,none⟩=some (.int .u64 v)/\Kept w k0 (⟨k3,0,qa,qb,qc,qd⟩ :: [⟨k0,0,p0,p1,p2,p3⟩,⟨k0,4,c0,c1,c2,c3⟩,⟨k1,0,a,b,c,d⟩,⟨k2,0,0,0,0,0⟩]) W:=
 ⟨h.tail.head.c0,h.tail.head.c1,h.tail.head.c2,h.tail.head.c3,hx,h⟩
theorem qR{w W:World}{k0 k1 k2 k8 p0 p1 p2 p3 c0 c1 c2 c3 a b c d ra rb rc rd:Nat}(h:Kept w k0 (⟨k8,0,ra,rb,rc,rd⟩ :: [⟨k0,0,p0,p1,p2,p3⟩,⟨k0,4,c0,c1,c2,c3⟩,⟨k1,0,a,b,c,d⟩,⟨k2,0,0,0,0,0⟩]) W):W.cell? ⟨k0,0,none⟩=some (.int .u64 p0)/\W.cell? ⟨k0,1,none⟩=some (.int .u64 p1)/\W.cell? ⟨k0,2,none⟩=some (.int .u64 p2)/\W.cell? ⟨k0,3,none⟩=some (.int .u64 p3)/\W.cell? ⟨k0,4,none⟩=some (.int .u64 c0)/\W.cell? ⟨k0,5,none⟩=some (.int .u64 c1)/\W.cell? ⟨k0,6,none⟩=some (.int .u64 c2)/\W.cell? ⟨k0,7,none⟩=some (.int .u64 c3)/\W.cell? ⟨k8,0,none⟩=some (.int .u64 ra)/\W.cell? ⟨k8,1,none⟩=some (.int .u64 rb)/\W.cell? ⟨k8,2,none⟩=some (.int .u64 rc)/\W.cell? ⟨k8,3,none⟩=some (.int .u64 rd)/\W.cell? ⟨k1,0,none⟩=some (.int .u64 a)/\W.cell? ⟨k1,1,none⟩=some (.int .u64 b)/\W.cell? ⟨k1,2,none⟩=some (.int .u64 c)/\W.cell? ⟨k1,3,none⟩=some (.int .u64 d)/\Kept w k0 (⟨k8,0,ra,rb,rc,rd⟩ :: [⟨k0,0,p0,p1,p2,p3⟩,⟨k0,4,c0,c1,c2,c3⟩,⟨k1,0,a,b,c,d⟩,⟨k2,0,0,0,0,0⟩]) W:=
 ⟨h.tail.head.c0,h.tail.head.c1,h.tail.head.c2,h.tail.head.c3,h.tail.tail.head.c0,h.tail.tail.head.c1,h.tail.tail.head.c2,h.tail.tail.head.c3,h.head.c0,h.head.c1,h.head.c2,h.head.c3,h.tail.tail.tail.head.c0,h.tail.tail.tail.head.c1,h.tail.tail.tail.head.c2,h.tail.tail.tail.head.c3,h⟩
theorem uN(p0 p1 p2 p3 c0 c1 c2 c3 P:Nat)(x:Value)(m:Nat)(hR:RefP p0 p1 p2 p3 c0 c1 c2 c3 P)(hP1:P/4%18446744073709551616<18446744073709551615)(hx:Four x m)(w:World):
 Calls prog 101 #[.agg #[.int .u64 p0,.int .u64 p1,.int .u64 p2,.int .u64 p3,.int .u64 c0,.int .u64 c1,.int .u64 c2,.int .u64 c3],x] w (Ret fun e w'=>Below w.heap.size w w'/\RootR P m (m^(P/4+1)%P) e):=by
 obtain⟨a,b,c,d,rfl,ha,hb,hc,hd,em⟩:=id hx;have HX:Hid (Four _ m):=hx;have HR:Hid (RefP p0 p1 p2 p3 c0 c1 c2 c3 P):=hR;have HP1:Hid (P/4%18446744073709551616<18446744073709551615):=hP1;have HP4:Hid (Four (.agg #[.int .u64 p0,.int .u64 p1,.int .u64 p2,.int .u64 p3]) P):=Four.mk hR.hp0 hR.hp1 hR.hp2 hR.hp3 hR.eP;obtain⟨R,hRe⟩:∃R,m^(P/4+1)%P=R:=⟨_,rfl⟩
 have hRP:R<P:=by
  rw[<-hRe];refine Nat.mod_lt _ ?_;have:=hR.hP2;omega
 rw[hRe];have HRE:Hid (m^(P/4+1)%P=R):=hRe;have HRP:Hid (R<P):=hRP;clear em hx ha hb hc hd hR hRe hRP hP1;go_enter Tryz.func101,Tryz.ntmps101;go_wp2;have K0:=Bi w p0 p1 p2 p3 c0 c1 c2 c3 a b c d;have K1:=(K0.alloc (.cells #[.int .u64 0,.int .u64 0,.int .u64 0,.int .u64 0] 37)).cons (At4.made _ 37 0 0 0 0 rfl).blk;have hz:(((w.alloc (.cells #[.int .u64 p0,.int .u64 p1,.int .u64 p2,.int .u64 p3,.int .u64 c0,.int .u64 c1,.int .u64 c2,.int .u64 c3] 65)).alloc (.cells #[.int .u64 a,.int .u64 b,.int .u64 c,.int .u64 d] 37)).alloc (.cells #[.int .u64 0,.int .u64 0,.int .u64 0,.int .u64 0] 37)).heap.size=w.heap.size+1+1+1:=by simp
 rw[hz]at K1;clear K0 hz;generalize World.alloc _ _=W0 at K1⊢;generalize h3:w.heap.size+1+1+1=k3 at K1⊢;generalize h2:w.heap.size+1+1=k2 at K1⊢;generalize h1:w.heap.size+1=k1 at K1⊢;have Q2:Hid (w.heap.size<=k2):=by unfold Hid;omega
 have Q3:Hid (w.heap.size<=k3):=by unfold Hid;omega
 generalize h0:w.heap.size=k0 at K1 Q2 Q3⊢;have H0:Hid (w.heap.size=k0):=h0;have n30:k3≠k0:=by omega
 have n31:k3≠k1:=by omega
 have n32:k3≠k2:=by omega
 clear h0 h1 h2 h3;have hl3:∀x∈([⟨k0,0,p0,p1,p2,p3⟩,⟨k0,4,c0,c1,c2,c3⟩,⟨k1,0,a,b,c,d⟩,⟨k2,0,0,0,0,0⟩]:List Blk),k3≠x.k:=by simp only[List.mem_cons,List.not_mem_nil,or_false];rintro x (rfl|rfl|rfl|rfl);exact n30;exact n30;exact n31;exact n32
 go_loopg [7] 254 (fun gk s7 wr=>∃i qa qb qc qd:Nat,i+gk=254/\s7=.int .i64 i/\Kept w k0 (⟨k3,0,qa,qb,qc,qd⟩ :: [⟨k0,0,p0,p1,p2,p3⟩,⟨k0,4,c0,c1,c2,c3⟩,⟨k1,0,a,b,c,d⟩,⟨k2,0,0,0,0,0⟩]) wr/\Hid (Four (.agg #[.int .u64 qa,.int .u64 qb,.int .u64 qc,.int .u64 qd]) (P/4%2^i)))
 case atStart =>
  refine⟨0,0,0,0,0,rfl,rfl,K1,?_⟩;rw[Nat.pow_zero,Nat.mod_one];exact Four.mk (by decide) (by decide) (by decide) (by decide) rfl
 case round =>
  clear K1;obtain⟨i,qa,qb,qc,qd,hi,rfl,KP,HF⟩:=hrel;by_cases hlt:i<254
  ·have hF:val qa qb qc qd=P/4%2^i/\qa<18446744073709551616/\qb<18446744073709551616/\qc<18446744073709551616/\qd<18446744073709551616:=by
    obtain⟨a',b',c',d',e',h1,h2,h3,h4,h5⟩:=HF.out;obtain⟨rfl,rfl,rfl,rfl⟩:a'=qa/\b'=qb/\c'=qc/\d'=qd:=by
     simp only[Value.agg.injEq,Array.mk.injEq,List.cons.injEq,Value.int.injEq,true_and,and_true,Int.ofNat_inj]at e';exact⟨e'.1.symm,e'.2.1.symm,e'.2.2.1.symm,e'.2.2.2.symm⟩
    exact⟨h5.symm,h1,h2,h3,h4⟩
   have hwl:=A2 hF.2.1 hF.2.2.1 hF.2.2.2.1 hF.2.2.2.2 (i:=i) (by omega) hF.1;have xw:=KP.head.at4.wd (i/64) (by omega);obtain⟨t,ht⟩:∃t,P/2^(i+2)%2=t:=⟨_,rfl⟩
   have ht2:t<2:=by omega
   have htq:t=P/4/2^i%2:=by rw[<-ht,Nat.div_div_eq_div_mul,show 4*2^i=2^(i+2) by rw[Nat.pow_add,Nat.mul_comm]]
   obtain⟨o,ho⟩:∃o,wd qa qb qc qd (i/64)+t*2^(i%64)=o:=⟨_,rfl⟩
   have hst:=A3 (i:=i) (by omega) hF.1 htq ho.symm;obtain⟨hor,hol⟩:=I3 _ t (i%64) (by omega) hwl ht2;rw[ho]at hor hol;have HST:Hid (Four (.agg #[.int .u64 ((if i/64=0 then o else qa:Nat):Int),.int .u64 ((if i/64=1 then o else qb:Nat):Int),.int .u64 ((if i/64=2 then o else qc:Nat):Int),.int .u64 ((if i/64=3 then o else qd:Nat):Int)]) (P/4%2^(i+1))):=by
    refine Four.mk ?_ ?_ ?_ ?_ hst.symm
    ·split;exact hol;exact hF.2.1
    ·split;exact hol;exact hF.2.2.1
    ·split;exact hol;exact hF.2.2.2.1
    ·split;exact hol;exact hF.2.2.2.2
   obtain⟨y,hy⟩:∃y,t*2^(i%64)=y:=⟨_,rfl⟩
   have hyl:y<18446744073709551616:=by omega
   rw[hy]at hor;obtain⟨v,hv⟩:∃v,wd qa qb qc qd (i/64)=v:=⟨_,rfl⟩
   rw[hv]at hor xw;obtain⟨j,hj⟩:∃j,i/64=j:=⟨_,rfl⟩
   obtain⟨r,hr⟩:∃r,i%64=r:=⟨_,rfl⟩
   obtain⟨i2,hi2⟩:∃i2,i+2=i2:=⟨_,rfl⟩
   rw[hj]at xw HST;have hsh:IntKind.u64.wrap ((t:Int)*2^r)=(y:Int):=by
    rw[<-hr,<-hy,Int.natCast_mul,Int.natCast_pow];have:=wrapN (t*2^(i%64)) (by omega);rw[Int.natCast_mul,Int.natCast_pow]at this;exact this
   have HBT:Hid (∀w,Calls prog 72 #[.agg #[.int .u64 p0,.int .u64 p1,.int .u64 p2,.int .u64 p3],.int .i64 i2] w (Ret fun e w'=>Below w.heap.size w w'/\∃t:Nat,e=.int .u64 t/\t=P/2^i2%2)):=fun w=>nS _ P i2 HP4.out (by omega) w
   have HT:Hid (P/2^i2%2=t):=by unfold Hid;rw[<-hi2];exact ht
   have e1:(i:Int).tdiv 64=(j:Int):=by rw[Int.tdiv_eq_ediv_of_nonneg (by omega)];omega
   have e2:(i:Int).tmod 64=(r:Int):=by rw[Int.tmod_eq_emod_of_nonneg (by omega)];omega
   have e3:(j:Int)<4:=by omega
   have e4:IntKind.i64.wrap (j:Int)=(j:Int):=f8 _ (by omega);have e5:IntKind.i64.wrap (r:Int)=(r:Int):=f8 _ (by omega);have e6:(i:Int)+2=(i2:Int):=by omega
   have e7:IntKind.i64.wrap (i2:Int)=(i2:Int):=f8 _ (by omega);have e8:(r:Int)<64:=by omega
   have e9:r<64:=by omega
   have hlt':(i:Int)<254:=by omega
   have T1:=fun W (h:At4 W k3 qa qb qc qd)=>At4.setq h j o (by omega)
   have hj4:j<4:=by omega
   have XJ:=fun W (h:At4 W k3 qa qb qc qd)=>At4.wd h j hj4
   rw[<-hj,hv,hj]at XJ;have HJ:Hid (j<4):=hj4;clear hy hv hj hr ho hst hF ht htq hwl hi2 HF hj4
   go_upto_region 5 with fail
   refine anyTill.begin (fun w'=>w'.cell? ⟨k0,0,none⟩=some (.int .u64 p0)/\w'.cell? ⟨k0,1,none⟩=some (.int .u64 p1)/\w'.cell? ⟨k0,2,none⟩=some (.int .u64 p2)/\w'.cell? ⟨k0,3,none⟩=some (.int .u64 p3)/\w'.cell? ⟨k3,j,none⟩=some (.int .u64 v)/\Kept w k0 (⟨k3,0,qa,qb,qc,qd⟩ :: [⟨k0,0,p0,p1,p2,p3⟩,⟨k0,4,c0,c1,c2,c3⟩,⟨k1,0,a,b,c,d⟩,⟨k2,0,0,0,0,0⟩]) w') 16 mixed (rI KP.drew (XJ _ KP.head.at4.drew)) (fun hS=>?_);refine anyTill.tk (i:=0) (v:=?_) rfl (Or.inl ⟨by rfl,?_⟩) hS ?_
   rotate_left
   ·intro w hSw
    (try dsimp only at hSw)
    go_simp;try(with_reducible rfl)
   simp only[Act.put,List.setIfInBounds_toArray];refine anyTill.tk (i:=1) (v:=?_) rfl (Or.inl ⟨by rfl,?_⟩) hS ?_
   rotate_left
   ·intro w hSw
    (try dsimp only at hSw)
    go_simp;try(with_reducible rfl)
   simp only[Act.put];refine anyTill.tk (i:=2) (v:=?_) rfl (Or.inl ⟨by rfl,?_⟩) hS ?_
   rotate_left
   ·intro w hSw
    (try dsimp only at hSw)
    go_simp;try(with_reducible rfl)
   simp only[Act.put];refine anyTill.tk (i:=3) (v:=?_) rfl (Or.inl ⟨by rfl,?_⟩) hS ?_
   rotate_left
   ·intro w hSw
    (try dsimp only at hSw)
    go_simp;try(with_reducible rfl)
   simp only[Act.put];refine anyTill.tk (i:=4) (v:=?_) rfl (Or.inl ⟨by rfl,?_⟩) hS ?_
   rotate_left
   ·intro w hSw
    (try dsimp only at hSw)
    go_simp;try(with_reducible rfl)
   simp only[Act.put];refine anyTill.tk (i:=5) (v:=?_) rfl (Or.inl ⟨by rfl,?_⟩) hS ?_
   rotate_left
   ·intro w hSw
    (try dsimp only at hSw)
    go_simp;try(with_reducible rfl)
   simp only[Act.put];refine anyTill.tk (i:=6) (v:=?_) rfl (Or.inl ⟨by rfl,?_⟩) hS ?_
   rotate_left
   ·intro w hSw
    (try dsimp only at hSw)
    go_simp;try(with_reducible rfl)
   simp only[Act.put];refine anyTill.tk (i:=7) (v:=?_) rfl (Or.inl ⟨by rfl,?_⟩) hS ?_
   rotate_left
   ·intro w hSw
    (try dsimp only at hSw)
    go_simp;try(with_reducible rfl)
   simp only[Act.put];refine anyTill.tk (i:=8) (v:=?_) rfl (Or.inl ⟨by rfl,?_⟩) hS ?_
   rotate_left
   ·intro w hSw
    (try dsimp only at hSw)
    go_simp;try(with_reducible rfl)
   simp only[Act.put];refine anyTill.tk (i:=9) (v:=?_) rfl (Or.inl ⟨by rfl,?_⟩) hS ?_
   rotate_left
   ·intro w hSw
    (try dsimp only at hSw)
    go_simp;try(with_reducible rfl)
   simp only[Act.put];refine anyTill.tk (i:=11) (v:=?_) rfl (Or.inl ⟨by rfl,?_⟩) hS ?_
   rotate_left
   ·intro w hSw
    (try dsimp only at hSw)
    go_simp;try(with_reducible rfl)
   simp only[Act.put];refine anyTill.tk (i:=12) (v:=?_) rfl (Or.inl ⟨by rfl,?_⟩) hS ?_
   rotate_left
   ·intro w hSw
    (try dsimp only at hSw)
    go_simp;try(with_reducible rfl)
   simp only[Act.put];try simp only[List.set_cons_zero,List.set_cons_succ]
   refine anyTill.step (i:=10) rfl (by kernel_rfl) (fun K hK=>?_);go_simp;refine(HBT.out _).mono ?_;rintro e w1 ⟨v',rfl,hb1,t',rfl,ht'⟩;rw[HT.out]at ht';subst ht';clear hS;have KP1:=KP.drew.call hb1;clear hb1 KP;refine hK.out _ _ (fun _=>rI KP1 (XJ _ KP1.head.at4)) ?_;clear hK K;try simp only[Act.put,List.setIfInBounds_toArray,List.set_cons_zero,List.set_cons_succ]
   have cj:=XJ _ KP1.head.at4;have cf:=KP1.head.f;have cz:=KP1.head.lt;refine anyTill.step (i:=13) rfl (by kernel_rfl) (fun K hK=>?_);go_simp;refine hK.out _ _ (fun _=>rI KP1 (XJ _ KP1.head.at4)) ?_;clear hK K;try simp only[Act.put,List.setIfInBounds_toArray,List.set_cons_zero,List.set_cons_succ]
   refine anyTill.step (i:=14) rfl (by kernel_rfl) (fun K hK=>?_);go_simp;refine hK.out _ _ (fun _=>rI KP1 (XJ _ KP1.head.at4)) ?_;clear hK K;try simp only[Act.put,List.setIfInBounds_toArray,List.set_cons_zero,List.set_cons_succ]
   refine anyTill.step (i:=15) rfl (by kernel_rfl) (fun K hK=>?_);go_simp;refine hK.out _ _ (fun _=>rI KP1 (XJ _ KP1.head.at4)) ?_;clear hK K;try simp only[Act.put,List.setIfInBounds_toArray,List.set_cons_zero,List.set_cons_succ]
   refine anyTill.step (i:=16) rfl (by kernel_rfl) (fun K hK=>?_);go_simp;refine hK.out _ _ (fun h=>Bool.noConfusion h) ?_;clear hK K;try simp only[Act.put,List.setIfInBounds_toArray,List.set_cons_zero,List.set_cons_succ]
   refine anyTill.done (by kernel_rfl) ?_ _;clear cj cf cz;go_wp2;go_roundg (gk-1)
   case measure=>omega
   case rel =>
    refine⟨i+1,_,_,_,_,by omega,rfl,?_,HST⟩;exact(KP1.tail.set (j:=k3) (i:=j) Q3.out hl3 _).cons (T1 _ KP1.head.at4).blk
  ·have hi254:i=254:=by omega
   subst hi254;have hF:=HF.out;have hPt:=HP4.out.lt;rw[Nat.mod_eq_of_lt (show P/4<2^254 by unfold top at hPt;omega)]at hF;have hq:val qa qb qc qd=P/4/\qa<18446744073709551615/\qb<18446744073709551616/\qc<18446744073709551616/\qd<18446744073709551616:=by
    obtain⟨a',b',c',d',e',h1,h2,h3,h4,h5⟩:=hF;obtain⟨rfl,rfl,rfl,rfl⟩:a'=qa/\b'=qb/\c'=qc/\d'=qd:=by
     simp only[Value.agg.injEq,Array.mk.injEq,List.cons.injEq,Value.int.injEq,true_and,and_true,Int.ofNat_inj]at e';exact⟨e'.1.symm,e'.2.1.symm,e'.2.2.1.symm,e'.2.2.2.symm⟩
    refine⟨h5.symm,?_,h2,h3,h4⟩;have h6:=HP1.out;rw[h5]at h6;unfold val at h6;omega
   obtain⟨qe,hqe'⟩:∃qe,qa+1=qe:=⟨_,rfl⟩
   have HE:Hid (Four (.agg #[.int .u64 qe,.int .u64 qb,.int .u64 qc,.int .u64 qd]) (P/4+1)):=by
    refine Four.mk (by omega) hq.2.2.1 hq.2.2.2.1 hq.2.2.2.2 ?_;rw[<-hq.1,<-hqe'];unfold val;omega
   have hadd:(qa:Int)+1=(qe:Int):=by omega
   have hw:=wrapN qe (by omega);clear hq hF hPt HF hqe';obtain⟨qc0,qc1,qc2,qc3,qf⟩:=KP.head.at4;have zq:=KP.head.lt;obtain⟨xc0,xc1,xc2,xc3,xf⟩:=KP.tail.tail.tail.head.at4;have zx:=KP.tail.tail.tail.head.lt;obtain⟨fc0,fc1,fc2,fc3,ff⟩:=KP.tail.head.at4;have fb:=KP.tail.tail.head;have fd0:wr.cell? ⟨k0,4,none⟩=some (.int .u64 c0):=fb.c0;have fd1:wr.cell? ⟨k0,5,none⟩=some (.int .u64 c1):=fb.c1;have fd2:wr.cell? ⟨k0,6,none⟩=some (.int .u64 c2):=fb.c2;have fd3:wr.cell? ⟨k0,7,none⟩=some (.int .u64 c3):=fb.c3;have zf:=KP.tail.head.lt;go_wp2_with fail
   clear qc0 qc1 qc2 qc3 qf zq xc0 xc1 xc2 xc3 xf zx fc0 fc1 fc2 fc3 ff fb fd0 fd1 fd2 fd3 zf;have KP2:=KP.tail.set (j:=k3) (i:=0) Q3.out hl3 (.int .u64 qe);clear KP;generalize World.setCell _ _ _=WS at KP2⊢;refine(yN p0 p1 p2 p3 c0 c1 c2 c3 P _ _ _ _ HR.out HX.out HE.out _).mono ?_;rintro e w3 ⟨v,rfl,hb3,hF⟩;have K:=KP2.call hb3;clear hb3 KP2 HE hadd hw;obtain⟨ra,rb,rc,rd,rfl,-⟩:=id hF;rw[HRE.out]at hF;have HF:Hid (Four _ R):=hF;clear hF
   go_upto_region 8 with fail
   have KP:Kept w k0 (⟨w3.heap.size,0,ra,rb,rc,rd⟩ :: [⟨k0,0,p0,p1,p2,p3⟩,⟨k0,4,c0,c1,c2,c3⟩,⟨k1,0,a,b,c,d⟩,⟨k2,0,0,0,0,0⟩]) _:=(K.alloc (.cells #[.int .u64 ra,.int .u64 rb,.int .u64 rc,.int .u64 rd] 37)).cons (At4.made w3 37 ra rb rc rd rfl).blk;have n80:w3.heap.size≠k0:=Nat.ne_of_gt K.head.lt;have n81:w3.heap.size≠k1:=Nat.ne_of_gt K.tail.tail.head.lt;have n82:w3.heap.size≠k2:=Nat.ne_of_gt K.tail.tail.tail.head.lt;have Q8:Hid (k0<=w3.heap.size):=K.le;clear K;generalize World.alloc _ _=W4 at KP⊢;generalize w3.heap.size=k8 at KP n80 n81 n82 Q8⊢;by_cases heq:R*R%P=m
   ·have hsame:=KV a b c d;go_region_held3 (fun w'=>w'.cell? ⟨k0,0,none⟩=some (.int .u64 p0)/\w'.cell? ⟨k0,1,none⟩=some (.int .u64 p1)/\w'.cell? ⟨k0,2,none⟩=some (.int .u64 p2)/\w'.cell? ⟨k0,3,none⟩=some (.int .u64 p3)/\w'.cell? ⟨k0,4,none⟩=some (.int .u64 c0)/\w'.cell? ⟨k0,5,none⟩=some (.int .u64 c1)/\w'.cell? ⟨k0,6,none⟩=some (.int .u64 c2)/\w'.cell? ⟨k0,7,none⟩=some (.int .u64 c3)/\w'.cell? ⟨k8,0,none⟩=some (.int .u64 ra)/\w'.cell? ⟨k8,1,none⟩=some (.int .u64 rb)/\w'.cell? ⟨k8,2,none⟩=some (.int .u64 rc)/\w'.cell? ⟨k8,3,none⟩=some (.int .u64 rd)/\w'.cell? ⟨k1,0,none⟩=some (.int .u64 a)/\w'.cell? ⟨k1,1,none⟩=some (.int .u64 b)/\w'.cell? ⟨k1,2,none⟩=some (.int .u64 c)/\w'.cell? ⟨k1,3,none⟩=some (.int .u64 d)/\Kept w k0 (⟨k8,0,ra,rb,rc,rd⟩ :: [⟨k0,0,p0,p1,p2,p3⟩,⟨k0,4,c0,c1,c2,c3⟩,⟨k1,0,a,b,c,d⟩,⟨k2,0,0,0,0,0⟩]) w') (first|(with_reducible exact qR KP)|(with_reducible exact qR KP.drew)|fail) (first|(go_at_call 32;refine(rT HR.out HF.out HF.out _).mono ?_;rintro e w5 ⟨v,rfl,hb1,hF3⟩;rw[heq]at hF3;obtain rfl:=hF3.inj HX.out;clear hF3;(first|(with_reducible (have KP1:=KP.drew.call hb1))|(with_reducible (have KP1:=KP.call hb1))|fail);clear KP hb1;have KP:=KP1;clear KP1))
    have HEQ:Hid (R*R%P=m):=heq;clear heq
    rename_i hHeld
    clear hHeld;obtain⟨ra',rb',rc',rd',e',hra,-⟩:=id HF.out;obtain⟨rfl,-⟩:ra'=ra/\True:=by
     simp only[Value.agg.injEq,Array.mk.injEq,List.cons.injEq,Value.int.injEq,true_and,and_true,Int.ofNat_inj]at e';exact⟨e'.1.symm,trivial⟩
    clear e';have hodd2:R%2=ra'%2:=by
     obtain⟨x1,x2,x3,x4,e',-,-,-,-,h5⟩:=id HF.out;simp only[Value.agg.injEq,Array.mk.injEq,List.cons.injEq,Value.int.injEq,true_and,and_true,Int.ofNat_inj]at e';rw[h5,<-e'.1];unfold val;omega
    have hand:=and_one ra' hra;obtain⟨tc0,tc1,tc2,tc3,tf⟩:=KP.head.at4;have zt:=KP.head.lt;obtain⟨uc0,uc1,uc2,uc3,uf⟩:=KP.tail.tail.tail.tail.head.at4;have zu:=KP.tail.tail.tail.tail.head.lt;have h2:ra'%2=0\/ra'%2=1:=by omega
    rcases h2 with h|h
    ·rw[h]at hand hodd2;have HF8:Hid (Four (.agg #[.int .u64 ra',.int .u64 rb,.int .u64 rc,.int .u64 rd]) (even P R)):=by
      have h1:even P R=R:=by unfold even;rw[if_neg (by omega)]
      unfold Hid;rw[h1];exact HF.out
     clear h hodd2 hra;go_wp2;have RF:=KP.tail.tail.tail.tail.head.at4.self4 ra' rb rc rd;unfold set4 at RF;refine bodyPost_ret (v:=?v) ?hr rfl ?hR
     case hr=>simp[results,Tryz.results101,go_sem,RF.c0,RF.c1,RF.c2,RF.c3];rfl
     refine⟨_,rfl,?_,RootR.yes HEQ.out HF8.out⟩;rw[H0.out];exact aF KP.bl Q2.out _ _ _ _
    ·rw[h]at hand hodd2;have HO:Hid (R%2=1):=hodd2;clear h hodd2 hra;obtain⟨fc0,fc1,fc2,fc3,ff⟩:=KP.tail.head.at4;have fb:=KP.tail.tail.head;have fd0:w5.cell? ⟨k0,4,none⟩=some (.int .u64 c0):=fb.c0;have fd1:w5.cell? ⟨k0,5,none⟩=some (.int .u64 c1):=fb.c1;have fd2:w5.cell? ⟨k0,6,none⟩=some (.int .u64 c2):=fb.c2;have fd3:w5.cell? ⟨k0,7,none⟩=some (.int .u64 c3):=fb.c3;have zf:=KP.tail.head.lt;go_wp2_with fail
     clear tc0 tc1 tc2 tc3 tf zt uc0 uc1 uc2 uc3 uf zu fc0 fc1 fc2 fc3 ff fb fd0 fd1 fd2 fd3 zf hand;refine(yO p0 p1 p2 p3 c0 c1 c2 c3 P _ _ HR.out HF.out HRP.out _).mono ?_;rintro e w8 ⟨v,rfl,hb8,hF8⟩;obtain⟨sa,sb,sc,sd,rfl,-⟩:=id hF8;have HF8:Hid (Four (.agg #[.int .u64 sa,.int .u64 sb,.int .u64 sc,.int .u64 sd]) (even P R)):=by
      have h1:(P-R)%P=even P R:=by
       unfold even;rw[if_pos HO.out];exact Nat.mod_eq_of_lt (by have:=HRP.out;have:=HO.out;omega)
      unfold Hid;rw[<-h1];exact hF8
     replace KP:=KP.call hb8;clear hb8 hF8;obtain⟨tc0,tc1,tc2,tc3,tf⟩:=KP.head.at4;have zt:=KP.head.lt;obtain⟨uc0,uc1,uc2,uc3,uf⟩:=KP.tail.tail.tail.tail.head.at4;have zu:=KP.tail.tail.tail.tail.head.lt;go_wp2;have RF:=(KP.tail.tail.tail.tail.head.at4.other4 n82 (.int .u64 sa) (.int .u64 sb) (.int .u64 sc) (.int .u64 sd)).self4 sa sb sc sd;unfold set4 at RF;refine bodyPost_ret (v:=?v2) ?hr2 rfl ?hR2
     case hr2=>simp[results,Tryz.results101,go_sem,RF.c0,RF.c1,RF.c2,RF.c3];rfl
     refine⟨_,rfl,?_,RootR.yes HEQ.out HF8.out⟩;rw[H0.out];exact aF (aF KP.bl Q8.out _ _ _ _) Q2.out _ _ _ _
   ·go_region_held3 (fun w'=>w'.cell? ⟨k0,0,none⟩=some (.int .u64 p0)/\w'.cell? ⟨k0,1,none⟩=some (.int .u64 p1)/\w'.cell? ⟨k0,2,none⟩=some (.int .u64 p2)/\w'.cell? ⟨k0,3,none⟩=some (.int .u64 p3)/\w'.cell? ⟨k0,4,none⟩=some (.int .u64 c0)/\w'.cell? ⟨k0,5,none⟩=some (.int .u64 c1)/\w'.cell? ⟨k0,6,none⟩=some (.int .u64 c2)/\w'.cell? ⟨k0,7,none⟩=some (.int .u64 c3)/\w'.cell? ⟨k8,0,none⟩=some (.int .u64 ra)/\w'.cell? ⟨k8,1,none⟩=some (.int .u64 rb)/\w'.cell? ⟨k8,2,none⟩=some (.int .u64 rc)/\w'.cell? ⟨k8,3,none⟩=some (.int .u64 rd)/\w'.cell? ⟨k1,0,none⟩=some (.int .u64 a)/\w'.cell? ⟨k1,1,none⟩=some (.int .u64 b)/\w'.cell? ⟨k1,2,none⟩=some (.int .u64 c)/\w'.cell? ⟨k1,3,none⟩=some (.int .u64 d)/\Kept w k0 (⟨k8,0,ra,rb,rc,rd⟩ :: [⟨k0,0,p0,p1,p2,p3⟩,⟨k0,4,c0,c1,c2,c3⟩,⟨k1,0,a,b,c,d⟩,⟨k2,0,0,0,0,0⟩]) w') (first|(with_reducible exact qR KP)|(with_reducible exact qR KP.drew)|fail) (first|(go_at_call 32;refine(rT HR.out HF.out HF.out _).mono ?_;rintro e w5 ⟨v,rfl,hb1,hF3⟩;obtain⟨ta,tb,tc,td,rfl,hne⟩:=four_ne hF3 HX.out heq;have hoth:=I1 hne;clear hF3;(first|(with_reducible (have KP1:=KP.drew.call hb1))|(with_reducible (have KP1:=KP.call hb1))|fail);clear KP hb1;have KP:=KP1;clear KP1))
    have HEQ:Hid (¬R*R%P=m):=heq;clear heq
    rename_i hHeld
    clear hHeld;obtain⟨uc0,uc1,uc2,uc3,uf⟩:=KP.tail.tail.tail.tail.head.at4;have zu:=KP.tail.tail.tail.tail.head.lt;go_wp2;have RF:At4 (set4 w5 k2 (.int .u64 0) (.int .u64 0) (.int .u64 0) (.int .u64 0)) k2 0 0 0 0:=KP.tail.tail.tail.tail.head.at4.self4 0 0 0 0;unfold set4 at RF;refine bodyPost_ret (v:=?v3) ?hr3 rfl ?hR3
    case hr3=>simp[results,Tryz.results101,go_sem,RF.c0,RF.c1,RF.c2,RF.c3];rfl
    refine⟨_,rfl,?_,RootR.no HEQ.out⟩;rw[H0.out];exact aF KP.bl Q2.out _ _ _ _
def iQ(T:Bs):Nat->Bs
 | 0=>Array.replicate 32 0
 | k+1=>(iQ T k).setIfInBounds k T[k]!
theorem fU(T:Bs)(k:Nat):(iQ T k).size=32:=by
 induction k with
 | zero=>simp[iQ]
 | succ k ih=>simp[iQ,ih]
theorem BN(T:Bs)(k j:Nat)(hk:k<=32)(hj:j<k):(iQ T k)[j]! = T[j]!:=by
 induction k with
 | zero=>omega
 | succ k ih =>
  by_cases h:j=k
  ·subst h;exact getElem!_set_same _ _ _ (by rw[fU];omega)
  ·rw[iQ,getElem!_set_other _ _ _ _ h];exact ih (by omega) (by omega)
theorem Ae{w:World}{g:Nat}{T:Bs}(hT:T.size=32)(h:Holds encB w g 0 (iQ T 32)):Holds encB w g 0 T:=by
 intro j hj;rw[<-BN T 32 j (Nat.le_refl _) (by omega)];exact h j (by rw[fU];omega)
def wordOf(a b c d k:Nat):Nat:=if k<8 then a else if k<16 then b else if k<24 then c else d
theorem xK(x j:Nat)(hj:j<8):(be8 x)[j]! = UInt8.ofNat (x/2^(8*(7-j))):=by
 match j,hj with
 | 0,_=>rfl
 | 1,_=>rfl
 | 2,_=>rfl
 | 3,_=>rfl
 | 4,_=>rfl
 | 5,_=>rfl
 | 6,_=>rfl
 | 7,_ =>
  show UInt8.ofNat x=UInt8.ofNat (x/2^(8*(7-7)));rw[Nat.sub_self,Nat.mul_zero,Nat.pow_zero,Nat.div_one]
theorem JE(a b c d i:Nat)(hi:i<32):(be32 a b c d)[i]! = UInt8.ofNat (wordOf a b c d (31-i)/2^(8*((31-i)%8))):=by
 have e:be32 a b c d=be8 d++be8 c++be8 b++be8 a:=rfl;have s1:(be8 d++be8 c).size=16:=by simp only[Array.size_append,aX]
 have s2:(be8 d++be8 c++be8 b).size=24:=by simp only[Array.size_append,aX]
 unfold wordOf;by_cases k1:i<8
 ·rw[if_neg (by omega),if_neg (by omega),if_neg (by omega),show(31-i)%8=7-i by omega,<-xK d i k1,
   e,app_front _ _ i (by omega),<-getElem!_pos (be8 d++be8 c++be8 b) i (by omega),app_front _ _ i (by omega),<-getElem!_pos (be8 d++be8 c) i (by omega),app_front _ _ i (by rw[aX];exact k1),<-getElem!_pos (be8 d) i (by rw[aX];exact k1)]
 ·by_cases k2:i<16
  ·rw[if_neg (by omega),if_neg (by omega),if_pos (by omega),show(31-i)%8=7-(i-8) by omega,<-xK c (i-8) (by omega),
    e,app_front _ _ i (by omega),<-getElem!_pos (be8 d++be8 c++be8 b) i (by omega),app_front _ _ i (by omega),<-getElem!_pos (be8 d++be8 c) i (by omega),app_back _ _ i (by rw[aX];omega) (by rw[aX,aX];omega),aX]
  ·by_cases k3:i<24
   ·rw[if_neg (by omega),if_pos (by omega),show(31-i)%8=7-(i-16) by omega,<-xK b (i-16) (by omega),
     e,app_front _ _ i (by omega),<-getElem!_pos (be8 d++be8 c++be8 b) i (by omega),app_back _ _ i (by omega) (by rw[s1,aX];omega),s1]
   ·rw[if_pos (by omega),show(31-i)%8=7-(i-24) by omega,<-xK a (i-24) (by omega),
     e,app_back _ _ i (by omega) (by rw[s2,aX];omega),s2]
theorem Ds{a b c d:Nat}(k:Nat)(ha:a<18446744073709551616)(hb:b<18446744073709551616)(hc:c<18446744073709551616)(hd:d<18446744073709551616):wordOf a b c d k<18446744073709551616:=by
 unfold wordOf;split;exact ha;split;exact hb;split;exact hc;exact hd
theorem At4.word{w:World}{k a b c d:Nat}(h:At4 w k a b c d)(i:Nat)(hi:i<32):w.cell? ⟨k,i/8,none⟩=some (.int .u64 (wordOf a b c d i:Int)):=by
 unfold wordOf;by_cases h1:i<8
 ·rw[if_pos h1,show i/8=0 by omega];exact h.c0
 ·rw[if_neg h1];by_cases h2:i<16
  ·rw[if_pos h2,show i/8=1 by omega];exact h.c1
  ·rw[if_neg h2];by_cases h3:i<24
   ·rw[if_pos h3,show i/8=2 by omega];exact h.c2
   ·rw[if_neg h3,show i/8=3 by omega];exact h.c3
theorem AY(x:Value)(m:Nat)(w:World)(hx:Four x m):
 Calls prog 40 #[x] w (Ret fun e w'=>Below w.heap.size w w'/\∃a b c d:Nat,x=.agg #[.int .u64 a,.int .u64 b,.int .u64 c,.int .u64 d]/\e=.string ⟨be32 a b c d⟩):=by
 obtain⟨a,b,c,d,rfl,ha,hb,hc,hd,em⟩:=hx;clear em;have hmk:∀w:World,(Instr.makeSlice 22 (.int .i64 32) (.int .i64 32)).run prog w=.ok (.slice (some ⟨w.heap.size,0,none⟩) 32 32) (w.alloc (.cells (madeCells #[.int .u8 0] 32) 5)):=
  run_make_row' (P:=prog) 22 5 (.int .u8 0) 1 slice22 info5 rfl .i64 .i64 32 (by omega) (by omega)
 go_enter Tryz.func40,Tryz.ntmps40;go_wp2;have hH0:Holds encB (((w.alloc (.cells #[.int .u64 a,.int .u64 b,.int .u64 c,.int .u64 d] 37)).alloc (.cells (madeCells #[.int .u8 0] 32) 5))) (w.heap.size+1) 0 (Array.replicate 32 0):=by
  have:=Holds.made (enc:=encB) (w.alloc (.cells #[.int .u64 a,.int .u64 b,.int .u64 c,.int .u64 d] 37)) 5 32 0;rw[World.size_alloc]at this;exact this
 have hb0:=below2 w (.cells #[.int .u64 a,.int .u64 b,.int .u64 c,.int .u64 d] 37) (.cells (madeCells #[.int .u8 0] 32) 5);have X:=(At4.made w 37 a b c d rfl).alloc (.cells (madeCells #[.int .u8 0] 32) 5);generalize World.alloc _ _=W at hH0 hb0 X⊢;have HBW:Hid (Below w.heap.size w W):=hb0;clear hb0 hmk;go_loopg [4] 32 (fun gk s4 wr=>∃(k:Nat),k+gk=32/\s4=.int .i64 k/\Holds encB wr (w.heap.size+1) 0 (iQ (be32 a b c d) k)/\At4 wr w.heap.size a b c d/\Hid (Below w.heap.size w wr))
 case atStart=>exact⟨0,rfl,rfl,hH0,X,HBW⟩
 case round =>
  obtain⟨k,hk,rfl,hB,X',HB⟩:=hrel;by_cases hlt:k<32
  ·obtain⟨c0,f0⟩:=hB k (by rw[fU];omega);rw[Nat.zero_add]at c0 f0;have xw:=X'.word (31-k) (by omega);have hwl:=Ds (31-k) ha hb hc hd;have hbyte:=JE a b c d k hlt;obtain⟨q,hq⟩:∃q,31-k=q:=⟨_,rfl⟩
   rw[hq]at xw hwl hbyte;generalize wordOf a b c d q=v at xw hwl hbyte;have i1:(31:Int)-(k:Int)=(q:Int):=by omega
   have i2:(q:Int).tdiv 8=((q/8:Nat):Int):=by rw[Int.tdiv_eq_ediv_of_nonneg (by omega)];omega
   have i3:(q:Int).tmod 8=((q%8:Nat):Int):=by rw[Int.tmod_eq_emod_of_nonneg (by omega)];omega
   have i4:(q/8:Nat)<4:=by omega
   have hlt':(k:Int)<32:=by omega
   have hs1:(8:Int)*((q%8:Nat):Int)=((8*(q%8):Nat):Int):=by omega
   have hv:(Value.int .u8 ((v:Int)/2^(8*(q%8))%256))=encB (be32 a b c d)[k]!:=by
    rw[hbyte,<-byte_at v (2^(8*(q%8))),Int.natCast_pow];rfl
   have Hv:Hid (_=_):=hv;clear hv hbyte hq;go_wp2;rw[Hv.out];go_roundg (gk-1)
   case measure=>omega
   case rel =>
    refine⟨k+1,by omega,rfl,?_,X'.other (by omega) _,HB.out.setCell (p:=⟨w.heap.size+1,k,none⟩) (Nat.le_succ _) _⟩;have:=Holds.set hB (i:=k) (by rw[fU];omega) (be32 a b c d)[k]!;rw[Nat.zero_add]at this;exact this
  ·have hk32:k=32:=by omega
   subst hk32;have hT:=Ae (l8 a b c d) hB;have kc:=conv_str prog 22 9 5 slice22 int5 str9 wr (w.heap.size+1) 0 32 32 _ hT (l8 a b c d);clear hB hT;go_wp2;go_ret;exact⟨_,rfl,HB.out,a,b,c,d,rfl,rfl⟩
end
section
open Go.RowKit Go.Sort Go.Deep
structure Ord(N:Nat):Prop where
 gap:Gap 4624529908474429119 4994812053365940164 1 N
 ref:RefP 13822214165235122497 13451932020343611451 18446744073709551614 18446744073709551615 4624529908474429119 4994812053365940164 1 0 N
 le:N<=top
 n2:2<=N%18446744073709551616
variable {N:Nat}
theorem Ord.pos(O:Ord N):0<N:=by have:=O.n2;omega
theorem Ord.four(O:Ord N){a:Nat}(h:a<N):Four (nv a) a:=lV (Nat.lt_of_lt_of_le h O.le)
def sMi(N a b:Nat):Nat:=(a+N-b)%N
def sTi(N a b:Nat):Nat:=a*b%N
theorem Ord.ti(O:Ord N)(a b:Nat):sTi N a b<N:=Nat.mod_lt _ O.pos
theorem EY(O:Ord N){a b:Nat}(ha:a<N)(hb:b<N):Gives 144 #[gv1,nv a,nv b] (nv (sMi N a b)):=fun w =>
 (pS _ _ _ N _ _ a b O.gap (O.four ha) (O.four hb) ha hb w).mono (by rintro e w' ⟨v,rfl,hb,hF⟩;exact⟨_,rfl,hb,hF.nv⟩)
theorem EV(O:Ord N){a b:Nat}(ha:a<N)(hb:b<N):Gives 142 #[gv1,nv a,nv b] (nv (sTi N a b)):=fun w =>
 (l9 _ _ _ N _ _ a b O.gap (O.four ha) (O.four hb) w).mono (by rintro e w' ⟨v,rfl,hb,hF⟩;exact⟨_,rfl,hb,hF.nv⟩)
theorem FH{a x y z u:Nat}(h:nv a=.agg #[.int .u64 x,.int .u64 y,.int .u64 z,.int .u64 u]):be32 x y z u=bx a:=by
 have h1:wn a=[.int .u64 x,.int .u64 y,.int .u64 z,.int .u64 u]:=by
  unfold nv at h;injection h with h
  exact congrArg Array.toList h
 unfold wn at h1;simp only[List.cons.injEq,Value.int.injEq,true_and,and_true,Int.natCast_inj]at h1;obtain⟨rfl,rfl,rfl,rfl⟩:=h1;rfl
def cb(b:Bs):List Value:=b.toList.map encB
theorem lZ(b:Bs):(cb b).length=b.size:=by unfold cb;rw[List.length_map,Array.length_toList]
theorem oN{w:World}{g:Nat}{b:Bs}(h:Holds encB w g 0 b):w.rangeAt g 0 (cb b)/\w.there g 0 (cb b).length:=by
 refine⟨fun j v hv=>?_,fun j hj=>?_⟩
 ·have hj:j<b.size:=by rw[<-lZ];exact(List.getElem?_eq_some_iff.1 hv).1
  rw[(h j hj).1];unfold cb at hv;rw[List.getElem?_map,Array.getElem?_toList,Array.getElem?_eq_getElem hj]at hv;rw[getElem!_pos b j hj];exact hv
 ·rw[lZ]at hj;exact⟨by rw[(h j hj).1];rfl,(h j hj).2⟩
theorem cb_holds{w:World}{g:Nat}{b:Bs}(h1:w.rangeAt g 0 (cb b))(h2:w.there g 0 (cb b).length):Holds encB w g 0 b:=fun j hj=>by
 refine⟨h1 j _ ?_,(h2 j (by rw[lZ];exact hj)).2⟩;unfold cb;rw[List.getElem?_map,Array.getElem?_toList,Array.getElem?_eq_getElem hj,getElem!_pos b j hj];rfl
def G5(f:FuncId)(args:Array Value)(b:Bs)(n:Nat):Prop:=∀w,Calls prog f args w (Ret fun e w'=>∃k,RG.Made w k (cb b) w'/\e=.slice (some ⟨k,0,none⟩) n n)
theorem EZ(O:Ord N){a:Nat}(ha:a<N):G5 45 #[nv a] (bx a) 32:=fun w =>
 (vM _ a w (O.four ha)).mono (by
  rintro e w' ⟨v,rfl,hb,g,x,y,z,u,rfl,hle,he,hH⟩;rw[FH he]at hH;obtain⟨h1,h2⟩:=oN hH;exact⟨_,rfl,g,⟨hb,hle,Holds.lt hH (by rw[bK];omega),h1,h2⟩,rfl⟩)
end
section
open Go.RowKit Go.Sort Go.Deep
variable {P:Nat}[NeZero P]{N:Nat}
theorem OR(a b c d p q r s:Nat)(w:World):(binOp .eql 82 (.agg #[.int .u64 a,.int .u64 b,.int .u64 c,.int .u64 d]) (.agg #[.int .u64 p,.int .u64 q,.int .u64 r,.int .u64 s])).run prog w=.ok (.bool (decide (a=p/\b=q/\c=r/\d=s))) w:=by
 go_simp;rw[CY 9997,Result.andThen_ok];by_cases h1:a=p/\b=q/\c=r/\d=s
 ·rw[decide_eq_true h1];obtain⟨rfl,rfl,rfl,rfl⟩:=h1;simp
 ·have h2:(decide (a=p) && (decide (b=q) && (decide (c=r) && decide (d=s))))=false:=by
   rw[<-Bool.not_eq_true,Bool.and_eq_true,Bool.and_eq_true,Bool.and_eq_true];simpa using h1
  rw[decide_eq_false h1,h2];simp
theorem eqS{a b:Nat}(ha:a<top)(hb:b<top)(w:World):(binOp .eql 82 (nv a) (nv b)).run prog w=.ok (.bool (decide (a=b))) w:=by
 refine(OR (a%18446744073709551616) (a/18446744073709551616%18446744073709551616) (a/340282366920938463463374607431768211456%18446744073709551616) (a/6277101735386680763835789423207666416102355444464034512896%18446744073709551616) (b%18446744073709551616) (b/18446744073709551616%18446744073709551616) (b/340282366920938463463374607431768211456%18446744073709551616) (b/6277101735386680763835789423207666416102355444464034512896%18446744073709551616) w).trans ?_;simp only[oZ ha hb]
theorem u40:(prog.underlying 82).map (·.isRow)=some true:=by kernel_rfl
theorem i40:(prog.info? 82).map (·.size)=some 4:=by kernel_rfl
theorem u38:(prog.underlying 49).map (·.isRow)=some true:=by kernel_rfl
theorem i38:(prog.info? 49).map (·.size)=some 4:=by kernel_rfl
theorem u44:(prog.underlying 37).map (·.isRow)=some true:=by kernel_rfl
theorem i44:(prog.info? 37).map (·.size)=some 4:=by kernel_rfl
theorem KX(O:Ord N)(a b:Nat)(ha:a<N)(hb:b<N):Gives 136 #[(nv a),(nv b)] (nv (sMi N a b)):=by
 intro w;go_enter Tryz.func136,Tryz.ntmps136;refine RG.M.enter [(0,(.v (nv a))),(1,(.v (nv b)))] 12 (by kernel_rfl) ?_;intro a0 M0;repeat refine wp_seq ?_
 refine M0.t [.m 2 [] 0,.m 3 [] 1,.m 4 [] 2] [(0,(wn a)),(1,(wn b)),(2,(RG.z 4))] [] [(wn a),(wn b),(RG.z 4)] [(2,(.p 0 0)),(3,(.p 1 0)),(4,(.p 2 0))] ⟨RG.mk 0 82,RG.mk 1 82,RG.mk 2 82,trivial⟩ ?_;intro j1 i1 m1 a1 w1 M1;repeat refine wp_seq ?_
 refine M1.d [.c 5 [] gv1,.s 6 [] (.p 0 0),.x 7 [(6,1)] (nv a),.s 8 [] (.p 1 0),.x 9 [(8,3)] (nv b),.c 10 [(5,0),(7,2),(9,4)] (nv (sMi N a b)),.x 11 [(10,5)] (nv (sMi N a b)),.u [(11,6)] 2] [] [(2,7,(wn (sMi N a b)))] [(wn a),(wn b),(wn (sMi N a b))] [(4,(.p 2 0))] ⟨RG.cl (eU),RG.st,RG.ld u38 i38,RG.st,RG.ld u38 i38,RG.cl (EY O ha hb),RG.st,RG.pt i40,trivial⟩ ?_;intro a2 w2 M2;refine wp_ret ?_;refine bodyPost_ret (v:=(nv (sMi N a b))) (RG.aD M2.st 4 82 rfl 2 _ rfl (M2.at (s:=(.p 2 0))) u40 i40) M2.sl.defers ?_;exact⟨_,rfl,M2.st.bel.below,rfl⟩
theorem EW(O:Ord N)(a b:Nat)(ha:a<N)(hb:b<N):Gives 132 #[(nv a),(nv b)] (nv (sTi N a b)):=by
 intro w;go_enter Tryz.func132,Tryz.ntmps132;refine RG.M.enter [(0,(.v (nv a))),(1,(.v (nv b)))] 12 (by kernel_rfl) ?_;intro a0 M0;repeat refine wp_seq ?_
 refine M0.t [.m 2 [] 0,.m 3 [] 1,.m 4 [] 2] [(0,(wn a)),(1,(wn b)),(2,(RG.z 4))] [] [(wn a),(wn b),(RG.z 4)] [(2,(.p 0 0)),(3,(.p 1 0)),(4,(.p 2 0))] ⟨RG.mk 0 82,RG.mk 1 82,RG.mk 2 82,trivial⟩ ?_;intro j1 i1 m1 a1 w1 M1;repeat refine wp_seq ?_
 refine M1.d [.c 5 [] gv1,.s 6 [] (.p 0 0),.x 7 [(6,1)] (nv a),.s 8 [] (.p 1 0),.x 9 [(8,3)] (nv b),.c 10 [(5,0),(7,2),(9,4)] (nv (sTi N a b)),.x 11 [(10,5)] (nv (sTi N a b)),.u [(11,6)] 2] [] [(2,7,(wn (sTi N a b)))] [(wn a),(wn b),(wn (sTi N a b))] [(4,(.p 2 0))] ⟨RG.cl (eU),RG.st,RG.ld u38 i38,RG.st,RG.ld u38 i38,RG.cl (EV O ha hb),RG.st,RG.pt i40,trivial⟩ ?_;intro a2 w2 M2;refine wp_ret ?_;refine bodyPost_ret (v:=(nv (sTi N a b))) (RG.aD M2.st 4 82 rfl 2 _ rfl (M2.at (s:=(.p 2 0))) u40 i40) M2.sl.defers ?_;exact⟨_,rfl,M2.st.bel.below,rfl⟩
theorem Ie(v:Value)(m:Nat)(ok:Bool)(w:World)(hrd:∀w',RG.BelX w.heap.size [] w w'->Calls prog 76 #[gv1,v] w' (Ret fun e w''=>Below w'.heap.size w' w''/\e=.tuple #[nv m,.bool ok])):
 Calls prog 46 #[v] w (Ret fun e w'=>Below w.heap.size w w'/\e=.tuple #[nv m,.bool ok]):=by
 go_enter Tryz.func46,Tryz.ntmps46;refine RG.M.enter [(0,.v v)] 15 (by kernel_rfl) ?_;intro a0 M0;repeat refine wp_seq ?_
 refine M0.t [.m 2 [] 0,.x 3 [] (.bool false)] [(0,(RG.z 4))] [] [(RG.z 4)] [(0,(.v v)),(2,(.p 0 0)),(3,(.v (.bool false)))] ⟨RG.mk 0 82,RG.st,trivial⟩ ?_;intro j1 a1 w1 M1;repeat refine wp_seq ?_
 refine M1.t [.c 7 [] gv1,.x 8 [] v,.c 9 [(7,0),(8,1)] (.tuple #[(nv m),(.bool ok)]),.x 6 [(9,2)] (.tuple #[(nv m),(.bool ok)]),.x 10 [(6,3)] (nv m),.x 11 [(6,3)] (.bool ok),.m 4 [] 1,.u [(4,6),(10,4)] 1,.x 5 [(11,5)] (.bool ok)] [(6,(RG.z 4))] [(1,7,(wn m))] [(RG.z 4),(wn m)] [(2,(.p 0 0)),(3,(.v (.bool false))),(4,(.p 1 0)),(5,(.v (.bool ok)))] ⟨RG.cl (eU),RG.st,RG.clB (fun _ _=>by kernel_rfl) hrd,RG.st,RG.st,RG.st,RG.mk 1 49,RG.pt i38,RG.st,trivial⟩ ?_;intro j2 a2 w2 M2;repeat refine wp_seq ?_
 refine M2.t [.x 12 [] (nv m),.x 13 [(12,0)] (nv m),.x 14 [] (.bool ok),.u [(13,1)] 0,.x 3 [(14,2)] (.bool ok)] [] [(0,3,(wn m))] [(wn m),(wn m)] [(2,(.p 0 0)),(3,(.v (.bool ok)))] ⟨RG.ld u38 i38,RG.st,RG.st,RG.pt i40,RG.st,trivial⟩ ?_;intro a3 w3 M3;refine wp_ret ?_;refine bodyPost_ret (v:=.tuple #[nv m,.bool ok]) (RG.aW M3.st 2 3 82 rfl 0 _ rfl (M3.at (s:=.p 0 0)) _ (M3.av (v:=.bool ok) (by kernel_rfl)) u40 i40) M3.sl.defers ?_;exact⟨_,rfl,M3.st.bel.below,rfl⟩
theorem nE(O:Ord N)(v:Value)(bs:Bs)(w:World)(hv:Arg w v bs):Calls prog 46 #[v] w (Ret fun e w'=>Below w.heap.size w w'/\e=.tuple #[nv ((rq N bs).getD 0),.bool (rq N bs).isSome]):=by
 refine Ie v _ _ w fun w' hb=>?_
 have h:=wK O.gap v bs w' (hv.below hb.below);cases hr:rq N bs with
 | none=>rw[hr]at h;exact h
 | some n=>rw[hr]at h;exact h
theorem rM(O:Ord N){a:Nat}(ha:a<N):G5 87 #[nv a] (bx a) 32:=by
 intro w;go_enter Tryz.func87,Tryz.ntmps87;refine RG.M.enter [(0,.v (nv a))] 6 (by kernel_rfl) ?_;intro a0 M0;repeat refine wp_seq ?_
 refine M0.t [.m 1 [] 0,.x 2 [] (.slice none 0 0)] [(0,(wn a))] [] [(wn a)] [(1,(.p 0 0)),(2,(.v (.slice none 0 0)))] ⟨RG.mk 0 82,RG.st,trivial⟩ ?_;intro j1 a1 w1 M1;repeat refine wp_seq ?_
 refine M1.t [.s 3 [] (.p 0 0),.x 4 [(3,0)] (nv a),⟨some 5,[(4,1)],(.s 1 32 32),.make 1⟩,.s 2 [(5,2)] (.s 1 32 32)] [(2,(cb (bx a)))] [] [(wn a),(cb (bx a))] [(2,(.s 1 32 32))] ⟨RG.st,RG.ld u38 i38,RG.cm 1 (fun w _=>EZ O ha w) fun _ _=>by kernel_rfl,RG.st,trivial⟩ ?_;intro j2 a2 w2 M2;refine wp_ret ?_;refine bodyPost_ret (v:=_) (RG.cQ 2 rfl _ (M2.at (s:=.s 1 32 32))) M2.sl.defers ?_;exact⟨_,rfl,_,M2.st.made (b:=1) rfl,rfl⟩
theorem IK(O:Ord N)(s:ByteArray):Gives 11 #[.string s] (.tuple #[nv (nuV s.data),.bool (rq N s.data).isSome]):=by
 intro w;have hnum:=Lc O.ref s;obtain⟨m,hm⟩:∃m,m=nuV s.data:=⟨_,rfl⟩
 obtain⟨ok,hok⟩:∃b,b=(rq N s.data).isSome:=⟨_,rfl⟩
 rw[<-hm,<-hok]at hnum⊢;go_enter Tryz.func11,Tryz.ntmps11;refine RG.M.enter [(0,.v (.string s))] 9 (by kernel_rfl) ?_;intro a0 M0;repeat refine wp_seq ?_
 refine M0.t [.m 2 [] 0,.x 3 [] (.bool false)] [(0,(RG.z 4))] [] [(RG.z 4)] [(0,(.v (.string s))),(2,(.p 0 0)),(3,(.v (.bool false)))] ⟨RG.mk 0 37,RG.st,trivial⟩ ?_;intro j1 a1 w1 M1;repeat refine wp_seq ?_
 refine M1.t [.c 4 [] rv1,.x 5 [] (.string s),.c 6 [(4,0),(5,1)] (.tuple #[(nv m),(.bool ok)]),.x 7 [(6,2)] (nv m),.x 8 [(6,2)] (.bool ok),.u [(7,3)] 0,.x 3 [(8,4)] (.bool ok)] [] [(0,5,(wn m))] [(wn m)] [(2,(.p 0 0)),(3,(.v (.bool ok)))] ⟨RG.cl (OW),RG.st,RG.cl (hnum),RG.st,RG.st,RG.pt i44,RG.st,trivial⟩ ?_;intro a2 w2 M2;refine wp_ret ?_;refine bodyPost_ret (v:=.tuple #[nv m,.bool ok]) (RG.aW M2.st 2 3 37 rfl 0 _ rfl (M2.at (s:=.p 0 0)) _ (M2.av (v:=.bool ok) (by kernel_rfl)) u44 i44) M2.sl.defers ?_;exact⟨_,rfl,M2.st.bel.below,rfl⟩
end
namespace SP
open Go.RowKit
theorem OD(x:BitVec 64):(x.toNat:Int)<18446744073709551616:=by
 have:=x.isLt;omega
theorem cZ(x:BitVec 64):BitVec.ofInt 64 (x.toNat:Int)=x:=by
 apply BitVec.eq_of_toNat_eq;rw[BitVec.ofInt_natCast,BitVec.toNat_ofNat];exact Nat.mod_eq_of_lt x.isLt
theorem d6(x:BitVec 64):IntKind.u64.wrap (x.toNat:Int)=x.toNat:=by
 rw[IntKind.wrap_u64];have:=OD x;exact Int.emod_eq_of_lt (by omega) this
def u(v:BitVec 64):Int:=(v.toNat:Int)
theorem cO(a b:BitVec 64):bits .xor .u64 (u a) (u b)=u (a ^^^ b):=by
 show IntKind.u64.wrap ((BitVec.ofInt 64 (a.toNat:Int) ^^^ BitVec.ofInt 64 (b.toNat:Int)).toNat:Int)=_;rw[cZ,cZ,d6];rfl
theorem cY(a b:BitVec 64):bits .and .u64 (u a) (u b)=u (a &&& b):=by
 show IntKind.u64.wrap ((BitVec.ofInt 64 (a.toNat:Int) &&& BitVec.ofInt 64 (b.toNat:Int)).toNat:Int)=_;rw[cZ,cZ,d6];rfl
theorem cS(a b:BitVec 64):bits .or .u64 (u a) (u b)=u (a ||| b):=by
 show IntKind.u64.wrap ((BitVec.ofInt 64 (a.toNat:Int) ||| BitVec.ofInt 64 (b.toNat:Int)).toNat:Int)=_;rw[cZ,cZ,d6];rfl
theorem mZ(a:BitVec 64):bits .xor .u64 IntKind.u64.max (u a)=u (~~~a):=by
 have e:IntKind.u64.max=u (BitVec.allOnes 64):=by decide +kernel
 rw[e,cO,BitVec.allOnes_xor]
theorem NI(k:Nat)(hk:k<64):bits .and .u64 (k:Int) 63=k:=by
 have h:∀j:Fin 64,bits .and .u64 ((j.val:Nat):Int) 63=(j.val:Int):=by decide +kernel
 exact h ⟨k,hk⟩
theorem uG(x:BitVec 64)(k:Nat):IntKind.u64.wrap (u x*2^k)=u (x <<< k):=by
 unfold u;rw[IntKind.wrap_u64,BitVec.toNat_shiftLeft,Nat.shiftLeft_eq,Int.natCast_emod,Int.natCast_mul,Int.natCast_pow];rfl
theorem Cm(x:BitVec 64)(k:Nat):u x/2^k=u (x >>> k):=by
 unfold u;rw[BitVec.toNat_ushiftRight,Nat.shiftRight_eq_div_pow,Int.natCast_ediv,Int.natCast_pow];rfl
def rol(w:BitVec 64)(n:Nat):BitVec 64:=w <<< n ||| w >>> (64-n)
abbrev St:=Array (BitVec 64)
def enc(v:BitVec 64):Value:=.int .u64 (u v)
def BD(d:St)(x:Nat):BitVec 64:=d[x]! ^^^ d[x+5]! ^^^ d[x+10]! ^^^ d[x+15]! ^^^ d[x+20]!
def jO(d:St):Nat->St
 | 0=>#[0,0,0,0,0]
 | k+1=>(jO d k).setIfInBounds k (BD d k)
def bN(d:St)(i:Nat)(v:BitVec 64):St:=d.setIfInBounds i (d[i]! ^^^ v)
def jX(v:BitVec 64)(x:Nat)(d:St):Nat->St
 | 0=>d
 | m+1=>bN (jX v x d m) (x+5*m) v
def bT(s:St)(x:Nat):BitVec 64:=s[(x+4)%5]! ^^^ rol s[(x+1)%5]! 1
def iG(s d:St):Nat->St
 | 0=>d
 | k+1=>jX (bT s k) k (iG s d k) 5
def pT(d:St):St:=iG (jO d 5) d 5
theorem b9(d:St)(i:Nat)(v:BitVec 64):(bN d i v).size=d.size:=by simp[bN]
theorem pU(d:St)(k:Nat):(jO d k).size=5:=by
 induction k with
 | zero=>rfl
 | succ k ih=>simp[jO,ih]
theorem oG(v:BitVec 64)(x:Nat)(d:St)(m:Nat):(jX v x d m).size=d.size:=by
 induction m with
 | zero=>rfl
 | succ k ih=>simp[jX,b9,ih]
theorem nB(s d:St)(m:Nat):(iG s d m).size=d.size:=by
 induction m with
 | zero=>rfl
 | succ k ih=>simp[iG,oG,ih]
structure Tm where
 x:Nat
 y:Nat
 m:BitVec 64
 d:St
def sD(t:Nat):Nat:=(t+1)*(t+2)/2%64
def AB(t:Nat)(s:Tm):Tm:=
 { x:=s.y,y:=(2*s.x+3*s.y)%5,m:=s.d[s.y+5*((2*s.x+3*s.y)%5)]!,d:=s.d.setIfInBounds (s.y+5*((2*s.x+3*s.y)%5)) (rol s.m (sD t)) }
def qN(d:St):Nat->Tm
 | 0=>{ x:=1,y:=0,m:=d[1]!,d:=d }
 | t+1=>AB t (qN d t)
def nP(d:St):St:=(qN d 24).d
theorem Ch(d:St)(hd:d.size=25)(t:Nat):(qN d t).x<5/\(qN d t).y<5/\(qN d t).d.size=25:=by
 induction t with
 | zero=>exact⟨show 1<5 by decide,show 0<5 by decide,hd⟩
 | succ t ih =>
  obtain⟨h1,h2,h3⟩:=ih;refine⟨h2,?_,?_⟩
  ·show(2*(qN d t).x+3*(qN d t).y)%5<5;omega
  ·show((qN d t).d.setIfInBounds _ _).size=25;rw[Array.size_setIfInBounds,h3]
def rowAt(d:St)(i:Nat):St:=
 bN (bN (bN (bN (bN d i (~~~d[i+1]! &&& d[i+2]!)) (i+1) (~~~d[i+2]! &&& d[i+3]!)) (i+2) (~~~d[i+3]! &&& d[i+4]!)) (i+3) (~~~d[i+4]! &&& d[i]!)) (i+4) (~~~d[i]! &&& d[i+1]!)
def sZ(d:St):Nat->St
 | 0=>d
 | k+1=>rowAt (sZ d k) (5*k)
def chi(d:St):St:=sZ d 5
theorem AS(d:St)(i:Nat):(rowAt d i).size=d.size:=by simp[rowAt,b9]
theorem sY(d:St)(k:Nat):(sZ d k).size=d.size:=by
 induction k with
 | zero=>rfl
 | succ k ih=>simp[sZ,AS,ih]
end SP
namespace SP
open Go.RowKit
def kC(r:Nat):Nat:=if 255<2*r then(2*r) ^^^ 369 else 2*r
def rQ(r:Nat):Nat->BitVec 64 × Nat
 | 0=>(0,r)
 | j+1=>((rQ r j).1 ||| BitVec.ofNat 64 ((rQ r j).2%2) <<< (2^j-1),kC (rQ r j).2)
theorem rR(r:Nat)(h:r<256):kC r<256:=by
 have H:∀j:Fin 256,kC j.val<256:=by decide +kernel
 exact H ⟨r,h⟩
theorem IA(r:Nat)(h:r<256)(j:Nat):(rQ r j).2<256:=by
 induction j with
 | zero=>exact h
 | succ j ih=>exact rR _ ih
theorem Fc(r:Nat)(h:r<256):bits .xor .i64 ((r:Int)*2) 369=(((2*r) ^^^ 369:Nat):Int):=by
 have H:∀j:Fin 256,bits .xor .i64 ((j.val:Int)*2) 369=(((2*j.val) ^^^ 369:Nat):Int):=by decide +kernel
 exact H ⟨r,h⟩
theorem Fe(r:Nat)(h:r<256):bits .and .i64 (r:Int) 1=u (BitVec.ofNat 64 (r%2)):=by
 have H:∀j:Fin 256,bits .and .i64 (j.val:Int) 1=u (BitVec.ofNat 64 (j.val%2)):=by decide +kernel
 exact H ⟨r,h⟩
theorem mM(x:BitVec 64):IntKind.u64.wrap (u x)=u x:=d6 x
def kY(d:St)(c:BitVec 64):St:=bN (chi (nP (pT d))) 0 c
def rcC(r:Nat):BitVec 64:=(rQ r 7).1
def rcN(r:Nat):Nat:=(rQ r 7).2
theorem Lb(r:Nat)(h:r<256):rcN r<256:=by
 unfold rcN;exact IA r h 7
def tV:Nat->Nat
 | 0=>1
 | k+1=>rcN (tV k)
theorem IB(k:Nat):tV k<256:=by
 induction k with
 | zero=>decide
 | succ k ih=>exact Lb _ ih
def kU(d:St):Nat->St
 | 0=>d
 | k+1=>kY (kU d k) (rcC (tV k))
def perm(d:St):St:=kU d 24
theorem gA(d:St):(pT d).size=d.size:=nB _ _ _
theorem jQ(d:St)(hd:d.size=25):(nP d).size=25:=(Ch d hd 24).2.2
theorem zY(d:St):(chi d).size=d.size:=sY _ _
theorem zF(d:St)(c:BitVec 64)(hd:d.size=25):(kY d c).size=25:=by
 unfold kY;rw[b9,zY,jQ];rw[gA,hd]
theorem kT(d:St)(hd:d.size=25)(k:Nat):(kU d k).size=25:=by
 induction k with
 | zero=>exact hd
 | succ k ih=>exact zF _ _ ih
theorem pF(d:St)(hd:d.size=25):(perm d).size=25:=kT d hd 24
abbrev Bs:=Array UInt8
def ub(x:UInt8):Int:=(x.toNat:Int)
def encB(x:UInt8):Value:=.int .u8 (ub x)
def wide(x:UInt8):BitVec 64:=BitVec.ofNat 64 x.toNat
def low(v:BitVec 64):UInt8:=UInt8.ofNat v.toNat
theorem Hp(x:UInt8):ub x=u (wide x):=by
 unfold ub u wide;rw[BitVec.toNat_ofNat,Nat.mod_eq_of_lt];have:=x.toNat_lt;omega
theorem vN(x:UInt8):IntKind.u64.wrap (ub x)=u (wide x):=by rw[Hp,mM]
theorem J7(v:BitVec 64):IntKind.u8.wrap (u v)=ub (low v):=by
 have e:IntKind.u8.wrap (u v)=u v%256:=by simp[IntKind.wrap,IntKind.bits,IntKind.signed]
 rw[e];unfold u ub low;rw[UInt8.toNat_ofNat'];omega
def iS(bs:Bs)(o:Nat):Nat->BitVec 64
 | 0=>0
 | i+1=>iS bs o i ||| wide bs[o+i]! <<< (8*i)
def wordOf(bs:Bs)(o:Nat):BitVec 64:=iS bs o 8
def dY(bs:Bs)(d:St):Nat->St
 | 0=>d
 | i+1=>bN (dY bs d i) i (wordOf bs (8*i))
theorem cV(bs:Bs)(d:St)(k:Nat):(dY bs d k).size=d.size:=by
 induction k with
 | zero=>rfl
 | succ k ih=>simp[dY,b9,ih]
def byteOf(d:St)(k:Nat):UInt8:=low (d[k/8]! >>> (8*(k%8)))
def dH(d:St)(n:Nat):Nat->Bs
 | 0=>Array.replicate n 0
 | k+1=>(dH d n k).setIfInBounds k (byteOf d k)
def front(d:St)(n:Nat):Bs:=dH d n n
theorem fS(d:St)(n k:Nat):(dH d n k).size=n:=by
 induction k with
 | zero=>simp[dH]
 | succ k ih=>simp[dH,ih]
theorem aR(d:St)(n:Nat):(front d n).size=n:=fS d n n
end SP
end Go.Proofs.YtgbjainaafdpgaaGreat
