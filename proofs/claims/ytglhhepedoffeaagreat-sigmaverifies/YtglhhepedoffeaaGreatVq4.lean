import Derived.Deep.RegionHeld3
import Derived.Lib.LazyBuf
import Derived.RangeFuncNested
import Derived.RangeFuncBound
import Derived.RangeFuncCalls
import Derived.RangeFuncLeaves
import Derived.Shelf.Abstract
import Derived.Shelf.RegionOpen
import Derived.WalkKit
import Derived.OwnWalkIn
import Derived.TacticsInMore
import Derived.LoopNIn
import Derived.LoopIn
import Derived.LoopN
import Derived.Deep.RegionWith
import Derived.Deep.LoopGhost
import Derived.Deep.CutRange
import Derived.Sort.Row
import Derived.Deep.Draws
import Derived.Below
import Derived.Deep.OwnRows
import Derived.Test.YtglhhepedoffeaaGreatRows
import Derived.Deep.QuietTactic
import Derived.StillTailTactics
import Derived.BigRegion
import Derived.BigQuiet
import Derived.WalkSpells
import Derived.WalkLawsBesides
import Derived.Test.YtglhhepedoffeaaGreatVq3
set_option linter.unusedVariables false
set_option linter.unusedSimpArgs false
set_option maxRecDepth 1000000
set_option maxHeartbeats 4000000
namespace Go.Proofs.YtglhhepedoffeaaGreat
section
open Go.RowKit Go.Sort Go.Deep
variable {P:Nat} [NeZero P] {N:Nat}
theorem cell_below {w w1:World} {k j:Nat} {v:Value} (h:w.cell? ⟨k,j,none⟩=some v) (hb:Below w.heap.size w w1) (hk:k<w.heap.size):w1.cell? ⟨k,j,none⟩=some v:=by
 have h1:w.rangeAt k j [v]:=fun i u hu=>by
  cases i with
  | zero =>
   obtain rfl:v=u:=Option.some.inj hu
   exact h
  | succ i=>exact absurd hu (by simp)
 exact RG.zAk h1 hb hk 0 v rfl
theorem ArgsPts.below {w w1:World} {q:Option Addr} {n:Nat} {L:Nat→Bs} (h:ArgsPts w q n L) (hb:Below w.heap.size w w1):ArgsPts w1 q n L:=fun hn=>by
 obtain ⟨gg,hq,hlt,hc⟩:=h hn
 refine ⟨gg,hq,Nat.lt_of_lt_of_le hlt hb.size,fun j hj=>?_⟩
 obtain ⟨v,hv,ha⟩:=hc j hj
 exact ⟨v,cell_below hv hb hlt,ha.below hb⟩
def SumR (P:Nat) [NeZero P] (N:Nat) (w:World) (n a:Nat) (L M:Nat→Bs) (e:Value) (w':World):Prop:=
 (n≠a∧OutE 2 e)∨(n=a∧512<n∧OutE 1 e)∨(n=a∧n≤512∧(((∃ j,j<n∧rq N (L j)=none)∧OutE 3 e) ∨
  ∃ ns:Nat→Nat,(∀ j,j<n→rq N (L j)=some (ns j))∧(((∃ j,j<n∧rd P (M j)=none)∧OutE 4 e) ∨
   ∃ xs ys:Nat→Fin P,(∀ j,j<n→rd P (M j)=some (xs j,ys j))∧OutP w (by33 (ptP (sumJ ns xs ys n 257)).1 (ptP (sumJ ns xs ys n 257)).2) e w')))
theorem zFt {A:Type} [Inhabited A] {n:Nat} {p:Nat→A→Prop} (h:∀ j,j<n→∃ a,p j a):∃ f:Nat→A,∀ j,j<n→p j (f j):=
 ⟨fun j=>if hj:j<n then (h j hj).choose else default,fun j hj=>by
  show p j (if hj:j<n then (h j hj).choose else default)
  rw[dif_pos hj]
  exact (h j hj).choose_spec⟩
theorem zNk {N:Nat} (hN:N≤top) {bs:Bs} {m:Nat} (h:rq N bs=some m):m<top:=by
 unfold rq at h
 split at h
 ·rename_i h1
  obtain rfl:beV bs.toList=m:=Option.some.inj h
  exact Nat.lt_of_lt_of_le h1.2 hN
 ·exact absurd h (by simp)
theorem zQC {N:Nat} (C:Fld P) (hG:Gap 4624529908474429119 4994812053365940164 1 N) (hN:N≤top) (q q':Option Addr) (n cap a cap':Nat) (L M:Nat→Bs) (w:World) (hL:zGm w q n L) (hM:ArgsPts w q' a M) :
 Calls Tryz.prog 77 #[.slice q n cap,.slice q' a cap'] w (Ret fun e w'=>Below w.heap.size w w'∧SumR P N w n a L M e w'):=by
 have HL:Hid (zGm w q n L):=hL
 have HM:Hid (ArgsPts w q' a M):=hM
 clear hL hM
 by_cases hna:n=a
 ·subst hna
  by_cases h512:512<n
  ·go_enter Tryz.func77,Tryz.ntmps77
   go_wp2
   go_ret2
   exact ⟨_,rfl,RowKit.Below.refl _ _,Or.inr (Or.inl ⟨rfl,h512,rfl⟩)⟩
  ·have H5:n≤512:=by omega
   go_enter Tryz.func77,Tryz.ntmps77
   go_wp2_with fail
   refine (zSa hG n cap H5 q L w HL.out).mono ?_
   rintro e w1 ⟨v,rfl,hb1,⟨k,hk1,hk2,rfl,hrow⟩|⟨hno,rfl⟩⟩
   ·obtain ⟨ns,hns⟩:=zFt hrow
    have HB:Hid (Below w.heap.size w w1):=hb1
    have HS:Hid (k<w1.heap.size∧∀ j,j<n→w1.rangeAt k (4*j) (wn (ns j))):=⟨hk2,fun j hj=>(hns j hj).2⟩
    have HN:Hid (∀ j,j<n→rq N (L j)=some (ns j)):=fun j hj=>(hns j hj).1
    clear hrow hns hk1 hk2 hb1
    go_wp2_with fail
    refine (zSb C n cap' H5 q' M w1 (HM.out.below HB.out)).mono ?_
    rintro e w2 ⟨v,rfl,hb2,⟨k',hk1,hk2,rfl,hrow⟩|⟨hno,rfl⟩⟩
    ·obtain ⟨ps,hps⟩:=zFt hrow
     have HB2:Hid (Below w.heap.size w w2):=HB.out.trans (hb2.mono HB.out.size)
     have HS2:Hid (k<w2.heap.size∧∀ j,j<n→w2.rangeAt k (4*j) (wn (ns j))):=⟨Nat.lt_of_lt_of_le HS.out.1 hb2.size,fun j hj=>RG.zAk (HS.out.2 j hj) hb2 HS.out.1⟩
     have HP:Hid (k'<w2.heap.size∧∀ j,j<n→w2.rangeAt k' (8*j) (ws (ps j).1++ws (ps j).2)):=⟨hk2,fun j hj=>(hps j hj).2⟩
     have HM2:Hid (∀ j,j<n→rd P (M j)=some ((ps j).1,(ps j).2)):=fun j hj=>(hps j hj).1
     clear hrow hps hk1 hk2 hb2
     have hBt:∀ w,Calls Tryz.prog 79 #[pv (ptP (sumJ ns (fun j=>(ps j).1) (fun j=>(ps j).2) n 257)).1 (ptP (sumJ ns (fun j=>(ps j).1) (fun j=>(ps j).2) n 257)).2] w (Ret fun e w'=>Below w.heap.size w w'∧zE7 w (by33 (ptP (sumJ ns (fun j=>(ps j).1) (fun j=>(ps j).2) n 257)).1 (ptP (sumJ ns (fun j=>(ps j).1) (fun j=>(ps j).2) n 257)).2) e w'):=zLn C _ _
     have hS:Calls Tryz.prog 81 #[.slice (some ⟨k,0,none⟩) n n,.slice (some ⟨k',0,none⟩) n n] w2 (Ret fun e w'=>Below w2.heap.size w2 w'∧e=pv (ptP (sumJ ns (fun j=>(ps j).1) (fun j=>(ps j).2) n 257)).1 (ptP (sumJ ns (fun j=>(ps j).1) (fun j=>(ps j).2) n 257)).2):=by
      refine (zPH C n H5 ns (fun j=>(ps j).1) (fun j=>(ps j).2) (fun i hi=>zNk hN (HN.out i hi)) k k' w2 HS2.out.1 HP.out.1 HS2.out.2 HP.out.2).mono ?_
      rintro e w' ⟨v,rfl,hb,s,rfl,rfl⟩
      exact ⟨_,rfl,hb,rfl⟩
     generalize hz:ptP (sumJ ns (fun j=>(ps j).1) (fun j=>(ps j).2) n 257)=z at hS hBt
     have HZ:Hid (ptP (sumJ ns (fun j=>(ps j).1) (fun j=>(ps j).2) n 257)=z):=hz
     clear hz
     generalize pv z.1 z.2=v4 at hS hBt
     go_wp2_with fail
     refine hS.mono ?_
     rintro e w3 ⟨v,rfl,hb3,rfl⟩
     have HB3:Hid (Below w.heap.size w w3):=HB2.out.trans (hb3.mono HB2.out.size)
     clear hb3
     go_wp2_with fail
     refine (hBt _).mono ?_
     rintro e w4 ⟨v,rfl,hb4,g,cap3,rfl,hc3,hg3,hlt3,hH3⟩
     have HB4:Hid (Below w.heap.size w w4):=HB3.out.trans (hb4.mono HB3.out.size)
     have HO:Hid (OutP w (by33 z.1 z.2) (.tuple #[.slice (some ⟨g,0,none⟩) 33 cap3,.int .i64 0]) w4):=⟨g,cap3,rfl,hc3,Nat.le_trans HB3.out.size hg3,hlt3,hH3⟩
     clear hb4 hH3
     go_wp2
     go_ret2
     refine ⟨_,rfl,HB4.out,Or.inr (Or.inr ⟨rfl,H5,Or.inr ⟨ns,HN.out,Or.inr ⟨_,_,HM2.out,?_⟩⟩⟩)⟩
     rw[HZ.out]
     exact HO.out
    ·have HB2:Hid (Below w.heap.size w w2):=HB.out.trans (hb2.mono HB.out.size)
     have HO:Hid (∃ j,j<n∧rd P (M j)=none):=hno
     clear hb2 hno
     go_wp2
     go_ret2
     exact ⟨_,rfl,HB2.out,Or.inr (Or.inr ⟨rfl,H5,Or.inr ⟨ns,HN.out,Or.inl ⟨HO.out,rfl⟩⟩⟩)⟩
   ·have HB:Hid (Below w.heap.size w w1):=hb1
    have HO:Hid (∃ j,j<n∧rq N (L j)=none):=hno
    clear hb1 hno
    go_wp2
    go_ret2
    exact ⟨_,rfl,HB.out,Or.inr (Or.inr ⟨rfl,H5,Or.inl ⟨HO.out,rfl⟩⟩)⟩
 ·go_enter Tryz.func77,Tryz.ntmps77
  go_wp2
  go_ret2
  exact ⟨_,rfl,RowKit.Below.refl _ _,Or.inl ⟨hna,rfl⟩⟩
def zs33:Bs:=Array.replicate 33 0
theorem zPL (r d:Nat):d*d%(r+d)=r*r%(r+d):=by
 have h:d*d+(r+d)*r=r*r+(r+d)*d:=by
  rw[Nat.add_mul,Nat.add_mul,Nat.mul_comm d r]
  omega
 have h1:=congrArg (· % (r+d)) h
 simp only[Nat.add_mul_mod_self_left] at h1
 exact h1
theorem zL5 {m y:Fin P} (h:rt m=some y):y*y=m:=by
 have h0:=zNj h
 unfold rt at h
 rw[if_pos h0] at h
 obtain rfl:=Option.some.inj h
 have hP:=Nat.pos_of_neZero P
 have hr:m.val^(P/4+1)%P<P:=Nat.mod_lt _ hP
 generalize m.val^(P/4+1)%P=r at h0 hr
 apply Fin.ext
 rw[Fin.val_mul]
 show (even P r%P)*(even P r%P)%P=m.val
 rw[Nat.mod_eq_of_lt (zKY hP hr),← h0]
 unfold even
 split
 ·have h2:=zPL r (P-r)
  rw[show r+(P-r)=P by omega] at h2
  exact h2
 ·rfl
theorem zCx {bs:Bs} (hs:bs.size=33):zDq bs↔bs=zs33:=by
 constructor
 ·intro h
  apply Array.ext
  ·rw[hs];rfl
  ·intro i h1 h2
   have:=h i (List.mem_range.2 (by omega))
   rw[getElem!_pos bs i h1] at this
   have h3:bs[i].toNat=0:=by
    have h4:ub bs[i]=(bs[i].toNat:Int):=rfl
    rw[h4] at this
    omega
   have h5:(zs33)[i]=0:=by
    have h6:(Array.replicate 33 (0:UInt8))[i]'h2=0:=Array.getElem_replicate _
    exact h6
   rw[h5]
   exact UInt8.toNat_inj.1 h3
 ·rintro rfl i hi
  have hi:=List.mem_range.1 hi
  unfold zs33
  rw[getElem!_pos _ i (by rw[Array.size_replicate];exact hi),Array.getElem_replicate]
  rfl
theorem zKw {x y:Fin P} (h:y*y=x*x*x+7):EC.On (.some (x,y):EC.Pt P):=by
 show y^2=x^3+7
 grobner
theorem zKx {x y:Fin P} (h:y*y=x*x*x+7):EC.On (.some (x,0-y):EC.Pt P):=by
 show (0-y)^2=x^3+7
 grobner
def wr:EC.Pt P→Bs
 | none=>zs33
 | some (x,y)=>#[mark y.val]++bx x.val
theorem zLo (C:Fld P) {x y:Fin P} {p:EC.Pt P} (h:EC.Pair x y p) (ho:EC.On p):by33 x y=wr p:=by
 unfold by33
 match p,h,ho with
 | none,h,_=>rw[if_pos (show x=0∧y=0 from h)];rfl
 | some (a,b),h,ho =>
  obtain ⟨rfl,rfl⟩:=h
  rw[if_neg (fun e=>C.cur.y_ne ho e.2)]
  rfl
def pt (p:Fin P × Fin P):EC.Pt P:=if p.1=0∧p.2=0 then none else some p
theorem zOJ (C:Fld P) {x y:Fin P} {q:EC.Pt P} (h:EC.Pair x y q) (ho:EC.On q):q=pt (x,y):=by
 unfold pt
 match q,h,ho with
 | none,h,_=>rw[if_pos (show x=0∧y=0 from h)]
 | some (a,b),h,ho =>
  obtain ⟨rfl,rfl⟩:=h
  rw[if_neg (fun e=>C.cur.y_ne ho e.2)]
theorem zJ4 (C:Fld P) {bs:Bs} {p:Fin P × Fin P} (h:rd P bs=some p):EC.Pair p.1 p.2 (pt p)∧EC.On (pt p):=by
 have key:∃ q:EC.Pt P,EC.Pair p.1 p.2 q∧EC.On q:=by
  unfold rd at h
  split at h
  ·split at h
   ·obtain rfl:=Option.some.inj h
    exact ⟨none,⟨rfl,rfl⟩,EC.zBC⟩
   ·split at h
    ·split at h
     ·obtain ⟨y,hr,rfl⟩:=Option.map_eq_some_iff.1 h
      have hsq:=zL5 hr
      refine ⟨some (rdx P bs,if ub bs[0]! = 3 then 0-y else y),⟨rfl,rfl⟩,?_⟩
      split
      ·exact zKx hsq
      ·exact zKw hsq
     ·cases h
    ·cases h
  ·cases h
 obtain ⟨q,h1,h2⟩:=key
 have:=zOJ C h1 h2
 rw[show pt p=q from this.symm]
 exact ⟨h1,h2⟩
omit [NeZero P] in
theorem zAB (p:EC.Pt P):(wr p).size=33:=by
 match p with
 | none=>rfl
 | some (x,y) =>
  show (#[mark y.val]++bx x.val).size=33
  rw[Array.size_append,zA3]
  rfl
end
section
variable {P:Nat} [NeZero P] {N:Nat}
theorem zL7 {a P:Nat} (h:NT.IsP P) (h4:P%4=3):(a*a%P)^(P/4+1)%P*((a*a%P)^(P/4+1)%P)%P=a*a%P:=by
 rw[← Nat.mul_mod,← Nat.pow_add,← Nat.pow_mod,← Nat.pow_two,← Nat.pow_mul,show 2*(P/4+1+(P/4+1))=P+1 by omega,Nat.pow_succ,Nat.mul_mod,h.fermat a,← Nat.mul_mod,Nat.pow_two]
theorem zOl {a R P:Nat} (h:NT.IsP P) (ha:a<P) (hR:R<P) (he:R*R%P=a*a%P):R=a∨R+a=P:=by
 have key:∀ x y:Nat,x<P→y<P→y≤x→x*x%P=y*y%P→x=y∨x+y=P:=by
  intro x y hx hy hxy hxe
  have hd:P ∣ x*x-y*y:=by
   refine Nat.dvd_of_mod_eq_zero ?_
   exact Nat.sub_mod_eq_zero_of_mod_eq hxe
  have hf:x*x-y*y=(x-y)*(x+y):=by
   rw[Nat.mul_comm (x-y),Nat.mul_self_sub_mul_self_eq]
  rw[hf] at hd
  rcases h.euclid hd with h1|h1
  ·left
   have:=Nat.eq_zero_of_dvd_of_lt h1 (by omega)
   omega
  ·obtain ⟨k,hk⟩:=h1
   have:k=0∨k=1∨2≤k:=by omega
   rcases this with rfl|rfl|h2
   ·left;omega
   ·right;omega
   ·have:=Nat.mul_le_mul_left P h2
    omega
 rcases Nat.le_total a R with h1|h1
 ·exact key R a hR ha h1 he
 ·rcases key a R ha hR h1 he.symm with h2|h2
  ·left;exact h2.symm
  ·right;omega
end
section
open Go.RowKit Go.Sort Go.Deep
theorem zIe (x:Nat) (hx:x<18446744073709551616) :
 w8 (UInt8.ofNat (x/72057594037927936)) (UInt8.ofNat (x/281474976710656)) (UInt8.ofNat (x/1099511627776)) (UInt8.ofNat (x/4294967296)) (UInt8.ofNat (x/16777216)) (UInt8.ofNat (x/65536)) (UInt8.ofNat (x/256)) (UInt8.ofNat x)=x:=by
 unfold w8
 simp only[UInt8.toNat_ofNat']
 omega
theorem zLx (a b c d:Nat):(be32 a b c d).toList=[UInt8.ofNat (d/72057594037927936),UInt8.ofNat (d/281474976710656),UInt8.ofNat (d/1099511627776),UInt8.ofNat (d/4294967296),UInt8.ofNat (d/16777216),UInt8.ofNat (d/65536),UInt8.ofNat (d/256),UInt8.ofNat d,UInt8.ofNat (c/72057594037927936),UInt8.ofNat (c/281474976710656),UInt8.ofNat (c/1099511627776),UInt8.ofNat (c/4294967296),UInt8.ofNat (c/16777216),UInt8.ofNat (c/65536),UInt8.ofNat (c/256),UInt8.ofNat c,UInt8.ofNat (b/72057594037927936),UInt8.ofNat (b/281474976710656),UInt8.ofNat (b/1099511627776),UInt8.ofNat (b/4294967296),UInt8.ofNat (b/16777216),UInt8.ofNat (b/65536),UInt8.ofNat (b/256),UInt8.ofNat b,UInt8.ofNat (a/72057594037927936),UInt8.ofNat (a/281474976710656),UInt8.ofNat (a/1099511627776),UInt8.ofNat (a/4294967296),UInt8.ofNat (a/16777216),UInt8.ofNat (a/65536),UInt8.ofNat (a/256),UInt8.ofNat a]:=by
 simp only[be32,be8,Array.toList_append,List.cons_append,List.nil_append]
theorem val_congr {a b c d p q r s:Nat} (h1:a=p) (h2:b=q) (h3:c=r) (h4:d=s):val a b c d=val p q r s:=by subst h1 h2 h3 h4;rfl
theorem zM0 (a b c d:Nat) (ha:a<18446744073709551616) (hb:b<18446744073709551616) (hc:c<18446744073709551616) (hd:d<18446744073709551616):beV (be32 a b c d).toList=val a b c d:=
 (congrArg beV (zLx a b c d)).trans ((zNB _ _ _ _ _ _ _ _ _ _ _ _ _ _ _ _ _ _ _ _ _ _ _ _ _ _ _ _ _ _ _ _).trans (val_congr (zIe a ha) (zIe b hb) (zIe c hc) (zIe d hd)))
theorem zIC {n:Nat} (hn:n<top):beV (bx n).toList=n:=by
 unfold bx
 rw[zM0 _ _ _ _ (by omega) (by omega) (by omega) (by omega)]
 unfold val
 unfold top at hn
 omega
variable {P:Nat} [NeZero P]
theorem zOf (C:Fld P) {y m:Fin P} (h:y*y=m):rt m=some (if y.val%2=1 then 0-y else y):=by
 have hm:y.val*y.val%P=m.val:=by rw[← h,Fin.val_mul]
 have h1:=zL7 (a:=y.val) C.cur.pr C.p3
 rw[hm] at h1
 unfold rt
 rw[if_pos h1]
 have hP:=Nat.pos_of_neZero P
 have hr:m.val^(P/4+1)%P<P:=Nat.mod_lt _ hP
 generalize m.val^(P/4+1)%P=r at h1 hr
 have hy:=y.isLt
 have h3:=C.p3
 have hor:=zOl C.cur.pr hy hr (h1.trans hm.symm)
 congr 1
 apply Fin.ext
 show even P r%P=_
 unfold even
 have h0:(0-y:Fin P).val=(P-y.val)%P:=by rw[← zCP,EC.val_zero,Nat.zero_add]
 by_cases ho:y.val%2=1
 ·rw[if_pos ho,h0]
  rcases hor with e|e
  ·rw[e,if_pos ho]
  ·rw[if_neg (by omega),show P-y.val=r by omega]
 ·rw[if_neg ho]
  rcases hor with e|e
  ·rw[e,if_neg ho,Nat.mod_eq_of_lt hy]
  ·by_cases hz:y.val=0
   ·omega
   ·rw[if_pos (by omega),show P-r=y.val by omega,Nat.mod_eq_of_lt hy]
theorem zNW (n:Nat):ub (mark n)=if n%2=1 then 3 else 2:=by
 unfold mark
 split<;>rfl
theorem zNZ {m:UInt8} {b:Bs} (h:b.size=32):tl33 (#[m]++b)=b:=by
 unfold tl33
 rw[Array.extract_append]
 have h1:(#[m]:Bs).extract 1 33=#[]:=by rfl
 rw[h1]
 simp[h]
theorem zQm (m:UInt8) (b:Bs):(#[m]++b)[0]! = m:=by
 rw[getElem!_pos _ 0 (by rw[Array.size_append];simp;omega),Array.getElem_append_left (by simp)]
 rfl
theorem zRB (C:Fld P) {b:Bs} (hs:b.size=33) {x y:Fin P} (hm:ub b[0]! = if y.val%2=1 then 3 else 2) (hv:beV (tl33 b).toList=x.val) (h:EC.On (some (x,y):EC.Pt P)):rd P b=some (x,y):=by
 have hz:¬ zDq b:=fun hz=>by
  have:=hz 0 (List.mem_range.2 (by decide))
  rw[hm] at this
  split at this<;>omega
 have hx:rdx P b=x:=by
  unfold rdx
  rw[hv]
  exact Fin.ext (Nat.mod_eq_of_lt x.isLt)
 have hy:y*y=x*x*x+7:=by
  have:y^2=x^3+7:=h
  grobner
 unfold rd
 rw[if_pos hs,if_neg hz,hm,hv,if_pos x.isLt,hx,zOf C hy]
 by_cases ho:y.val%2=1
 ·rw[if_pos ho,if_pos (Or.inr rfl),if_pos ho,Option.map_some,if_pos rfl]
  have e:0-(0-y)=y:=by grobner
  rw[e]
 ·rw[if_neg ho,if_pos (Or.inl rfl),if_neg ho,Option.map_some,if_neg (by decide)]
theorem zI2 (C:Fld P) {X:EC.Pt P} (h:EC.On X):∃ p,rd P (wr X)=some p∧pt p=X:=by
 match X,h with
 | none,_ =>
  refine ⟨(0,0),?_,by unfold pt;rw[if_pos ⟨rfl,rfl⟩]⟩
  have h1:(wr (none:EC.Pt P)).size=33:=zAB _
  have h2:zDq (wr (none:EC.Pt P)):=(zCx h1).2 rfl
  generalize wr (none:EC.Pt P)=b at h1 h2
  unfold rd
  rw[if_pos h1,if_pos h2]
 | some (x,y),h =>
  have hs:=zAB (P:=P) (some (x,y))
  have hb0:(wr (some (x,y):EC.Pt P))[0]! = mark y.val:=zQm _ _
  have ht:tl33 (wr (some (x,y):EC.Pt P))=bx x.val:=zNZ (zA3 _)
  refine ⟨(x,y),zRB C hs (by rw[hb0,zNW]) (by rw[ht,zIC (C.top x)]) h,by unfold pt;rw[if_neg (fun e=>C.cur.y_ne h e.2)]⟩
end
section
open Go.RowKit Go.Sort Go.Deep
variable {P:Nat} [NeZero P] {N:Nat}
def gxl:List Value:=[.int .u64 6481385041966929816,.int .u64 188021827762530521,.int .u64 6170039885052185351,.int .u64 8772561819708210092]
def gyl:List Value:=[.int .u64 11261198710074299576,.int .u64 18237243440184513561,.int .u64 6747795201694173352,.int .u64 5204712524664259685]
def gX (P:Nat) [NeZero P]:Fin P:=Fin.ofNat P 55066263022277343669578718895168534326250603453777594175500187360389116729240
def gY (P:Nat) [NeZero P]:Fin P:=Fin.ofNat P 32670510020758816978083085130507043184471273380659243275938904335757337482424
def gG (P:Nat) [NeZero P]:EC.Pt P:=some (gX P,gY P)
theorem Fld.eq (C:Fld P):P=115792089237316195423570985008687907853269984665640564039457584007908834671663:=by
 have h:=C.gap.hP
 have e:val 4294968273 0 0 0=4294968273:=by decide
 rw[e] at h
 unfold Go.Proofs.YtglhhepedoffeaaGreat.top at h
 omega
theorem zKT (C:Fld P):(gX P).val=55066263022277343669578718895168534326250603453777594175500187360389116729240:=by
 have h:=C.eq
 exact Nat.mod_eq_of_lt (by omega)
theorem zKS (C:Fld P):(gY P).val=32670510020758816978083085130507043184471273380659243275938904335757337482424:=by
 have h:=C.eq
 exact Nat.mod_eq_of_lt (by omega)
theorem zQz (C:Fld P):gxl=ws (gX P):=by
 show _=wn (gX P).val
 rw[zKT C]
 kernel_rfl
theorem zQy (C:Fld P):gyl=ws (gY P):=by
 show _=wn (gY P).val
 rw[zKS C]
 kernel_rfl
theorem zF7 (C:Fld P):EC.On (gG P):=by
 refine zKw (Fin.ext ?_)
 have h7:(7:Fin P).val=7:=Nat.mod_eq_of_lt C.p7
 rw[Fin.val_mul,Fin.val_add,Fin.val_mul,Fin.val_mul,zKT C,zKS C,h7]
 have h:=C.eq
 rw[h]
theorem zQS:Gives 78 #[] (.agg (gxl++gyl).toArray):=by
 intro w
 go_enter Tryz.func78,Tryz.ntmps78
 refine RG.M.enter [] 4 (by kernel_rfl) ?_
 intro a0 M0
 repeat refine wp_seq ?_
 refine M0.t [.m 0 [] 0] [(0,RG.z 8)] [] [RG.z 8] [(0,.p 0 0)] ⟨RG.mk 0 112,trivial⟩ ?_
 intro j1 a1 w1 M1
 repeat refine wp_seq ?_
 refine M1.t [.x 1 [] (.agg gxl.toArray),.x 2 [] (.agg gyl.toArray),.x 3 [(1,0),(2,1)] (.agg (gxl++gyl).toArray),.u [(3,2)] 0] [] [(0,3,gxl++gyl)] [gxl++gyl] [(0,.p 0 0)] ⟨RG.st,RG.st,RG.st,RG.pt i109,trivial⟩ ?_
 intro a2 w2 M2
 refine wp_ret ?_
 refine bodyPost_ret (v:=.agg (gxl++gyl).toArray) (RG.zAb M2.st 0 112 rfl 0 _ rfl (M2.at (s:=.p 0 0)) u109 i109) M2.sl.defers ?_
 exact ⟨_,rfl,M2.st.bel.below,rfl⟩
theorem zQT (C:Fld P):Gives 78 #[] (pv (gX P) (gY P)):=by
 unfold pv
 rw[← zQz C,← zQy C]
 exact zQS
theorem zRV (C:Fld P):by33 (gX P) (gY P)=wr (gG P):=zLo C ⟨rfl,rfl⟩ (zF7 C)
theorem zNJ (C:Fld P) (w:World):Calls Tryz.prog 26 #[] w (Ret fun e w'=>Below w.heap.size w w'∧zE7 w (wr (gG P)) e w'):=by
 have HC:Hid (Fld P):=C
 clear C
 go_enter Tryz.func26,Tryz.ntmps26
 go_wp2_with fail
 refine (zQT HC.out _).mono ?_
 rintro e w1 ⟨v,rfl,hb1,rfl⟩
 go_wp2_with fail
 refine (zLn HC.out (gX P) (gY P) _).mono ?_
 rintro e w2 ⟨v,rfl,hb2,g,cap,rfl,h1,h2,h3,h4⟩
 rw[zRV HC.out] at h4
 have HB:Hid (Below w.heap.size w w2∧zE7 w (wr (gG P)) (.slice (some ⟨g,0,none⟩) 33 cap) w2):=⟨hb1.trans (hb2.mono hb1.size),g,cap,rfl,h1,Nat.le_trans hb1.size h2,h3,h4⟩
 clear hb1 hb2 h1 h2 h3 h4
 go_wp2
 go_ret
 exact ⟨_,rfl,HB.out⟩
end
section
open Go.RowKit Go.Sort Go.Deep Go.Shelf
attribute [local go_sem] Oper.semAt_some
section
variable {F:Fence} {n:Nat} {P:Program} {ops:Array Oper} {rest:List Oper} {op:Oper} {a:Act} {w:World} {Q:Exit→Act→World→Prop}
end
def Row (W:World) (k:Nat) (vs:List Value):Prop:=k<W.heap.size∧W.rangeAt k 0 vs∧W.there k 0 vs.length
theorem zJW (k:Nat) (vs:List Value):Own (fun (_:Unit) W=>Row W k vs):=fun s A B row hs hg hr=>by
 refine ⟨Nat.lt_of_lt_of_le hs.1 hg.size,fun j v hj=>?_,fun j hj=>?_⟩
 ·exact cell_kept (hs.2.1 j v hj) hg hr
 ·have h1:=hs.2.1 j vs[j] (List.getElem?_eq_getElem hj)
  have h2:=cell_kept h1 hg hr
  exact ⟨by rw[h2];rfl,(frozen_kept h1 hg hr).trans (hs.2.2 j hj).2⟩
theorem Row.alloc {W:World} {k:Nat} {vs:List Value} (h:Row W k vs) (o:Obj):Row (W.alloc o) k vs:=
 zJW k vs () W (W.alloc o) none h (World.grownBy_alloc W o none) (fun _ e=>by cases e)
theorem Row.putObj {W:World} {k D:Nat} {vs:List Value} (h:Row W k vs) {o:Obj} (hD:W.heap[D]? = some o) (ho:o.isCells=false) (o':Obj):Row (W.putObj D o') k vs:=
 zJW k vs () W (W.putObj D o') (some D) h (grownBy_putObj' W D o') (fun r e=>by cases e;exact ⟨_,hD,ho⟩)
theorem Row.below {W W':World} {k:Nat} {vs:List Value} (h:Row W k vs) (hb:Below W.heap.size W W'):Row W' k vs:=by
 have e:=hb.block k h.1
 refine ⟨Nat.lt_of_lt_of_le h.1 hb.size,fun j v hj=>?_,fun j hj=>?_⟩
 ·exact (World.cell?_of_block e).trans (h.2.1 j v hj)
 ·have h1:=h.2.2 j hj
  exact ⟨by rw[World.cell?_of_block e];exact h1.1,(World.frozen?_of_block e).trans h1.2⟩
theorem zAv {P:Program} {fn:Func} {tmps:Array Value} {W:World} {k:Nat} {vs:List Value} (t:Tmp) (T:TypeId) (hr:fn.results=#[.cell t T]) (h:Row W k vs) (ht:tmps[t]? = some (.pointer (some ⟨k,0,none⟩)))
 (hu:(P.underlying T).map (·.isRow)=some true) (hi:(P.info? T).map (·.size)=some vs.length):(results fn tmps).run P W=.ok (.agg vs.toArray) W:=by
 obtain ⟨d,hu,hd⟩:=Option.map_eq_some_iff.1 hu
 have h1:=run_loadVar_mid (P:=P) W k 0 T vs d h.2.1 hu hd hi
 have h2:tmps.getD t undef=.pointer (some ⟨k,0,none⟩):=by rw[Array.getD_eq_getD_getElem?,ht];rfl
 unfold results
 rw[hr]
 simp only[Array.mapM_eq_mapM_toList,List.mapM_cons,List.mapM_nil,h2,asAddr]
 simp[Sem.run_bind,h1]
theorem Row.put {W:World} {k:Nat} {vs us:List Value} (h:Row W k vs) (hl:us.length=vs.length):Row (W.setCells k 0 us) k us:=
 ⟨by rw[RG.setCells_size];exact h.1,World.rangeAt_setCells_same W k 0 us (by rw[hl];exact h.2.2),by rw[hl];exact World.there_setCells h.2.2 _ _ _⟩
theorem Row.other {W:World} {k j:Nat} {vs us:List Value} (h:Row W k vs) (hne:k≠j):Row (W.setCells j 0 us) k vs:=
 ⟨by rw[RG.setCells_size];exact h.1,World.rangeAt_setCells_apart h.2.1 j 0 us (Or.inl hne),World.there_setCells h.2.2 _ _ _⟩
variable {P:Nat} [NeZero P]
end
section
open Go.RowKit Go.Sort Go.Deep Go.Shelf
attribute [local go_sem] Oper.semAt_some
def chv (sb so c i:Nat):Value:=.slice (some ⟨sb,so+c*i,none⟩) c c
theorem zMC {w w':World} (h:Below w.heap.size w w') (row:Option Nat):w.grownBy w' row:=⟨h.os,h.tape,h.output,h.size,fun k hk _=>h.block k hk⟩
theorem sl3 (sb so n cap x y:Nat) (h1:x<y) (h2:y≤cap) (w:World):(Instr.sliceAt 22 (.slice (some ⟨sb,so,none⟩) n cap) (some (.int .i64 x)) (some (.int .i64 y)) (some (.int .i64 y))).run Tryz.prog w=.ok (.slice (some ⟨sb,so+x,none⟩) (y-x) (y-x)) w:=by
 have h3:¬ y=x:=by omega
 have h4:(x:Int)≤y:=by omega
 have h5:(y:Int)≤cap:=by omega
 have h6:x≤y:=by omega
 go_simp
theorem zPk (sb so c m n cap k1 k2:Nat) (w:World) (hc:0<c) (hn:n=c*m) (hcap:n≤cap) (hbig:n≤1073741824) (h1:w.cell? ⟨k1,0,none⟩=some (.slice (some ⟨sb,so,none⟩) n cap)) (h2:w.cell? ⟨k2,0,none⟩=some (.int .i64 c)) (l1:k1<w.heap.size) (l2:k2<w.heap.size) (nn:Nat) :
 SeqStopsK Fence.wide nn Tryz.prog 161 #[.pointer (some ⟨k1,0,none⟩),.pointer (some ⟨k2,0,none⟩)] (fun i:Nat=>#[chv sb so c i]) (Below w.heap.size) (fun xs=>xs=List.range m) (fun _=>True) m w:=by
 intro l J Jx W hW hJ hJx hY h0
 have HN:Hid (n=c*m):=hn
 clear hn
 refine callsIn_of_wp Tryz.func161 rfl trivial ?_ rfl
 simp only[Tryz.ntmps161,List.size_toArray,List.length_cons,List.length_nil,Nat.reduceAdd,Nat.reduceSub,Array.replicate_succ,Array.replicate_zero,List.push_toArray,List.append_toArray,List.nil_append,List.cons_append]
 gi_wp2
 gi_loopw [4] (fun p wr=>∃ i:Nat,i≤m∧p=.int .i64 ((c*i:Nat):Int)∧J (List.range i) wr∧Below w.heap.size w wr∧W.heap.size≤wr.heap.size) (fun p wr=>n-(intOf p).toNat)
 case atStart =>
  exact ⟨0,Nat.zero_le _,by rw[Nat.mul_zero];rfl,h0,hW,Nat.le_refl _⟩
 case round =>
  obtain ⟨i,hi,rfl,hJi,hB,hsz⟩:=hrel
  have c1:wr.cell? ⟨k1,0,none⟩=some (.slice (some ⟨sb,so,none⟩) n cap):=(World.cell?_of_block (hB.block k1 l1)).trans h1
  have c2:wr.cell? ⟨k2,0,none⟩=some (.int .i64 c):=(World.cell?_of_block (hB.block k2 l2)).trans h2
  by_cases he:i=m
  ·subst he
   have hge:¬ ((c*i:Nat):Int)<(n:Int):=by rw[HN.out];omega
   gi_wp2
   go_end0
   exact ⟨⟨_,rfl⟩,.inl hJi⟩
  ·obtain ⟨x,hx⟩:∃ x,Hid (c*i=x):=⟨_,rfl⟩
   have hxn:x+c≤n:=by
    have:=Nat.mul_le_mul_left c (show i+1≤m by omega)
    rw[Nat.mul_add,hx.out,← HN.out] at this
    omega
   have hlt:(x:Int)<(n:Int):=by omega
   rw[hx.out]
   gi_wp2_with fail
   refine wpIn_wide.2 ?_
   have hsl:(Instr.sliceAt 22 (.slice (some ⟨sb,so,none⟩) n cap) (some (.int .i64 x)) none none).run Tryz.prog wr.drew=.ok (.slice (some ⟨sb,so+x,none⟩) (n-x) (cap-x)) wr.drew:=by
    have h1:¬ (x:Int)<0:=by omega
    have h2:(x:Int)≤n:=by omega
    have h3:(n:Int)≤cap:=by omega
    have h4:¬ cap=x:=by omega
    go_simp
   have c1':wr.drew.cell? ⟨k1,0,none⟩=some (.slice (some ⟨sb,so,none⟩) n cap):=c1
   have c2':wr.drew.cell? ⟨k2,0,none⟩=some (.int .i64 c):=c2
   go_region
   rename_i K ha
   refine ha _ _ ?_
   clear ha hsl c1' c2' hlt
   obtain ⟨fn,tmps,assign,body,hy,hR⟩:=hY (List.range i) i wr.drew (hJ _ wr _ none hJi (zMC ((Below.refl _ wr).drew) none) (fun _ e=>by cases e)) (by rw[List.length_range];omega)
   have c1':wr.drew.cell? ⟨k1,0,none⟩=some (.slice (some ⟨sb,so,none⟩) n cap):=c1
   have c2':wr.drew.cell? ⟨k2,0,none⟩=some (.int .i64 c):=c2
   have hsl:∀ w:World,(Instr.sliceAt 22 (.slice (some ⟨sb,so,none⟩) n cap) (some (.int .i64 x)) (some (.int .i64 ((x+c:Nat):Int))) (some (.int .i64 ((x+c:Nat):Int)))).run Tryz.prog w=.ok (.slice (some ⟨sb,so+x,none⟩) c c) w:=fun w=>by
    have:=sl3 sb so n cap x (x+c) (by omega) (by omega) w
    rwa[show x+c-x=c by omega] at this
   unfold chv at hy
   rw[hx.out] at hy
   gi_wp2_with fail
   clear hy
   refine ⟨fun h=>(by cases h),hR.mono ?_⟩
   clear hR hsl c1' c2' c1
   have hBd:Below w.heap.size w wr.drew:=hB.drew
   rintro e W8 (⟨rfl,hJ8,hk8⟩|⟨rfl,hJx8⟩)
   ·have c3:W8.cell? ⟨k2,0,none⟩=some (.int .i64 c):=(World.cell?_of_block ((hBd.trans hk8).block k2 l2)).trans h2
    gi_wp2_with fail
    refine ⟨⟨i+1,by omega,?_,?_,hBd.trans hk8,Nat.le_trans hsz hk8.size⟩,?_⟩
    ·rw[Nat.mul_add,hx.out,Nat.mul_one];rfl
    ·rw[List.range_succ];exact hJ8
    ·simp[intOf]
     omega
   ·gi_wp2_with fail
    refine bodyPost_ret (results_none rfl _ _ _) rfl ?_
    exact ⟨⟨_,rfl⟩,.inr ⟨_,trivial,hJx8⟩⟩
end
section
open Go.RowKit Go.Sort Go.Deep Go.Shelf
attribute [local go_sem] Oper.semAt_some
theorem zHy (base:Nat) (T:TypeId) (v:Value) (n:Nat) (xs:List Value):Own (fun (_:Unit) W=>W.ownsRow base T 1 v n xs):=fun s A B row hs hg hr=>by
 refine hs.kept hg ?_
 rcases hs.2 with ⟨rfl,_⟩|⟨g,cap,cur,rfl,_,hgb,_⟩
 ·exact .inl rfl
 ·refine .inr fun e'=>?_
  obtain ⟨o,ho,hw⟩:=hr g (by simpa[Value.ownBlock] using e'.symm)
  rw[hgb] at ho;cases ho;cases hw
theorem zB6 {W:World} {base:Nat} {T U:TypeId} {v:Value} {n k:Nat} {xs:List Value} (h:W.ownsRow base T 1 v n xs) {o:Obj} (hk:W.heap[k]? = some o) (hT:∀ cs,o≠.cells cs T (0,0)):v.ownBlock=none∨v.ownBlock≠some k:=by
 rcases h.2 with ⟨rfl,_⟩|⟨g,cap,cur,rfl,_,hgb,_⟩
 ·exact .inl rfl
 ·refine .inr fun e'=>?_
  have:g=k:=by simpa[Value.ownBlock] using e'
  subst this;rw[hgb] at hk;cases hk;exact hT cur rfl
theorem zMz {W W':World} {base:Nat} {T:TypeId} {v:Value} {n:Nat} {xs:List Value} (h:W.ownsRow base T 1 v n xs) (hg:W.grownBy W' v.ownBlock):KeepsOthers W W':=by
 refine ⟨hg.size,fun k o hk ho=>?_⟩
 rw[hg.block k (Array.getElem?_eq_some_iff.1 hk).1 ?_]
 ·exact hk
 ·rcases h.2 with ⟨rfl,_⟩|⟨g,cap,cur,rfl,_,hgb,_⟩
  ·simp[Value.ownBlock]
  ·intro e
   have:k=g:=by simpa[Value.ownBlock] using e
   subst this;rw[hgb] at hk;cases hk;cases ho
def Box (T U:TypeId) (base Bs:Nat) (xs:List Value) (W:World):Prop:=∃ v,W.heap[Bs]? = some (.cells #[v] U (0,0))∧W.ownsRow base T 1 v xs.length xs∧(v=.slice none 0 0↔xs=[])
theorem zPo (T U:TypeId) (base Bs:Nat) (xs:List Value):Own (fun (_:Unit) W=>Box T U base Bs xs W):=fun s A B row hs hg hr=>by
 obtain ⟨v,h1,h2,h3⟩:=hs
 refine ⟨v,?_,zHy base T v _ xs () A B row h2 hg hr,h3⟩
 rw[hg.block Bs (Array.getElem?_eq_some_iff.1 h1).1 ?_]
 ·exact h1
 ·intro e
  obtain ⟨o,ho,hw⟩:=hr Bs e.symm
  rw[h1] at ho;cases ho;cases hw
theorem zPn {W:World} {B:Nat} {v:Value} {t:TypeId} (v':Value) (h:W.heap[B]? = some (.cells #[v] t (0,0))):(W.setCell ⟨B,0,none⟩ v').heap[B]? = some (.cells #[v'] t (0,0)):=by
 obtain ⟨hlt,hk⟩:=Array.getElem?_eq_some_iff.1 h
 show (W.heap.modify B _)[B]? = _
 rw[Array.getElem?_eq_getElem (by rw[Array.size_modify];exact hlt),Array.getElem_modify_self,hk]
 rfl
theorem zLp (W:World) (b:Nat) (v:Value):W.grownBy (W.setCell ⟨b,0,none⟩ v) (some b):=
 ⟨rfl,rfl,rfl,(KeepsOthers.setCell W _ v).size,fun k _ hk=>Below.heap_setCell _ _ _ k (fun e=>hk (by rw[e]))⟩
theorem iBy:(Tryz.prog.info? 22).map (fun i=>(i.zero,i.size,i.bytes))=some (some (.slice none 0 0),1,24):=by kernel_rfl
theorem uBB:Tryz.prog.underlying 44=some (.slice 22):=by kernel_rfl
theorem zH2 (g:Nat→Addr) (c:Nat) (gf:Nat) (eg:∀ args w,(callFunc gf args).run Tryz.prog w=.ok (.enter gf args) w) (lb:Array Value) (N:Nat) (hN:N≤1048576) (w:World)
 (hseq:∀ n,SeqStopsK Fence.wide n Tryz.prog gf lb (fun i:Nat=>#[.slice (some (g i)) c c]) (Below w.heap.size) (fun xs=>xs=List.range N) (fun _=>True) N w) :
 Calls Tryz.prog 160 #[.slice none 0 0,.func (.func gf) #[] lb] w (Ret fun e w'=>Below w.heap.size w w'∧w'.ownsRow w.heap.size 22 1 e N ((List.range N).map (fun i=>Value.slice (some (g i)) c c))∧(e=.slice none 0 0↔N=0)):=by
 obtain ⟨i0,hi,hz0,hz1,hz2⟩:=info_parts iBy
 refine (callsIn_wide (n:=5)).1 ?_
 refine callsIn_of_wp_marks Tryz.func160 rfl trivial ?_ rfl
 simp only[Tryz.ntmps160,List.size_toArray,List.length_cons,List.length_nil,Nat.reduceAdd,Nat.reduceSub,Array.replicate_succ,Array.replicate_zero,List.push_toArray,List.append_toArray,List.nil_append,List.cons_append]
 gi_wp2
 obtain ⟨W0,hW0⟩:∃ W0,W0=w.alloc (.cells #[.slice none 0 0] 44):=⟨_,rfl⟩
 have hsz:W0.heap.size=w.heap.size+1:=by rw[hW0,World.size_alloc]
 have hv0:W0.heap[w.heap.size]? = some (.cells #[.slice none 0 0] 44 (0,0)):=by rw[hW0];exact World.alloc_heap_new w _
 have hB0:Below w.heap.size w W0:=by rw[hW0];exact (Below.refl _ w).alloc (Nat.le_refl _) _
 rw[← hW0]
 clear hW0
 refine wpIn_rangeFunc_ownH (α:=Nat) rfl (by decide) (gf:=gf) (lb:=lb) rfl trivial eg (hseq 4) belowK_t (belowK_b (by omega)) hB0 (fun _=>rfl)
  (fun pre W=>Box 22 44 w.heap.size w.heap.size (pre.map (fun i=>Value.slice (some (g i)) c c)) W∧Below w.heap.size w W)
  (fun c pre W=>False)
  (OwnFrom.and (Own.from (show Own (fun (pre:List Nat) W=>Box 22 44 w.heap.size w.heap.size (pre.map (fun i=>Value.slice (some (g i)) c c)) W) from fun s A B row hs hg hr=>zPo 22 44 w.heap.size w.heap.size (s.map (fun i=>Value.slice (some (g i)) c c)) () A B row hs hg hr) _) (ownFrom_below (Nat.le_refl _) (by omega)))
  (fun c=>fun s A B row hs hg hr=>hs.elim)
  ⟨⟨_,hv0,⟨rfl,.inl ⟨rfl,rfl⟩⟩,by simp⟩,hB0⟩
  (fun x a' W=>a' = { tmps:=#[.slice none 0 0,.func (.func gf) #[] lb,.pointer (some ⟨w.heap.size,0,none⟩),undef,.slice none 0 0,(.slice (some (g x)) c c),.func (.func gf) #[] lb,(.slice (some (g x)) c c),undef,undef,undef,undef,undef],defers:=[] })
  (fun x a'=>fun s A B row hs hg hr=>hs) ?assign ?body ?done ?stop
 case assign =>
  intro l pre x W K hI hK
  gi_wp2
  exact hK _ _ (KeepsFrom.refl _ _) (Below.refl _ _) hI rfl
 case body =>
  rintro l pre x a' W hl ⟨r,hr⟩ ⟨⟨v,hv,hrow,hnil⟩,hB⟩ rfl hlt
  have hc:W.cell? ⟨w.heap.size,0,none⟩=some v:=by simp[World.cell?,hv]
  have hfz:W.frozen? ⟨w.heap.size,0,none⟩=false:=by simp[World.frozen?,hv]
  have hBlt:w.heap.size<W.heap.size:=(Array.getElem?_eq_some_iff.1 hv).1
  have hlen:(pre.map (fun i=>Value.slice (some (g i)) c c)).length=pre.length:=List.length_map _
  have hrow2:(W.alloc (.cells #[(.slice (some (g x)) c c)] 22)).ownsRow w.heap.size 22 1 v (pre.map (fun i=>Value.slice (some (g i)) c c)).length (pre.map (fun i=>Value.slice (some (g i)) c c)):=hrow.alloc _
  have hv2:(W.alloc (.cells #[(.slice (some (g x)) c c)] 22)).heap[w.heap.size]? = some (.cells #[v] 44 (0,0)):=(Below.heap_alloc _ _ _ hBlt).trans hv
  have hap:=zB6 (U:=0) hrow2 hv2 (fun cs e=>by cases e)
  gi_wp2_with (gi_at_builtin;refine Hid.out ?_)
  show wpListIn _ _ _ _ _ _ _ _
  (refine wpListIn_append_own _ rfl _ _ 44 rfl w.heap.size 22 i0 (.slice none 0 0) 1 24 uBB hi hz0 hz1 hz2 rfl (by decide) v _ _ rfl hrow2 ⟨W.heap.size,0,none⟩ 1 1 [(.slice (some (g x)) c c)] rfl rfl (cell_one_new _ _ _) (fun u hu=>by rw[List.mem_singleton.1 hu];rfl) (by rw[hlen];exact Nat.le_trans (show pre.length+1≤1048577 by omega) (by decide)) (by rw[hlen];omega) (by simp;omega) ?_;intro v' w3 hown' hg3 hnil3)
  have hne:(some w.heap.size:Option Nat)≠v.ownBlock:=by
   rcases hap with e|e
   ·rw[e];simp
   ·exact fun e'=>e e'.symm
  have hv3:w3.heap[w.heap.size]? = some (.cells #[v] 44 (0,0)):=(hg3.block _ (by rw[World.size_alloc];omega) hne).trans hv2
  have hc3:w3.cell? ⟨w.heap.size,0,none⟩=some v:=by simp[World.cell?,hv3]
  have hf3:w3.frozen? ⟨w.heap.size,0,none⟩=false:=by simp[World.frozen?,hv3]
  have hk3:KeepsOthers W w3:=(KeepsOthers.alloc W _).trans (zMz hrow2 hg3)
  have hb3:Below w.heap.size W w3:=((Below.refl _ W).alloc (Nat.le_of_lt hBlt) _).grown hg3 (by rw[World.size_alloc];omega) (fun k e=>(hrow2.lt k e).1)
  obtain ⟨g',cap',cur',rfl,hbase',hgb',hr⟩:∃ g' cap' cur',v'=.slice (some ⟨g',0,none⟩) ((pre.map (fun i=>Value.slice (some (g i)) c c)).length+1) cap'∧w.heap.size≤g'∧w3.heap[g']? = some (.cells cur' 22 (0,0))∧True:=by
   rcases hown'.2 with ⟨_,h0⟩|⟨g',cap',cur',h1,h2,h3,_⟩
   ·exact absurd h0 (by omega)
   ·exact ⟨g',cap',cur',h1,h2,h3,trivial⟩
  clear hg3 hc hfz hv hv2 hrow hrow2
  gi_wp2
  have hgB:=zLp w3 w.heap.size (.slice (some ⟨g',0,none⟩) (pre.length+1) cap')
  have hBx:=zPn (.slice (some ⟨g',0,none⟩) (pre.length+1) cap') hv3
  rw[hlen] at hown'
  have hown4:=hown'.kept hgB (zB6 (U:=0) hown' hv3 (fun cs e=>by cases e))
  have hb4:Below w.heap.size W (w3.setCell ⟨w.heap.size,0,none⟩ (.slice (some ⟨g',0,none⟩) (pre.length+1) cap')):=hb3.grown hgB (Nat.le_trans hB.size hb3.size) (fun k e=>by cases e;exact Nat.le_refl _)
  refine ⟨(hk3.trans (KeepsOthers.setCell w3 _ _)).from _,hb4,⟨_,hBx,?_,?_⟩,hB.trans hb4⟩
  ·rw[List.map_append,List.length_append,hlen]
   exact hown4
  ·simp
 case done =>
  rintro D ys W hD rfl ⟨⟨v,hv,hrow,hnil⟩,hB⟩ hK
  have hc:W.cell? ⟨w.heap.size,0,none⟩=some v:=by simp[World.cell?,hv]
  gi_wp2
  refine ⟨by simp,.inl ⟨_,_,rfl,run_takeDeferred hK,?_⟩⟩
  have hgD:=grownBy_putObj' W D (.deferred none)
  rw[List.length_map,List.length_range] at hrow
  refine ⟨_,results_tmp rfl _ _ _,v,rfl,hB.grown hgD hB.size (fun k e=>by cases e;omega),hrow.kept hgD (zB6 (U:=0) hrow hK (fun cs e=>by cases e)),?_⟩
  rw[hnil]
  simp
 case stop =>
  rintro D c pre W hD hpre hF hK
  exact hF.elim
theorem zK9 (g:Nat→Addr) (c:Nat) (gf:Nat) (eg:∀ args w,(callFunc gf args).run Tryz.prog w=.ok (.enter gf args) w) (lb:Array Value) (N:Nat) (hN:N≤1048576) (w:World)
 (hseq:∀ n,SeqStopsK Fence.wide n Tryz.prog gf lb (fun i:Nat=>#[.slice (some (g i)) c c]) (Below w.heap.size) (fun xs=>xs=List.range N) (fun _=>True) N w) :
 Calls Tryz.prog 115 #[.func (.func gf) #[] lb] w (Ret fun e w'=>Below w.heap.size w w'∧w'.ownsRow w.heap.size 22 1 e N ((List.range N).map (fun i=>Value.slice (some (g i)) c c))∧(e=.slice none 0 0↔N=0)):=by
 go_enter Tryz.func115,Tryz.ntmps115
 go_wp2_with fail
 refine (zH2 g c gf eg lb N hN w hseq).mono ?_
 rintro e w1 ⟨v,rfl,hb,hr,hn⟩
 go_wp2_with fail
 go_ret
 exact ⟨_,rfl,hb,hr,hn⟩
theorem zIy (sb so c m n cap:Nat) (w:World) (hc:0<c) (hn:n=c*m) (hm:m≤1024) (hcap:n≤cap) (hbig:n≤1073741824) (k:Nat) (hk:k+1<w.heap.size) (h1:w.cell? ⟨k,0,none⟩=some (.slice (some ⟨sb,so,none⟩) n cap)) (h2:w.cell? ⟨k+1,0,none⟩=some (.int .i64 c)) :
 Calls Tryz.prog 115 #[.func (.func 161) #[] #[.pointer (some ⟨k,0,none⟩),.pointer (some ⟨k+1,0,none⟩)]] w (Ret fun e w'=>Below w.heap.size w w'∧w'.ownsRow w.heap.size 22 1 e m ((List.range m).map (chv sb so c))∧(e=.slice none 0 0↔m=0)):=
 zK9 (fun i=>⟨sb,so+c*i,none⟩) c _ (enters_of Tryz.func161 (by kernel_rfl) rfl) _ m (by omega) w (zPk sb so c m n cap k (k+1) w hc hn hcap hbig h1 h2 (by omega) hk)
theorem zIz (sb so n cap:Nat) (c:Nat) (hc:0<c) (w:World):Calls Tryz.prog 116 #[.slice (some ⟨sb,so,none⟩) n cap,.int .i64 c] w (Ret fun e w'=>e=.func (.func 161) #[] #[.pointer (some ⟨w.heap.size,0,none⟩),.pointer (some ⟨w.heap.size+1,0,none⟩)]∧w'=(w.alloc (.cells #[.slice (some ⟨sb,so,none⟩) n cap] 22)).alloc (.cells #[.int .i64 c] 3)):=by
 have h1:¬ (c:Int)<1:=by omega
 go_enter Tryz.func116,Tryz.ntmps116
 go_wp2
 go_ret
 exact ⟨_,rfl,rfl,rfl⟩
end
section
open Go.RowKit Go.Sort
variable {P:Nat} [NeZero P] {N:Nat}
structure RefP (p0 p1 p2 p3 c0 c1 c2 c3 P:Nat):Prop where
 hp0:p0<18446744073709551616
 hp1:p1<18446744073709551616
 hp2:p2<18446744073709551616
 hp3:p3<18446744073709551616
 hc0:c0<18446744073709551616
 hc1:c1<18446744073709551616
 hc2:c2<18446744073709551616
 hc3:c3<18446744073709551616
 eP:P=val p0 p1 p2 p3
 hP:P+val c0 c1 c2 c3=top
 hP2:top<2*P
theorem zRA:RefP 18446744069414583343 18446744073709551615 18446744073709551615 18446744073709551615 4294968273 0 0 0 Go.Proofs.YtglhhepedoffeaaGreat.p0:=
 ⟨by decide,by decide,by decide,by decide,by decide,by decide,by decide,by decide,by decide +kernel,by decide +kernel,by decide +kernel⟩
theorem zRz:RefP 13822214165235122497 13451932020343611451 18446744073709551614 18446744073709551615 4624529908474429119 4994812053365940164 1 0 Go.Proofs.YtglhhepedoffeaaGreat.p1:=
 ⟨by decide,by decide,by decide,by decide,by decide,by decide,by decide,by decide,by decide +kernel,by decide +kernel,by decide +kernel⟩
theorem zEs (x y:Value) (m n:Nat) (hx:Four x m) (hy:Four y n) (w:World) :
 Calls Tryz.prog 154 #[x,y] w (Ret fun e w'=>Below w.heap.size w w'∧∃ (v:Value) (s k:Nat),e=.tuple #[v,.int .u64 k]∧Four v s∧k≤1∧s+n=m+top*k):=by
 obtain ⟨a,b,c,d,rfl,ha,hb,hc,hd,em⟩:=hx
 obtain ⟨p,q,r,s,rfl,hp,hq,hr,hs,en⟩:=hy
 obtain ⟨s0,k0,a0,hs0,hk0,e0⟩:=zIh a p ha hp
 obtain ⟨s1,k1,a1,hs1,hk1,e1⟩:=zDw b q k0 hb hq hk0
 obtain ⟨s2,k2,a2,hs2,hk2,e2⟩:=zDw c r k1 hc hr hk1
 obtain ⟨s3,k3,a3,hs3,hk3,e3⟩:=zDw d s k2 hd hs hk2
 have hv:val s0 s1 s2 s3+n=m+top*k3:=by rw[em,en];unfold val top;omega
 clear e0 e1 e2 e3 em en
 go_enter Tryz.func154,Tryz.ntmps154
 go_wp2
 refine wp_loop_rounds 5 ?_
 rw[rounds_succ];go_wp2;go_region
 go_wp2;rw[rounds_succ];go_wp2;go_region
 go_wp2;rw[rounds_succ];go_wp2;go_region
 go_wp2;rw[rounds_succ];go_wp2;go_region
 go_wp2;rw[rounds_succ];go_wp2
 refine bodyPost_ret (v:=?v) ?hr rfl ?hR
 case hr=>simp[results,Tryz.results154,go_sem];rfl
 exact ⟨_,rfl,(zB0 _ _ _ _ _).drew.drew.drew.drew,_,_,k3,rfl,Four.mk hs0 hs1 hs2 hs3 rfl,hk3,hv⟩
def zD3 (v:Value) (n:Nat):Prop:=∃ a b c d a' b' c' d':Nat,v=.agg #[.int .u64 a,.int .u64 b,.int .u64 c,.int .u64 d,.int .u64 a',.int .u64 b',.int .u64 c',.int .u64 d'] ∧
 a<18446744073709551616∧b<18446744073709551616∧c<18446744073709551616∧d<18446744073709551616∧a'<18446744073709551616∧b'<18446744073709551616∧c'<18446744073709551616∧d'<18446744073709551616 ∧
 n=val a b c d+top*val a' b' c' d'
theorem zJw {m n a b c d s u k l:Nat} (em:m=a+top*b) (en:n=c+top*d) (h1:s+top*k=a+c) (h2:u+top*l=b+d+k) (hlt:m+n<top*top):m+n=s+top*u:=by
 have h3:top*u+top*top*l=top*b+top*d+top*k:=by rw[Nat.mul_assoc,← Nat.mul_add,h2,Nat.mul_add,Nat.mul_add]
 have h4:m+n=s+top*u+top*top*l:=by omega
 have h5:l=0:=by
  rcases Nat.eq_zero_or_pos l with h|h
  ·exact h
  ·have:=Nat.le_mul_of_pos_right (top*top) h
   omega
 rw[h4,h5,Nat.mul_zero,Nat.add_zero]
theorem zEp (x y:Value) (m n:Nat) (hx:zD3 x m) (hy:zD3 y n) (hlt:m+n<top*top) (w:World) :
 Calls Tryz.prog 109 #[x,y] w (Ret fun e w'=>Below w.heap.size w w'∧zD3 e (m+n)):=by
 obtain ⟨a,b,c,d,aa,bb,cc,dd,rfl,ha,hb,hc,hd,haa,hbb,hcc,hdd,em⟩:=hx
 obtain ⟨p,q,r,s,pp,qq,rr,ss,rfl,hp,hq,hr,hs,hpp,hqq,hrr,hss,en⟩:=hy
 obtain ⟨s0,k0,a0,hs0,hk0,e0⟩:=zFD a p ha hp
 obtain ⟨s1,k1,a1,hs1,hk1,e1⟩:=zE1 b q k0 hb hq hk0
 obtain ⟨s2,k2,a2,hs2,hk2,e2⟩:=zE1 c r k1 hc hr hk1
 obtain ⟨s3,k3,a3,hs3,hk3,e3⟩:=zE1 d s k2 hd hs hk2
 obtain ⟨s4,k4,a4,hs4,hk4,e4⟩:=zE1 aa pp k3 haa hpp hk3
 obtain ⟨s5,k5,a5,hs5,hk5,e5⟩:=zE1 bb qq k4 hbb hqq hk4
 obtain ⟨s6,k6,a6,hs6,hk6,e6⟩:=zE1 cc rr k5 hcc hrr hk5
 obtain ⟨s7,k7,a7,hs7,hk7,e7⟩:=zE1 dd ss k6 hdd hss hk6
 have v1:val s0 s1 s2 s3+top*k3=val a b c d+val p q r s:=by clear em en hlt e4 e5 e6 e7;unfold val top;omega
 have v2:val s4 s5 s6 s7+top*k7=val aa bb cc dd+val pp qq rr ss+k3:=by clear em en hlt e0 e1 e2 e3;unfold val top;omega
 have hv:m+n=val s0 s1 s2 s3+top*val s4 s5 s6 s7:=zJw em en v1 v2 hlt
 clear e0 e1 e2 e3 e4 e5 e6 e7 em en hlt
 go_enter Tryz.func109,Tryz.ntmps109
 go_wp2
 refine wp_loop_rounds 9 ?_
 rw[rounds_succ];go_wp2;go_region
 go_wp2;rw[rounds_succ];go_wp2;go_region
 go_wp2;rw[rounds_succ];go_wp2;go_region
 go_wp2;rw[rounds_succ];go_wp2;go_region
 go_wp2;rw[rounds_succ];go_wp2;go_region
 go_wp2;rw[rounds_succ];go_wp2;go_region
 go_wp2;rw[rounds_succ];go_wp2;go_region
 go_wp2;rw[rounds_succ];go_wp2;go_region
 go_wp2;rw[rounds_succ];go_wp2
 refine bodyPost_ret (v:=?v) ?hr rfl ?hR
 case hr=>simp[results,Tryz.results109,go_sem];rfl
 exact ⟨_,rfl,(below3 _ _ _ _).drew.drew.drew.drew.drew.drew.drew.drew,s0,s1,s2,s3,s4,s5,s6,s7,rfl,hs0,hs1,hs2,hs3,hs4,hs5,hs6,hs7,hv⟩
theorem zKV {a b c d n r0 r1 r2 r3 s0 s1 s2 s3 t0 t1 t2 t3 u0 u1 u2 u3 h0 h1 h2 h3:Nat}
 (e0:r0+18446744073709551616*val r1 r2 r3 h0=a*n+val 0 0 0 0)
 (e1:s0+18446744073709551616*val s1 s2 s3 h1=b*n+val r1 r2 r3 h0)
 (e2:t0+18446744073709551616*val t1 t2 t3 h2=c*n+val s1 s2 s3 h1)
 (e3:u0+18446744073709551616*val u1 u2 u3 h3=d*n+val t1 t2 t3 h2) :
 val a b c d*n=val r0 s0 t0 u0+top*val u1 u2 u3 h3:=by
 have hm:val a b c d*n=val (a*n) (b*n) (c*n) (d*n):=by
  rw[Nat.mul_comm,zHC,Nat.mul_comm n a,Nat.mul_comm n b,Nat.mul_comm n c,Nat.mul_comm n d]
 rw[hm]
 generalize a*n=x0 at *
 generalize b*n=x1 at *
 generalize c*n=x2 at *
 generalize d*n=x3 at *
 generalize val r1 r2 r3 h0=y0 at *
 generalize val s1 s2 s3 h1=y1 at *
 generalize val t1 t2 t3 h2=y2 at *
 generalize val u1 u2 u3 h3=y3 at *
 unfold val at *
 unfold top
 omega
theorem zCm (x y:Value) (m n:Nat) (hx:Four x m) (hy:Four y n) (w:World) :
 Calls Tryz.prog 110 #[x,y] w (Ret fun e w'=>Below w.heap.size w w'∧zD3 e (m*n)):=by
 obtain ⟨a,b,c,d,rfl,ha,hb,hc,hd,em⟩:=hx
 obtain ⟨p,q,r,s,rfl,hp,hq,hr,hs,en⟩:=hy
 go_enter Tryz.func110,Tryz.ntmps110
 go_wp2
 refine wp_loop_rounds 5 ?_
 have X:=(((At4.made w 60 a b c d rfl).alloc (.cells #[.int .u64 p,.int .u64 q,.int .u64 r,.int .u64 s] 60)).alloc (.cells #[.int .u64 0,.int .u64 0,.int .u64 0,.int .u64 0,.int .u64 0,.int .u64 0,.int .u64 0,.int .u64 0] 150)).alloc (.cells #[.int .u64 0,.int .u64 0,.int .u64 0,.int .u64 0,.int .u64 0,.int .u64 0,.int .u64 0,.int .u64 0] 150)
 have Y:=((At4.made (w.alloc (.cells #[.int .u64 a,.int .u64 b,.int .u64 c,.int .u64 d] 60)) 60 p q r s (World.size_alloc _ _)).alloc (.cells #[.int .u64 0,.int .u64 0,.int .u64 0,.int .u64 0,.int .u64 0,.int .u64 0,.int .u64 0,.int .u64 0] 150)).alloc (.cells #[.int .u64 0,.int .u64 0,.int .u64 0,.int .u64 0,.int .u64 0,.int .u64 0,.int .u64 0,.int .u64 0] 150)
 have R:=(At8.made ((w.alloc (.cells #[.int .u64 a,.int .u64 b,.int .u64 c,.int .u64 d] 60)).alloc (.cells #[.int .u64 p,.int .u64 q,.int .u64 r,.int .u64 s] 60)) 150 0 0 0 0 0 0 0 0 (k:=w.heap.size+1+1) (by simp)).alloc (.cells #[.int .u64 0,.int .u64 0,.int .u64 0,.int .u64 0,.int .u64 0,.int .u64 0,.int .u64 0,.int .u64 0] 150)
 have O:=At8.made (((w.alloc (.cells #[.int .u64 a,.int .u64 b,.int .u64 c,.int .u64 d] 60)).alloc (.cells #[.int .u64 p,.int .u64 q,.int .u64 r,.int .u64 s] 60)).alloc (.cells #[.int .u64 0,.int .u64 0,.int .u64 0,.int .u64 0,.int .u64 0,.int .u64 0,.int .u64 0,.int .u64 0] 150)) 150 0 0 0 0 0 0 0 0 (k:=w.heap.size+1+1+1) (by simp)
 have BL:Hid (Below w.heap.size w _):=zB0 w (.cells #[.int .u64 a,.int .u64 b,.int .u64 c,.int .u64 d] 60) (.cells #[.int .u64 p,.int .u64 q,.int .u64 r,.int .u64 s] 60) (.cells #[.int .u64 0,.int .u64 0,.int .u64 0,.int .u64 0,.int .u64 0,.int .u64 0,.int .u64 0,.int .u64 0] 150) (.cells #[.int .u64 0,.int .u64 0,.int .u64 0,.int .u64 0,.int .u64 0,.int .u64 0,.int .u64 0,.int .u64 0] 150)
 simp only[Int.natCast_zero] at R O
 generalize World.alloc _ _=W0 at X Y R O BL ⊢
 generalize h3:w.heap.size+1+1+1=k3 at O ⊢
 generalize h2:w.heap.size+1+1=k2 at R ⊢
 generalize h1:w.heap.size+1=k1 at Y ⊢
 have Q3:Hid (w.heap.size≤k3):=by unfold Hid;omega
 have Q2:Hid (w.heap.size≤k2):=by unfold Hid;omega
 generalize h0:w.heap.size=k0 at X BL Q2 Q3 ⊢
 have n03:k0≠k3:=by omega
 have n13:k1≠k3:=by omega
 have n23:k2≠k3:=by omega
 have H0:Hid (w.heap.size=k0):=h0
 clear h0 h1 h2 h3
 obtain ⟨xc0,xc1,xc2,xc3,xf⟩:=id X
 obtain ⟨yc0,yc1,yc2,yc3,yf⟩:=id Y
 obtain ⟨oc0,oc1,oc2,oc3,oc4,oc5,oc6,oc7,of⟩:=id O
 simp only[Int.natCast_zero] at oc0 oc1 oc2 oc3 oc4 oc5 oc6 oc7
 rw[rounds_succ];go_wp2
 refine wp_loop_rounds 5 ?_
 obtain ⟨h00,l00,s00,k00,o00,j00,g00,y00,m00,b00,d00,v00,z00,ho00,hy00,e00⟩:=zA2 a p 0 0 ha hp (by decide) (by decide)
 simp only[Int.natCast_zero] at b00
 simp only[Int.natCast_zero] at d00
 rw[rounds_succ];go_wp2
 go_quiet ((go_at_call 158;exact Calls.quiet_of_same (m00 _)))
 revert nq;intro nq00
 go_wp2_with (first|simp only[b00]|simp only[d00])
 obtain ⟨h01,l01,s01,k01,o01,j01,g01,y01,m01,b01,d01,v01,z01,ho01,hy01,e01⟩:=zA2 a q 0 y00 ha hq (by decide) hy00
 simp only[Int.natCast_zero] at d01
 rw[rounds_succ];go_wp2
 go_quiet ((go_at_call 158;exact Calls.quiet_of_same (m01 _)))
 revert nq;intro nq01
 go_wp2_with (first|simp only[b01]|simp only[d01])
 obtain ⟨h02,l02,s02,k02,o02,j02,g02,y02,m02,b02,d02,v02,z02,ho02,hy02,e02⟩:=zA2 a r 0 y01 ha hr (by decide) hy01
 simp only[Int.natCast_zero] at d02
 rw[rounds_succ];go_wp2
 go_quiet ((go_at_call 158;exact Calls.quiet_of_same (m02 _)))
 revert nq;intro nq02
 go_wp2_with (first|simp only[b02]|simp only[d02])
 obtain ⟨h03,l03,s03,k03,o03,j03,g03,y03,m03,b03,d03,v03,z03,ho03,hy03,e03⟩:=zA2 a s 0 y02 ha hs (by decide) hy02
 simp only[Int.natCast_zero] at d03
 rw[rounds_succ];go_wp2
 go_quiet ((go_at_call 158;exact Calls.quiet_of_same (m03 _)))
 revert nq;intro nq03
 go_wp2_with (first|simp only[b03]|simp only[d03])
 rw[rounds_succ];go_wp2
 have R0:=zEq (n:=val 0 0 0 0) (p:=0) (q:=0) (r:=0) (s:=0) (x:=a) (l0:=o00) (l1:=o01) (l2:=o02) (l3:=o03) en rfl e00 e01 e02 e03
 have HR0:Hid _:=R0
 clear R0
 clear e00 e01 e02 e03 m00 b00 d00 v00 z00 m01 b01 d01 v01 z01 m02 b02 d02 v02 z02 m03 b03 d03 v03 z03
 clear xc0 xc1 xc2 xc3 xf yc0 yc1 yc2 yc3 yf oc0 oc1 oc2 oc3 oc4 oc5 oc6 oc7 of
 have X0:=(((((((((X).drewN nq00).other (o:=0) n03.symm (.int .u64 o00)).drewN nq01).other (o:=1) n03.symm (.int .u64 o01)).drewN nq02).other (o:=2) n03.symm (.int .u64 o02)).drewN nq03).other (o:=3) n03.symm (.int .u64 o03)).other (o:=4) n03.symm (.int .u64 y03)
 have Y0:=(((((((((Y).drewN nq00).other (o:=0) n13.symm (.int .u64 o00)).drewN nq01).other (o:=1) n13.symm (.int .u64 o01)).drewN nq02).other (o:=2) n13.symm (.int .u64 o02)).drewN nq03).other (o:=3) n13.symm (.int .u64 o03)).other (o:=4) n13.symm (.int .u64 y03)
 have RR0:=(((((((((R).drewN nq00).other (o:=0) n23.symm (.int .u64 o00)).drewN nq01).other (o:=1) n23.symm (.int .u64 o01)).drewN nq02).other (o:=2) n23.symm (.int .u64 o02)).drewN nq03).other (o:=3) n23.symm (.int .u64 o03)).other (o:=4) n23.symm (.int .u64 y03)
 have O0:=(((((((((O).drewN nq00).set0 o00).drewN nq01).set1 o01).drewN nq02).set2 o02).drewN nq03).set3 o03).set4 y03
 have BL0:Hid (Below k0 w _):=((zAm ((zAm ((zAm ((zAm (BL.out) nq00).setCell (p:=⟨k3,0,none⟩) Q3.out (.int .u64 o00)) nq01).setCell (p:=⟨k3,1,none⟩) Q3.out (.int .u64 o01)) nq02).setCell (p:=⟨k3,2,none⟩) Q3.out (.int .u64 o02)) nq03).setCell (p:=⟨k3,3,none⟩) Q3.out (.int .u64 o03)).setCell (p:=⟨k3,4,none⟩) Q3.out (.int .u64 y03)
 generalize World.setCell _ _ _=W1 at X0 Y0 RR0 O0 BL0 ⊢
 clear X Y R O BL
 have X:=X0
 have Y:=Y0
 have R:=RR0
 have O:=O0
 have BL:=BL0
 clear X0 Y0 RR0 O0 BL0
 obtain ⟨xc0,xc1,xc2,xc3,xf⟩:=id X
 obtain ⟨yc0,yc1,yc2,yc3,yf⟩:=id Y
 obtain ⟨oc0,oc1,oc2,oc3,oc4,oc5,oc6,oc7,of⟩:=id O
 simp only[Int.natCast_zero] at oc5 oc6 oc7
 rw[rounds_succ];go_wp2
 refine wp_loop_rounds 5 ?_
 obtain ⟨h10,l10,s10,k10,o10,j10,g10,y10,m10,b10,d10,v10,z10,ho10,hy10,e10⟩:=zA2 b p o01 0 hb hp ho01 (by decide)
 simp only[Int.natCast_zero] at b10
 rw[rounds_succ];go_wp2
 go_quiet ((go_at_call 158;exact Calls.quiet_of_same (m10 _)))
 revert nq;intro nq10
 go_wp2_with (first|simp only[b10]|simp only[d10])
 obtain ⟨h11,l11,s11,k11,o11,j11,g11,y11,m11,b11,d11,v11,z11,ho11,hy11,e11⟩:=zA2 b q o02 y10 hb hq ho02 hy10
 rw[rounds_succ];go_wp2
 go_quiet ((go_at_call 158;exact Calls.quiet_of_same (m11 _)))
 revert nq;intro nq11
 go_wp2_with (first|simp only[b11]|simp only[d11])
 obtain ⟨h12,l12,s12,k12,o12,j12,g12,y12,m12,b12,d12,v12,z12,ho12,hy12,e12⟩:=zA2 b r o03 y11 hb hr ho03 hy11
 rw[rounds_succ];go_wp2
 go_quiet ((go_at_call 158;exact Calls.quiet_of_same (m12 _)))
 revert nq;intro nq12
 go_wp2_with (first|simp only[b12]|simp only[d12])
 obtain ⟨h13,l13,s13,k13,o13,j13,g13,y13,m13,b13,d13,v13,z13,ho13,hy13,e13⟩:=zA2 b s y03 y12 hb hs hy03 hy12
 rw[rounds_succ];go_wp2
 go_quiet ((go_at_call 158;exact Calls.quiet_of_same (m13 _)))
 revert nq;intro nq13
 go_wp2_with (first|simp only[b13]|simp only[d13])
 rw[rounds_succ];go_wp2
 have R1:=zEq (n:=val o01 o02 o03 y03) (p:=o01) (q:=o02) (r:=o03) (s:=y03) (x:=b) (l0:=o10) (l1:=o11) (l2:=o12) (l3:=o13) en rfl e10 e11 e12 e13
 have HR1:Hid _:=R1
 clear R1
 clear e10 e11 e12 e13 m10 b10 d10 v10 z10 m11 b11 d11 v11 z11 m12 b12 d12 v12 z12 m13 b13 d13 v13 z13
 clear xc0 xc1 xc2 xc3 xf yc0 yc1 yc2 yc3 yf oc0 oc1 oc2 oc3 oc4 oc5 oc6 oc7 of
 have X1:=(((((((((X).drewN nq10).other (o:=1) n03.symm (.int .u64 o10)).drewN nq11).other (o:=2) n03.symm (.int .u64 o11)).drewN nq12).other (o:=3) n03.symm (.int .u64 o12)).drewN nq13).other (o:=4) n03.symm (.int .u64 o13)).other (o:=5) n03.symm (.int .u64 y13)
 have Y1:=(((((((((Y).drewN nq10).other (o:=1) n13.symm (.int .u64 o10)).drewN nq11).other (o:=2) n13.symm (.int .u64 o11)).drewN nq12).other (o:=3) n13.symm (.int .u64 o12)).drewN nq13).other (o:=4) n13.symm (.int .u64 o13)).other (o:=5) n13.symm (.int .u64 y13)
 have RR1:=(((((((((R).drewN nq10).other (o:=1) n23.symm (.int .u64 o10)).drewN nq11).other (o:=2) n23.symm (.int .u64 o11)).drewN nq12).other (o:=3) n23.symm (.int .u64 o12)).drewN nq13).other (o:=4) n23.symm (.int .u64 o13)).other (o:=5) n23.symm (.int .u64 y13)
 have O1:=(((((((((O).drewN nq10).set1 o10).drewN nq11).set2 o11).drewN nq12).set3 o12).drewN nq13).set4 o13).set5 y13
 have BL1:Hid (Below k0 w _):=((zAm ((zAm ((zAm ((zAm (BL.out) nq10).setCell (p:=⟨k3,1,none⟩) Q3.out (.int .u64 o10)) nq11).setCell (p:=⟨k3,2,none⟩) Q3.out (.int .u64 o11)) nq12).setCell (p:=⟨k3,3,none⟩) Q3.out (.int .u64 o12)) nq13).setCell (p:=⟨k3,4,none⟩) Q3.out (.int .u64 o13)).setCell (p:=⟨k3,5,none⟩) Q3.out (.int .u64 y13)
 generalize World.setCell _ _ _=W2 at X1 Y1 RR1 O1 BL1 ⊢
 clear X Y R O BL
 have X:=X1
 have Y:=Y1
 have R:=RR1
 have O:=O1
 have BL:=BL1
 clear X1 Y1 RR1 O1 BL1
 obtain ⟨xc0,xc1,xc2,xc3,xf⟩:=id X
 obtain ⟨yc0,yc1,yc2,yc3,yf⟩:=id Y
 obtain ⟨oc0,oc1,oc2,oc3,oc4,oc5,oc6,oc7,of⟩:=id O
 simp only[Int.natCast_zero] at oc6 oc7
 rw[rounds_succ];go_wp2
 refine wp_loop_rounds 5 ?_
 obtain ⟨h20,l20,s20,k20,o20,j20,g20,y20,m20,b20,d20,v20,z20,ho20,hy20,e20⟩:=zA2 c p o11 0 hc hp ho11 (by decide)
 simp only[Int.natCast_zero] at b20
 rw[rounds_succ];go_wp2
 go_quiet ((go_at_call 158;exact Calls.quiet_of_same (m20 _)))
 revert nq;intro nq20
 go_wp2_with (first|simp only[b20]|simp only[d20])
 obtain ⟨h21,l21,s21,k21,o21,j21,g21,y21,m21,b21,d21,v21,z21,ho21,hy21,e21⟩:=zA2 c q o12 y20 hc hq ho12 hy20
 rw[rounds_succ];go_wp2
 go_quiet ((go_at_call 158;exact Calls.quiet_of_same (m21 _)))
 revert nq;intro nq21
 go_wp2_with (first|simp only[b21]|simp only[d21])
 obtain ⟨h22,l22,s22,k22,o22,j22,g22,y22,m22,b22,d22,v22,z22,ho22,hy22,e22⟩:=zA2 c r o13 y21 hc hr ho13 hy21
 rw[rounds_succ];go_wp2
 go_quiet ((go_at_call 158;exact Calls.quiet_of_same (m22 _)))
 revert nq;intro nq22
 go_wp2_with (first|simp only[b22]|simp only[d22])
 obtain ⟨h23,l23,s23,k23,o23,j23,g23,y23,m23,b23,d23,v23,z23,ho23,hy23,e23⟩:=zA2 c s y13 y22 hc hs hy13 hy22
 rw[rounds_succ];go_wp2
 go_quiet ((go_at_call 158;exact Calls.quiet_of_same (m23 _)))
 revert nq;intro nq23
 go_wp2_with (first|simp only[b23]|simp only[d23])
 rw[rounds_succ];go_wp2
 have R2:=zEq (n:=val o11 o12 o13 y13) (p:=o11) (q:=o12) (r:=o13) (s:=y13) (x:=c) (l0:=o20) (l1:=o21) (l2:=o22) (l3:=o23) en rfl e20 e21 e22 e23
 have HR2:Hid _:=R2
 clear R2
 clear e20 e21 e22 e23 m20 b20 d20 v20 z20 m21 b21 d21 v21 z21 m22 b22 d22 v22 z22 m23 b23 d23 v23 z23
 clear xc0 xc1 xc2 xc3 xf yc0 yc1 yc2 yc3 yf oc0 oc1 oc2 oc3 oc4 oc5 oc6 oc7 of
 have X2:=(((((((((X).drewN nq20).other (o:=2) n03.symm (.int .u64 o20)).drewN nq21).other (o:=3) n03.symm (.int .u64 o21)).drewN nq22).other (o:=4) n03.symm (.int .u64 o22)).drewN nq23).other (o:=5) n03.symm (.int .u64 o23)).other (o:=6) n03.symm (.int .u64 y23)
 have Y2:=(((((((((Y).drewN nq20).other (o:=2) n13.symm (.int .u64 o20)).drewN nq21).other (o:=3) n13.symm (.int .u64 o21)).drewN nq22).other (o:=4) n13.symm (.int .u64 o22)).drewN nq23).other (o:=5) n13.symm (.int .u64 o23)).other (o:=6) n13.symm (.int .u64 y23)
 have RR2:=(((((((((R).drewN nq20).other (o:=2) n23.symm (.int .u64 o20)).drewN nq21).other (o:=3) n23.symm (.int .u64 o21)).drewN nq22).other (o:=4) n23.symm (.int .u64 o22)).drewN nq23).other (o:=5) n23.symm (.int .u64 o23)).other (o:=6) n23.symm (.int .u64 y23)
 have O2:=(((((((((O).drewN nq20).set2 o20).drewN nq21).set3 o21).drewN nq22).set4 o22).drewN nq23).set5 o23).set6 y23
 have BL2:Hid (Below k0 w _):=((zAm ((zAm ((zAm ((zAm (BL.out) nq20).setCell (p:=⟨k3,2,none⟩) Q3.out (.int .u64 o20)) nq21).setCell (p:=⟨k3,3,none⟩) Q3.out (.int .u64 o21)) nq22).setCell (p:=⟨k3,4,none⟩) Q3.out (.int .u64 o22)) nq23).setCell (p:=⟨k3,5,none⟩) Q3.out (.int .u64 o23)).setCell (p:=⟨k3,6,none⟩) Q3.out (.int .u64 y23)
 generalize World.setCell _ _ _=W3 at X2 Y2 RR2 O2 BL2 ⊢
 clear X Y R O BL
 have X:=X2
 have Y:=Y2
 have R:=RR2
 have O:=O2
 have BL:=BL2
 clear X2 Y2 RR2 O2 BL2
 obtain ⟨xc0,xc1,xc2,xc3,xf⟩:=id X
 obtain ⟨yc0,yc1,yc2,yc3,yf⟩:=id Y
 obtain ⟨oc0,oc1,oc2,oc3,oc4,oc5,oc6,oc7,of⟩:=id O
 simp only[Int.natCast_zero] at oc7
 rw[rounds_succ];go_wp2
 refine wp_loop_rounds 5 ?_
 obtain ⟨h30,l30,s30,k30,o30,j30,g30,y30,m30,b30,d30,v30,z30,ho30,hy30,e30⟩:=zA2 d p o21 0 hd hp ho21 (by decide)
 simp only[Int.natCast_zero] at b30
 rw[rounds_succ];go_wp2
 go_quiet ((go_at_call 158;exact Calls.quiet_of_same (m30 _)))
 revert nq;intro nq30
 go_wp2_with (first|simp only[b30]|simp only[d30])
 obtain ⟨h31,l31,s31,k31,o31,j31,g31,y31,m31,b31,d31,v31,z31,ho31,hy31,e31⟩:=zA2 d q o22 y30 hd hq ho22 hy30
 rw[rounds_succ];go_wp2
 go_quiet ((go_at_call 158;exact Calls.quiet_of_same (m31 _)))
 revert nq;intro nq31
 go_wp2_with (first|simp only[b31]|simp only[d31])
 obtain ⟨h32,l32,s32,k32,o32,j32,g32,y32,m32,b32,d32,v32,z32,ho32,hy32,e32⟩:=zA2 d r o23 y31 hd hr ho23 hy31
 rw[rounds_succ];go_wp2
 go_quiet ((go_at_call 158;exact Calls.quiet_of_same (m32 _)))
 revert nq;intro nq32
 go_wp2_with (first|simp only[b32]|simp only[d32])
 obtain ⟨h33,l33,s33,k33,o33,j33,g33,y33,m33,b33,d33,v33,z33,ho33,hy33,e33⟩:=zA2 d s y23 y32 hd hs hy23 hy32
 rw[rounds_succ];go_wp2
 go_quiet ((go_at_call 158;exact Calls.quiet_of_same (m33 _)))
 revert nq;intro nq33
 go_wp2_with (first|simp only[b33]|simp only[d33])
 rw[rounds_succ];go_wp2
 have R3:=zEq (n:=val o21 o22 o23 y23) (p:=o21) (q:=o22) (r:=o23) (s:=y23) (x:=d) (l0:=o30) (l1:=o31) (l2:=o32) (l3:=o33) en rfl e30 e31 e32 e33
 have HR3:Hid _:=R3
 clear R3
 clear e30 e31 e32 e33 m30 b30 d30 v30 z30 m31 b31 d31 v31 z31 m32 b32 d32 v32 z32 m33 b33 d33 v33 z33
 clear xc0 xc1 xc2 xc3 xf yc0 yc1 yc2 yc3 yf oc0 oc1 oc2 oc3 oc4 oc5 oc6 oc7 of
 have X3:=(((((((((X).drewN nq30).other (o:=3) n03.symm (.int .u64 o30)).drewN nq31).other (o:=4) n03.symm (.int .u64 o31)).drewN nq32).other (o:=5) n03.symm (.int .u64 o32)).drewN nq33).other (o:=6) n03.symm (.int .u64 o33)).other (o:=7) n03.symm (.int .u64 y33)
 have Y3:=(((((((((Y).drewN nq30).other (o:=3) n13.symm (.int .u64 o30)).drewN nq31).other (o:=4) n13.symm (.int .u64 o31)).drewN nq32).other (o:=5) n13.symm (.int .u64 o32)).drewN nq33).other (o:=6) n13.symm (.int .u64 o33)).other (o:=7) n13.symm (.int .u64 y33)
 have RR3:=(((((((((R).drewN nq30).other (o:=3) n23.symm (.int .u64 o30)).drewN nq31).other (o:=4) n23.symm (.int .u64 o31)).drewN nq32).other (o:=5) n23.symm (.int .u64 o32)).drewN nq33).other (o:=6) n23.symm (.int .u64 o33)).other (o:=7) n23.symm (.int .u64 y33)
 have O3:=(((((((((O).drewN nq30).set3 o30).drewN nq31).set4 o31).drewN nq32).set5 o32).drewN nq33).set6 o33).set7 y33
 have BL3:Hid (Below k0 w _):=((zAm ((zAm ((zAm ((zAm (BL.out) nq30).setCell (p:=⟨k3,3,none⟩) Q3.out (.int .u64 o30)) nq31).setCell (p:=⟨k3,4,none⟩) Q3.out (.int .u64 o31)) nq32).setCell (p:=⟨k3,5,none⟩) Q3.out (.int .u64 o32)) nq33).setCell (p:=⟨k3,6,none⟩) Q3.out (.int .u64 o33)).setCell (p:=⟨k3,7,none⟩) Q3.out (.int .u64 y33)
 generalize World.setCell _ _ _=W4 at X3 Y3 RR3 O3 BL3 ⊢
 clear X Y R O BL
 have X:=X3
 have Y:=Y3
 have R:=RR3
 have O:=O3
 have BL:=BL3
 clear X3 Y3 RR3 O3 BL3
 obtain ⟨oc0,oc1,oc2,oc3,oc4,oc5,oc6,oc7,of⟩:=id O
 obtain ⟨rc0,rc1,rc2,rc3,rc4,rc5,rc6,rc7,rf⟩:=id R
 have z3:=O.lt
 have z2:=R.lt
 rw[rounds_succ];go_wp2
 have RF:=R.self8 o00 o10 o20 o30 o31 o32 o33 y33
 unfold zJR at RF
 refine bodyPost_ret (v:=?v) ?hr rfl ?hR
 case hr=>simp[results,Tryz.results110,go_sem,RF.c0,RF.c1,RF.c2,RF.c3,RF.c4,RF.c5,RF.c6,RF.c7];rfl
 refine ⟨_,rfl,?_,o00,o10,o20,o30,o31,o32,o33,y33,rfl,ho00,ho10,ho20,ho30,ho31,ho32,ho33,hy33,?_⟩
 ·rw[H0.out];exact zEZ BL.out Q2.out _ _ _ _ _ _ _ _
 ·rw[em];exact zKV HR0.out HR1.out HR2.out HR3.out
end
section
open Go.RowKit Go.Sort
structure LessI (w wr:World) (p0 p1 p2 p3 c0 c1 c2 c3 a b c d e f g h:Nat):Prop where
 bl:Below w.heap.size w wr
 fr:At8 wr w.heap.size p0 p1 p2 p3 c0 c1 c2 c3
 wi:At8 wr (w.heap.size+1) a b c d e f g h
 re:At4 wr (w.heap.size+1+1) 0 0 0 0
 ha:a<18446744073709551616
 hb:b<18446744073709551616
 hc:c<18446744073709551616
 hd:d<18446744073709551616
 he:e<18446744073709551616
 hf:f<18446744073709551616
 hg:g<18446744073709551616
 hh:h<18446744073709551616
theorem zJf {x y:Nat} (hx:x<top) (hy:y<top):x*y+top≤top*top:=by
 have h1:x*y≤(top-1)*(top-1):=Nat.mul_le_mul (by omega) (by omega)
 have h2:(top-1)*(top-1)+top≤top*top:=by unfold top;decide
 omega
section
variable {w w0:World} {k a b c d e f g h j B:Nat}
theorem zH1 (H:Below B w0 w) (hj:B≤j) (x0 x1 x2 x3 x4 x5 x6 x7:Value):Below B w0 ((((((((w.setCell ⟨j,0,none⟩ x0).setCell ⟨j,1,none⟩ x1).setCell ⟨j,2,none⟩ x2).setCell ⟨j,3,none⟩ x3).setCell ⟨j,4,none⟩ x4).setCell ⟨j,5,none⟩ x5).setCell ⟨j,6,none⟩ x6).setCell ⟨j,7,none⟩ x7):=zEZ H hj x0 x1 x2 x3 x4 x5 x6 x7
theorem At8.other8x (H:At8 w k a b c d e f g h) (hj:j≠k) (x0 x1 x2 x3 x4 x5 x6 x7:Value):At8 ((((((((w.setCell ⟨j,0,none⟩ x0).setCell ⟨j,1,none⟩ x1).setCell ⟨j,2,none⟩ x2).setCell ⟨j,3,none⟩ x3).setCell ⟨j,4,none⟩ x4).setCell ⟨j,5,none⟩ x5).setCell ⟨j,6,none⟩ x6).setCell ⟨j,7,none⟩ x7) k a b c d e f g h:=H.other8 hj x0 x1 x2 x3 x4 x5 x6 x7
theorem At4.other8x (H:At4 w k a b c d) (hj:j≠k) (x0 x1 x2 x3 x4 x5 x6 x7:Value):At4 ((((((((w.setCell ⟨j,0,none⟩ x0).setCell ⟨j,1,none⟩ x1).setCell ⟨j,2,none⟩ x2).setCell ⟨j,3,none⟩ x3).setCell ⟨j,4,none⟩ x4).setCell ⟨j,5,none⟩ x5).setCell ⟨j,6,none⟩ x6).setCell ⟨j,7,none⟩ x7) k a b c d:=H.other8 hj x0 x1 x2 x3 x4 x5 x6 x7
theorem At8.self8x (H:At8 w k a b c d e f g h) (x0 x1 x2 x3 x4 x5 x6 x7:Nat):At8 ((((((((w.setCell ⟨k,0,none⟩ (.int .u64 x0)).setCell ⟨k,1,none⟩ (.int .u64 x1)).setCell ⟨k,2,none⟩ (.int .u64 x2)).setCell ⟨k,3,none⟩ (.int .u64 x3)).setCell ⟨k,4,none⟩ (.int .u64 x4)).setCell ⟨k,5,none⟩ (.int .u64 x5)).setCell ⟨k,6,none⟩ (.int .u64 x6)).setCell ⟨k,7,none⟩ (.int .u64 x7)) k x0 x1 x2 x3 x4 x5 x6 x7:=H.self8 x0 x1 x2 x3 x4 x5 x6 x7
end
theorem zF6 {w W:World} {k0 k1 k2 p0 p1 p2 p3 c0 c1 c2 c3 a b c d e f g h:Nat} (H:Kept w k0 [⟨k0,0,p0,p1,p2,p3⟩,⟨k0,4,c0,c1,c2,c3⟩,⟨k1,0,a,b,c,d⟩,⟨k1,4,e,f,g,h⟩,⟨k2,0,0,0,0,0⟩] W):W.cell? ⟨k0,4,none⟩=some (.int .u64 c0)∧W.cell? ⟨k0,5,none⟩=some (.int .u64 c1)∧W.cell? ⟨k0,6,none⟩=some (.int .u64 c2)∧W.cell? ⟨k0,7,none⟩=some (.int .u64 c3)∧W.cell? ⟨k1,0,none⟩=some (.int .u64 a)∧W.cell? ⟨k1,1,none⟩=some (.int .u64 b)∧W.cell? ⟨k1,2,none⟩=some (.int .u64 c)∧W.cell? ⟨k1,3,none⟩=some (.int .u64 d)∧W.cell? ⟨k1,4,none⟩=some (.int .u64 e)∧W.cell? ⟨k1,5,none⟩=some (.int .u64 f)∧W.cell? ⟨k1,6,none⟩=some (.int .u64 g)∧W.cell? ⟨k1,7,none⟩=some (.int .u64 h)∧Kept w k0 [⟨k0,0,p0,p1,p2,p3⟩,⟨k0,4,c0,c1,c2,c3⟩,⟨k1,0,a,b,c,d⟩,⟨k1,4,e,f,g,h⟩,⟨k2,0,0,0,0,0⟩] W:=
 ⟨H.tail.head.c0,H.tail.head.c1,H.tail.head.c2,H.tail.head.c3,H.tail.tail.head.c0,H.tail.tail.head.c1,H.tail.tail.head.c2,H.tail.tail.head.c3,H.tail.tail.tail.head.c0,H.tail.tail.tail.head.c1,H.tail.tail.tail.head.c2,H.tail.tail.tail.head.c3,H⟩
theorem or4 (a b c d:Nat) (ha:a<18446744073709551616) (hb:b<18446744073709551616) (hc:c<18446744073709551616) (hd:d<18446744073709551616) :
 ∃ o:Nat,bits .or .u64 (bits .or .u64 (bits .or .u64 (a:Int) (b:Int)) (c:Int)) (d:Int)=(o:Int)∧(o=0↔(a=0∧b=0∧c=0∧d=0)):=by
 have lt:∀ x y:Nat,x<18446744073709551616→y<18446744073709551616→x ||| y<18446744073709551616:=fun x y hx hy=>Nat.or_lt_two_pow (n:=64) hx hy
 refine ⟨a ||| b ||| c ||| d,?_,?_⟩
 ·rw[bits_or_u64_nat a b ha hb,bits_or_u64_nat _ c (lt _ _ ha hb) hc,bits_or_u64_nat _ d (lt _ _ (lt _ _ ha hb) hc) hd]
 ·constructor
  ·intro h
   have h1:=Nat.left_le_or (n:=a ||| b ||| c) (m:=d)
   have h2:=Nat.right_le_or (n:=a ||| b ||| c) (m:=d)
   have h3:=Nat.left_le_or (n:=a ||| b) (m:=c)
   have h4:=Nat.right_le_or (n:=a ||| b) (m:=c)
   have h5:=Nat.left_le_or (n:=a) (m:=b)
   have h6:=Nat.right_le_or (n:=a) (m:=b)
   omega
  ·rintro ⟨rfl,rfl,rfl,rfl⟩
   rfl
theorem zKK {lo hi cc P gk:Nat} (hP:P+cc=top) (hP2:top<2*P) (hpos:0<hi) (hg:gk=lo+top*hi):hi*cc+lo<gk∧(hi*cc+lo)%P=gk%P:=by
 have e:gk=hi*cc+lo+P*hi:=by rw[hg,← hP,Nat.add_mul,Nat.mul_comm cc];omega
 rw[e,Nat.add_mul_mod_self_left]
 have:0<P*hi:=Nat.mul_pos (by omega) hpos
 exact ⟨by omega,rfl⟩
theorem zEw (p0 p1 p2 p3 c0 c1 c2 c3 P:Nat) (x:Value) (m:Nat) (hp0:p0<18446744073709551616) (hp1:p1<18446744073709551616) (hp2:p2<18446744073709551616) (hp3:p3<18446744073709551616)
 (hc0:c0<18446744073709551616) (hc1:c1<18446744073709551616) (hc2:c2<18446744073709551616) (hc3:c3<18446744073709551616) (eP:P=val p0 p1 p2 p3) (hP:P+val c0 c1 c2 c3=top) (hP2:top<2*P) (hx:zD3 x m) (w:World) :
 Calls Tryz.prog 108 #[.agg #[.int .u64 p0,.int .u64 p1,.int .u64 p2,.int .u64 p3,.int .u64 c0,.int .u64 c1,.int .u64 c2,.int .u64 c3],x] w (Ret fun e w'=>Below w.heap.size w w'∧Four e (m%P)):=by
 obtain ⟨a,b,c,d,e,f,g,h,rfl,ha,hb,hc,hd,he,hf,hg,hh,em⟩:=hx
 go_enter Tryz.func108,Tryz.ntmps108
 go_wp2
 have HEP:Hid (P=val p0 p1 p2 p3):=eP
 clear eP
 go_loopg [] (val a b c d+top*val e f g h) (fun gk wr=>∃ (a b c d e f g h:Nat),LessI w wr p0 p1 p2 p3 c0 c1 c2 c3 a b c d e f g h∧gk=val a b c d+top*val e f g h∧Hid (gk%P=m%P))
 case atStart =>
  refine ⟨a,b,c,d,e,f,g,h,⟨below3 _ _ _ _,?_,?_,?_,ha,hb,hc,hd,he,hf,hg,hh⟩,rfl,?_⟩
  ·exact (((At8.made w 64 p0 p1 p2 p3 c0 c1 c2 c3 rfl).alloc _).alloc _)
  ·exact (At8.made (w.alloc _) 150 a b c d e f g h (World.size_alloc _ _)).alloc _
  ·exact At4.made ((w.alloc _).alloc _) 60 0 0 0 0 (by simp)
  ·rw[em];rfl
 case round =>
  obtain ⟨a,b,c,d,e,f,g,h,hI,hgk,HE⟩:=hrel
  clear em ha hb hc hd he hf hg hh
  obtain ⟨bl,fr,wi,re,ha,hb,hc,hd,he,hf,hg,hh⟩:=hI
  have HB:Hid (Below w.heap.size w wr):=bl
  clear bl
  generalize q2:w.heap.size+1+1=k2 at re ⊢
  generalize q1:w.heap.size+1=k1 at wi ⊢
  have H:Hid (w.heap.size+1=k1∧w.heap.size+1+1=k2):=⟨q1,q2⟩
  have Q1:Hid (w.heap.size≤k1):=by unfold Hid;omega
  have Q2:Hid (w.heap.size≤k2):=by unfold Hid;omega
  generalize q0:w.heap.size=k0 at fr HB Q1 Q2 ⊢
  have H0:Hid (w.heap.size=k0):=q0
  have n01:k0≠k1:=by omega
  have n02:k0≠k2:=by omega
  have n12:k1≠k2:=by omega
  have z0:=fr.lt
  have z1:=wi.lt
  have z2:=re.lt
  clear q0 q1 q2
  obtain ⟨o,ho,hoz⟩:=or4 e f g h he hf hg hh
  obtain ⟨fc0,fc1,fc2,fc3,fc4,fc5,fc6,fc7,ff⟩:=id fr
  obtain ⟨wc0,wc1,wc2,wc3,wc4,wc5,wc6,wc7,wf⟩:=id wi
  obtain ⟨rc0,rc1,rc2,rc3,rf⟩:=id re
  by_cases hz:o=0
  ·obtain ⟨rfl,rfl,rfl,rfl⟩:=hoz.1 hz
   have hlow:gk=val a b c d:=by rw[hgk];rfl
   have HE2:Hid (val a b c d%P=m%P):=by unfold Hid;rw[← hlow];exact HE.out
   clear hgk HE hoz hlow
   subst hz
   go_wp2
   have N:=At4.made wr 60 a b c d rfl
   have M0:k0≠wr.heap.size:=Nat.ne_of_lt z0
   have M2:k2≠wr.heap.size:=Nat.ne_of_lt z2
   have M5:Hid (k0≤wr.heap.size):=Nat.le_of_lt z0
   have HB0:Hid (Below k0 w _):=HB.out.alloc (Nat.le_of_lt z0) (.cells #[.int .u64 a,.int .u64 b,.int .u64 c,.int .u64 d] 60)
   replace fr:=fr.alloc (.cells #[.int .u64 a,.int .u64 b,.int .u64 c,.int .u64 d] 60)
   replace re:=re.alloc (.cells #[.int .u64 a,.int .u64 b,.int .u64 c,.int .u64 d] 60)
   clear wi fc0 fc1 fc2 fc3 fc4 fc5 fc6 fc7 ff wc0 wc1 wc2 wc3 wc4 wc5 wc6 wc7 wf rc0 rc1 rc2 rc3 rf z0 z1 z2 HB ho
   generalize World.alloc _ _=W0 at N fr re HB0 ⊢
   generalize wr.heap.size=k5 at N M0 M2 M5 ⊢
   have hB4:Hid (a<18446744073709551616∧b<18446744073709551616∧c<18446744073709551616∧d<18446744073709551616):=⟨ha,hb,hc,hd⟩
   have HPP:Hid (0<P):=by unfold Hid;have:=hP2;omega
   clear ha hb hc hd hP hP2
   have KP:Kept w k0 [⟨k5,0,a,b,c,d⟩,⟨k0,0,p0,p1,p2,p3⟩,⟨k2,0,0,0,0,0⟩] W0:=
    (((Kept.mk1 HB0.out (Nat.le_of_lt fr.lt)).cons re.blk).cons (x:=⟨k0,0,p0,p1,p2,p3⟩) ⟨fr.c0,fr.c1,fr.c2,fr.c3,fr.fz⟩).cons N.blk
   clear fr re N HB0
   go_loopg [] (val a b c d) (fun gk2 wr2=>∃ (a b c d:Nat),gk2=val a b c d∧Kept w k0 [⟨k5,0,a,b,c,d⟩,⟨k0,0,p0,p1,p2,p3⟩,⟨k2,0,0,0,0,0⟩] wr2∧Hid (a<18446744073709551616∧b<18446744073709551616∧c<18446744073709551616∧d<18446744073709551616)∧Hid (val a b c d%P=m%P))
   case atStart=>exact ⟨a,b,c,d,rfl,KP,hB4,HE2⟩
   case round =>
    clear KP hB4 HE2
    obtain ⟨a,b,c,d,hgk2,KP,hB4,HE2⟩:=hrel
    obtain ⟨xc0,xc1,xc2,xc3,xf⟩:=KP.head.at4
    obtain ⟨pc0,pc1,pc2,pc3,pf⟩:=KP.tail.head.at4
    have z5:=KP.head.lt
    have z0:=KP.tail.head.lt
    go_wp2_with fail
    refine (zEs _ _ _ _ (Four.mk hB4.out.1 hB4.out.2.1 hB4.out.2.2.1 hB4.out.2.2.2 rfl) (Four.mk hp0 hp1 hp2 hp3 rfl) _).mono ?_
    rintro r w2 ⟨v,rfl,hb2,v2,t2,j,rfl,⟨a2,b2,c2,d2,rfl,ha2,hb2',hc2,hd2,es2⟩,hj,he2⟩
    clear xc0 xc1 xc2 xc3 xf pc0 pc1 pc2 pc3 pf z5 z0
    replace KP:=KP.call hb2
    clear hb2
    have HE3:Hid (val a2 b2 c2 d2+P=val a b c d+top*j):=by unfold Hid;rw[← es2,HEP.out];exact he2
    clear he2 es2
    have hj':j=0∨j=1:=by omega
    rcases hj' with rfl|rfl
    ·obtain ⟨xc0,xc1,xc2,xc3,xf⟩:=KP.head.at4
     have z5:=KP.head.lt
     go_wp2
     go_roundg (val a2 b2 c2 d2)
     case measure=>have:=HE3.out;have:=HPP.out;omega
     case rel =>
      refine ⟨a2,b2,c2,d2,rfl,?_,⟨ha2,hb2',hc2,hd2⟩,?_⟩
      ·exact (KP.put M5.out (by simp only[List.mem_cons,List.not_mem_nil,or_false];rintro x (rfl|rfl);exact M0.symm;exact M2.symm) a2 b2 c2 d2).alloc _
      ·unfold Hid
       rw[← HE2.out,show val a b c d=val a2 b2 c2 d2+P by have:=HE3.out;omega,Nat.add_mod_right]
    ·obtain ⟨xc0,xc1,xc2,xc3,xf⟩:=KP.head.at4
     obtain ⟨rc0,rc1,rc2,rc3,rf⟩:=KP.tail.tail.head.at4
     have z5:=KP.head.lt
     have z3:=KP.tail.tail.head.lt
     go_wp2
     have RF:=(KP.tail.tail.head.at4.self4 a b c d).alloc (.cells #[.int .u64 a2,.int .u64 b2,.int .u64 c2,.int .u64 d2] 60)
     unfold set4 at RF
     refine bodyPost_ret (v:=?v) ?hr rfl ?hR
     case hr=>simp[results,Tryz.results108,go_sem,RF.c0,RF.c1,RF.c2,RF.c3];rfl
     refine ⟨_,rfl,?_,Four.mk hB4.out.1 hB4.out.2.1 hB4.out.2.2.1 hB4.out.2.2.2 ?_⟩
     ·rw[H0.out]
      exact (zAc KP.bl Q2.out _ _ _ _).alloc (by rw[zJQ];exact KP.le) _
     ·rw[← HE2.out,Nat.mod_eq_of_lt (by have:=HE3.out;have:=zCg ha2 hb2' hc2 hd2;omega)]
  ·have hpos:0<val e f g h:=by
    rcases Nat.eq_zero_or_pos (val e f g h) with h0|h0
    ·exact absurd (hoz.2 (by unfold val at h0;omega)) hz
    ·exact h0
   have HL:Hid (_∧_):=zKK hP hP2 hpos hgk
   clear hoz hgk hpos
   go_wp2
   have KP:Kept w k0 [⟨k0,0,p0,p1,p2,p3⟩,⟨k0,4,c0,c1,c2,c3⟩,⟨k1,0,a,b,c,d⟩,⟨k1,4,e,f,g,h⟩,⟨k2,0,0,0,0,0⟩] wr:=
    (((((Kept.mk1 HB.out (Nat.le_of_lt z0)).cons re.blk).cons (x:=⟨k1,4,e,f,g,h⟩) ⟨wi.c4,wi.c5,wi.c6,wi.c7,wi.fz⟩).cons (x:=⟨k1,0,a,b,c,d⟩) ⟨wi.c0,wi.c1,wi.c2,wi.c3,wi.fz⟩).cons (x:=⟨k0,4,c0,c1,c2,c3⟩) ⟨fr.c4,fr.c5,fr.c6,fr.c7,fr.fz⟩).cons (x:=⟨k0,0,p0,p1,p2,p3⟩) ⟨fr.c0,fr.c1,fr.c2,fr.c3,fr.fz⟩
   clear HEP rc0 rc1 rc2 rc3 rf fc0 fc1 fc2 fc3 fr wi re HB
   refine anyTill.begin (fun w'=>w'.cell? ⟨k0,4,none⟩=some (.int .u64 c0)∧w'.cell? ⟨k0,5,none⟩=some (.int .u64 c1)∧w'.cell? ⟨k0,6,none⟩=some (.int .u64 c2)∧w'.cell? ⟨k0,7,none⟩=some (.int .u64 c3)∧w'.cell? ⟨k1,0,none⟩=some (.int .u64 a)∧w'.cell? ⟨k1,1,none⟩=some (.int .u64 b)∧w'.cell? ⟨k1,2,none⟩=some (.int .u64 c)∧w'.cell? ⟨k1,3,none⟩=some (.int .u64 d)∧w'.cell? ⟨k1,4,none⟩=some (.int .u64 e)∧w'.cell? ⟨k1,5,none⟩=some (.int .u64 f)∧w'.cell? ⟨k1,6,none⟩=some (.int .u64 g)∧w'.cell? ⟨k1,7,none⟩=some (.int .u64 h)∧Kept w k0 [⟨k0,0,p0,p1,p2,p3⟩,⟨k0,4,c0,c1,c2,c3⟩,⟨k1,0,a,b,c,d⟩,⟨k1,4,e,f,g,h⟩,⟨k2,0,0,0,0,0⟩] w') 22 mixed (zF6 KP.drew) (fun hS=>?_)
   refine anyTill.tk (i:=0) (v:=?_) rfl (Or.inl ⟨by rfl,?_⟩) hS ?_
   rotate_left
   ·intro w hSw
    (try dsimp only at hSw)
    go_simp
    try (with_reducible rfl)
   simp only[Act.put,List.setIfInBounds_toArray]
   refine anyTill.tk (i:=1) (v:=?_) rfl (Or.inl ⟨by rfl,?_⟩) hS ?_
   rotate_left
   ·intro w hSw
    (try dsimp only at hSw)
    go_simp
    try (with_reducible rfl)
   simp only[Act.put]
   refine anyTill.tk (i:=2) (v:=?_) rfl (Or.inl ⟨by rfl,?_⟩) hS ?_
   rotate_left
   ·intro w hSw
    (try dsimp only at hSw)
    go_simp
    try (with_reducible rfl)
   simp only[Act.put]
   refine anyTill.tk (i:=3) (v:=?_) rfl (Or.inl ⟨by rfl,?_⟩) hS ?_
   rotate_left
   ·intro w hSw
    (try dsimp only at hSw)
    go_simp
    try (with_reducible rfl)
   simp only[Act.put]
   refine anyTill.tk (i:=4) (v:=?_) rfl (Or.inl ⟨by rfl,?_⟩) hS ?_
   rotate_left
   ·intro w hSw
    (try dsimp only at hSw)
    go_simp
    try (with_reducible rfl)
   simp only[Act.put]
   refine anyTill.tk (i:=5) (v:=?_) rfl (Or.inl ⟨by rfl,?_⟩) hS ?_
   rotate_left
   ·intro w hSw
    (try dsimp only at hSw)
    go_simp
    try (with_reducible rfl)
   simp only[Act.put]
   refine anyTill.tk (i:=6) (v:=?_) rfl (Or.inl ⟨by rfl,?_⟩) hS ?_
   rotate_left
   ·intro w hSw
    (try dsimp only at hSw)
    go_simp
    try (with_reducible rfl)
   simp only[Act.put]
   refine anyTill.tk (i:=7) (v:=?_) rfl (Or.inl ⟨by rfl,?_⟩) hS ?_
   rotate_left
   ·intro w hSw
    (try dsimp only at hSw)
    go_simp
    try (with_reducible rfl)
   simp only[Act.put]
   refine anyTill.tk (i:=8) (v:=?_) rfl (Or.inl ⟨by rfl,?_⟩) hS ?_
   rotate_left
   ·intro w hSw
    (try dsimp only at hSw)
    go_simp
    try (with_reducible rfl)
   simp only[Act.put]
   refine anyTill.tk (i:=9) (v:=?_) rfl (Or.inl ⟨by rfl,?_⟩) hS ?_
   rotate_left
   ·intro w hSw
    (try dsimp only at hSw)
    go_simp
    try (with_reducible rfl)
   simp only[Act.put]
   refine anyTill.tk (i:=10) (v:=?_) rfl (Or.inl ⟨by rfl,?_⟩) hS ?_
   rotate_left
   ·intro w hSw
    (try dsimp only at hSw)
    go_simp
    try (with_reducible rfl)
   simp only[Act.put]
   refine anyTill.tk (i:=12) (v:=?_) rfl (Or.inl ⟨by rfl,?_⟩) hS ?_
   rotate_left
   ·intro w hSw
    (try dsimp only at hSw)
    go_simp
    try (with_reducible rfl)
   simp only[Act.put]
   refine anyTill.tk (i:=13) (v:=?_) rfl (Or.inl ⟨by rfl,?_⟩) hS ?_
   rotate_left
   ·intro w hSw
    (try dsimp only at hSw)
    go_simp
    try (with_reducible rfl)
   simp only[Act.put]
   refine anyTill.tk (i:=14) (v:=?_) rfl (Or.inl ⟨by rfl,?_⟩) hS ?_
   rotate_left
   ·intro w hSw
    (try dsimp only at hSw)
    go_simp
    try (with_reducible rfl)
   simp only[Act.put]
   refine anyTill.tk (i:=15) (v:=?_) rfl (Or.inl ⟨by rfl,?_⟩) hS ?_
   rotate_left
   ·intro w hSw
    (try dsimp only at hSw)
    go_simp
    try (with_reducible rfl)
   simp only[Act.put]
   refine anyTill.tk (i:=16) (v:=?_) rfl (Or.inl ⟨by rfl,?_⟩) hS ?_
   rotate_left
   ·intro w hSw
    (try dsimp only at hSw)
    go_simp
    try (with_reducible rfl)
   simp only[Act.put]
   refine anyTill.tk (i:=17) (v:=?_) rfl (Or.inl ⟨by rfl,?_⟩) hS ?_
   rotate_left
   ·intro w hSw
    (try dsimp only at hSw)
    go_simp
    try (with_reducible rfl)
   simp only[Act.put]
   refine anyTill.tk (i:=18) (v:=?_) rfl (Or.inl ⟨by rfl,?_⟩) hS ?_
   rotate_left
   ·intro w hSw
    (try dsimp only at hSw)
    go_simp
    try (with_reducible rfl)
   simp only[Act.put]
   refine anyTill.tk (i:=19) (v:=?_) rfl (Or.inl ⟨by rfl,?_⟩) hS ?_
   rotate_left
   ·intro w hSw
    (try dsimp only at hSw)
    go_simp
    try (with_reducible rfl)
   simp only[Act.put]
   refine anyTill.tk (i:=20) (v:=?_) rfl (Or.inl ⟨by rfl,?_⟩) hS ?_
   rotate_left
   ·intro w hSw
    (try dsimp only at hSw)
    go_simp
    try (with_reducible rfl)
   simp only[Act.put]
   refine anyTill.step (i:=11) rfl (by kernel_rfl) (fun K hK=>?_)
   go_simp
   refine (zCm _ _ _ _ (Four.mk he hf hg hh rfl) (Four.mk hc0 hc1 hc2 hc3 rfl) _).mono ?_
   rintro r w1 ⟨v,rfl,hb1,hE1⟩
   obtain ⟨x0,x1,x2,x3,x4,x5,x6,x7,rfl,hx0,hx1,hx2,hx3,hx4,hx5,hx6,hx7,hxe⟩:=id hE1
   clear hxe hS
   have KP1:=KP.drew.call hb1
   clear hb1 KP
   refine hK.out _ _ (fun _=>zF6 KP1) ?_
   clear hK K
   try simp only[Act.put,List.setIfInBounds_toArray,List.set_cons_zero,List.set_cons_succ]
   refine anyTill.step (i:=21) rfl (by kernel_rfl) (fun K hK=>?_)
   go_simp
   refine (zEp _ _ _ _ hE1 ⟨a,b,c,d,0,0,0,0,rfl,ha,hb,hc,hd,by decide,by decide,by decide,by decide,rfl⟩ (by have h1:=zJf (zCg he hf hg hh) (zCg hc0 hc1 hc2 hc3);have h2:=zCg ha hb hc hd;have e0:val 0 0 0 0=0:=rfl;rw[e0,Nat.mul_zero,Nat.add_zero];omega) _).mono ?_
   rintro r w2 ⟨v,rfl,hb2,hE2⟩
   obtain ⟨y0,y1,y2,y3,y4,y5,y6,y7,rfl,hy0,hy1,hy2,hy3,hy4,hy5,hy6,hy7,hye⟩:=id hE2
   rw[show val 0 0 0 0=0 from rfl,Nat.mul_zero,Nat.add_zero] at hye
   have HY:Hid (_=_):=hye
   clear hye hE1 hE2
   have KP2:=KP1.call hb2
   clear hb2 KP1
   refine hK.out _ _ (fun _=>zF6 KP2) ?_
   clear hK K
   try simp only[Act.put,List.setIfInBounds_toArray,List.set_cons_zero,List.set_cons_succ]
   have fr:At8 w2 k0 p0 p1 p2 p3 c0 c1 c2 c3:=⟨KP2.head.c0,KP2.head.c1,KP2.head.c2,KP2.head.c3,KP2.tail.head.c0,KP2.tail.head.c1,KP2.tail.head.c2,KP2.tail.head.c3,KP2.head.f⟩
   have wi:At8 w2 k1 a b c d e f g h:=⟨KP2.tail.tail.head.c0,KP2.tail.tail.head.c1,KP2.tail.tail.head.c2,KP2.tail.tail.head.c3,KP2.tail.tail.tail.head.c0,KP2.tail.tail.tail.head.c1,KP2.tail.tail.tail.head.c2,KP2.tail.tail.tail.head.c3,KP2.tail.tail.head.f⟩
   have re:At4 w2 k2 0 0 0 0:=KP2.tail.tail.tail.tail.head.at4
   have HB:Hid (Below k0 w w2):=KP2.bl
   clear KP2 wc0 wc1 wc2 wc3 wc4 wc5 wc6 wc7 wf z0 z1 z2
   obtain ⟨wc0,wc1,wc2,wc3,wc4,wc5,wc6,wc7,wf⟩:=id wi
   have z1:=wi.lt
   refine anyTill.step (i:=22) rfl (by kernel_rfl) (fun K hK=>?_)
   go_simp
   refine hK.out _ _ (fun h=>Bool.noConfusion h) ?_
   clear hK K
   try simp only[Act.put,List.setIfInBounds_toArray,List.set_cons_zero,List.set_cons_succ]
   refine anyTill.done (by kernel_rfl) ?_ _
   obtain ⟨q1,q2⟩:=H.out
   have q0:=H0.out
   subst q1 q2 q0
   go_wp2
   go_roundg (val y0 y1 y2 y3+top*val y4 y5 y6 y7)
   case measure=>rw[← HY.out];exact HL.out.1
   case rel =>
    refine ⟨y0,y1,y2,y3,y4,y5,y6,y7,⟨?_,?_,?_,?_,hy0,hy1,hy2,hy3,hy4,hy5,hy6,hy7⟩,rfl,?_⟩
    ·exact zH1 HB.out Q1.out _ _ _ _ _ _ _ _
    ·exact At8.other8x fr n01.symm _ _ _ _ _ _ _ _
    ·exact At8.self8x wi y0 y1 y2 y3 y4 y5 y6 y7
    ·exact At4.other8x re n12 _ _ _ _ _ _ _ _
    ·unfold Hid
     rw[← HY.out,← HE.out]
     exact HL.out.2
end
section
open Go.RowKit Go.Sort
variable {P:Nat} [NeZero P] {N:Nat}
theorem zBn {w W:World} {k0 k1 k2 p0 p1 p2 p3 c0 c1 c2 c3 a b c d p q r s:Nat} (h:Kept w k0 [⟨k0,0,p0,p1,p2,p3⟩,⟨k0,4,c0,c1,c2,c3⟩,⟨k1,0,a,b,c,d⟩,⟨k2,0,p,q,r,s⟩] W):W.cell? ⟨k0,0,none⟩=some (.int .u64 p0)∧W.cell? ⟨k0,1,none⟩=some (.int .u64 p1)∧W.cell? ⟨k0,2,none⟩=some (.int .u64 p2)∧W.cell? ⟨k0,3,none⟩=some (.int .u64 p3)∧W.cell? ⟨k0,4,none⟩=some (.int .u64 c0)∧W.cell? ⟨k0,5,none⟩=some (.int .u64 c1)∧W.cell? ⟨k0,6,none⟩=some (.int .u64 c2)∧W.cell? ⟨k0,7,none⟩=some (.int .u64 c3)∧W.cell? ⟨k1,0,none⟩=some (.int .u64 a)∧W.cell? ⟨k1,1,none⟩=some (.int .u64 b)∧W.cell? ⟨k1,2,none⟩=some (.int .u64 c)∧W.cell? ⟨k1,3,none⟩=some (.int .u64 d)∧W.cell? ⟨k2,0,none⟩=some (.int .u64 p)∧W.cell? ⟨k2,1,none⟩=some (.int .u64 q)∧W.cell? ⟨k2,2,none⟩=some (.int .u64 r)∧W.cell? ⟨k2,3,none⟩=some (.int .u64 s)∧Kept w k0 [⟨k0,0,p0,p1,p2,p3⟩,⟨k0,4,c0,c1,c2,c3⟩,⟨k1,0,a,b,c,d⟩,⟨k2,0,p,q,r,s⟩] W:=
 ⟨h.head.c0,h.head.c1,h.head.c2,h.head.c3,h.tail.head.c0,h.tail.head.c1,h.tail.head.c2,h.tail.head.c3,h.tail.tail.head.c0,h.tail.tail.head.c1,h.tail.tail.head.c2,h.tail.tail.head.c3,h.tail.tail.tail.head.c0,h.tail.tail.tail.head.c1,h.tail.tail.tail.head.c2,h.tail.tail.tail.head.c3,h⟩
theorem zMf (p0 p1 p2 p3 c0 c1 c2 c3 P:Nat) (x y:Value) (m n:Nat) (hp0:p0<18446744073709551616) (hp1:p1<18446744073709551616) (hp2:p2<18446744073709551616) (hp3:p3<18446744073709551616)
 (hc0:c0<18446744073709551616) (hc1:c1<18446744073709551616) (hc2:c2<18446744073709551616) (hc3:c3<18446744073709551616) (eP:P=val p0 p1 p2 p3) (hP:P+val c0 c1 c2 c3=top) (hP2:top<2*P) (hx:Four x m) (hy:Four y n) (w:World) :
 Calls Tryz.prog 47 #[.agg #[.int .u64 p0,.int .u64 p1,.int .u64 p2,.int .u64 p3,.int .u64 c0,.int .u64 c1,.int .u64 c2,.int .u64 c3],x,y] w (Ret fun e w'=>Below w.heap.size w w'∧Four e (m*n%P)):=by
 obtain ⟨a,b,c,d,rfl,ha,hb,hc,hd,em⟩:=id hx
 obtain ⟨p,q,r,s,rfl,hp,hq,hr,hs,en⟩:=id hy
 have HX:Hid (Four _ _):=hx
 have HY:Hid (Four _ _):=hy
 have HL:Hid (∀ (v:Value) (k:Nat) (w:World),zD3 v k→Calls Tryz.prog 108 #[.agg #[.int .u64 p0,.int .u64 p1,.int .u64 p2,.int .u64 p3,.int .u64 c0,.int .u64 c1,.int .u64 c2,.int .u64 c3],v] w (Ret fun e w'=>Below w.heap.size w w'∧Four e (k%P))):=
  fun v k w hv=>zEw p0 p1 p2 p3 c0 c1 c2 c3 P v k hp0 hp1 hp2 hp3 hc0 hc1 hc2 hc3 eP hP hP2 hv w
 clear em en hx hy ha hb hc hd hp hq hr hs hp0 hp1 hp2 hp3 hc0 hc1 hc2 hc3 eP hP hP2
 go_enter Tryz.func47,Tryz.ntmps47
 go_wp2_with fail
 have FR:=((((At8.made w 64 p0 p1 p2 p3 c0 c1 c2 c3 rfl).alloc (.cells #[.int .u64 a,.int .u64 b,.int .u64 c,.int .u64 d] 60)).alloc (.cells #[.int .u64 p,.int .u64 q,.int .u64 r,.int .u64 s] 60)).alloc (.cells #[.int .u64 0,.int .u64 0,.int .u64 0,.int .u64 0] 60))
 have X:=(((At4.made (w.alloc (.cells #[.int .u64 p0,.int .u64 p1,.int .u64 p2,.int .u64 p3,.int .u64 c0,.int .u64 c1,.int .u64 c2,.int .u64 c3] 64)) 60 a b c d (World.size_alloc _ _)).alloc (.cells #[.int .u64 p,.int .u64 q,.int .u64 r,.int .u64 s] 60)).alloc (.cells #[.int .u64 0,.int .u64 0,.int .u64 0,.int .u64 0] 60))
 have Y:=((At4.made ((w.alloc (.cells #[.int .u64 p0,.int .u64 p1,.int .u64 p2,.int .u64 p3,.int .u64 c0,.int .u64 c1,.int .u64 c2,.int .u64 c3] 64)).alloc (.cells #[.int .u64 a,.int .u64 b,.int .u64 c,.int .u64 d] 60)) 60 p q r s (k:=w.heap.size+1+1) (by simp)).alloc (.cells #[.int .u64 0,.int .u64 0,.int .u64 0,.int .u64 0] 60))
 have T3:=At4.made (((w.alloc (.cells #[.int .u64 p0,.int .u64 p1,.int .u64 p2,.int .u64 p3,.int .u64 c0,.int .u64 c1,.int .u64 c2,.int .u64 c3] 64)).alloc (.cells #[.int .u64 a,.int .u64 b,.int .u64 c,.int .u64 d] 60)).alloc (.cells #[.int .u64 p,.int .u64 q,.int .u64 r,.int .u64 s] 60)) 60 0 0 0 0 (k:=w.heap.size+1+1+1) (by simp)
 have KP:=((((Kept.mk1 (zB0 w (.cells #[.int .u64 p0,.int .u64 p1,.int .u64 p2,.int .u64 p3,.int .u64 c0,.int .u64 c1,.int .u64 c2,.int .u64 c3] 64) (.cells #[.int .u64 a,.int .u64 b,.int .u64 c,.int .u64 d] 60) (.cells #[.int .u64 p,.int .u64 q,.int .u64 r,.int .u64 s] 60) (.cells #[.int .u64 0,.int .u64 0,.int .u64 0,.int .u64 0] 60)) (zB0 w (.cells #[.int .u64 p0,.int .u64 p1,.int .u64 p2,.int .u64 p3,.int .u64 c0,.int .u64 c1,.int .u64 c2,.int .u64 c3] 64) (.cells #[.int .u64 a,.int .u64 b,.int .u64 c,.int .u64 d] 60) (.cells #[.int .u64 p,.int .u64 q,.int .u64 r,.int .u64 s] 60) (.cells #[.int .u64 0,.int .u64 0,.int .u64 0,.int .u64 0] 60)).size).cons Y.blk).cons X.blk).cons (x:=⟨w.heap.size,4,c0,c1,c2,c3⟩) ⟨FR.c4,FR.c5,FR.c6,FR.c7,FR.fz⟩).cons (x:=⟨w.heap.size,0,p0,p1,p2,p3⟩) ⟨FR.c0,FR.c1,FR.c2,FR.c3,FR.fz⟩
 simp only[Int.natCast_zero] at T3
 clear FR X Y
 generalize World.alloc _ _=W0 at KP T3 ⊢
 generalize h3:w.heap.size+1+1+1=k3 at T3 ⊢
 generalize h2:w.heap.size+1+1=k2 at KP ⊢
 generalize h1:w.heap.size+1=k1 at KP ⊢
 have Q3:Hid (w.heap.size≤k3):=by unfold Hid;omega
 generalize h0:w.heap.size=k0 at KP Q3 ⊢
 have H0:Hid (w.heap.size=k0):=h0
 have hl3:∀ x∈([⟨k0,0,p0,p1,p2,p3⟩,⟨k0,4,c0,c1,c2,c3⟩,⟨k1,0,a,b,c,d⟩,⟨k2,0,p,q,r,s⟩]:List Blk),k3≠x.k:=by simp only[List.mem_cons,List.not_mem_nil,or_false];rintro x (rfl|rfl|rfl|rfl)<;>simp only<;>omega
 clear h0 h1 h2 h3
 obtain ⟨tc0,tc1,tc2,tc3,tf⟩:=id T3
 have zt:=T3.lt
 go_region_held3 (fun w'=>w'.cell? ⟨k0,0,none⟩=some (.int .u64 p0)∧w'.cell? ⟨k0,1,none⟩=some (.int .u64 p1)∧w'.cell? ⟨k0,2,none⟩=some (.int .u64 p2)∧w'.cell? ⟨k0,3,none⟩=some (.int .u64 p3)∧w'.cell? ⟨k0,4,none⟩=some (.int .u64 c0)∧w'.cell? ⟨k0,5,none⟩=some (.int .u64 c1)∧w'.cell? ⟨k0,6,none⟩=some (.int .u64 c2)∧w'.cell? ⟨k0,7,none⟩=some (.int .u64 c3)∧w'.cell? ⟨k1,0,none⟩=some (.int .u64 a)∧w'.cell? ⟨k1,1,none⟩=some (.int .u64 b)∧w'.cell? ⟨k1,2,none⟩=some (.int .u64 c)∧w'.cell? ⟨k1,3,none⟩=some (.int .u64 d)∧w'.cell? ⟨k2,0,none⟩=some (.int .u64 p)∧w'.cell? ⟨k2,1,none⟩=some (.int .u64 q)∧w'.cell? ⟨k2,2,none⟩=some (.int .u64 r)∧w'.cell? ⟨k2,3,none⟩=some (.int .u64 s)∧Kept w k0 [⟨k0,0,p0,p1,p2,p3⟩,⟨k0,4,c0,c1,c2,c3⟩,⟨k1,0,a,b,c,d⟩,⟨k2,0,p,q,r,s⟩] w') (first|(with_reducible exact zBn KP)|(with_reducible exact zBn KP.drew)|(with_reducible exact zBn (KP.set4' Q3.out hl3 _ _ _ _))|(with_reducible exact zBn (KP.set4' Q3.out hl3 _ _ _ _).drew)|fail) (first|(go_at_call 110;refine (zCm _ _ _ _ HX.out HY.out _).mono ?_;rintro e w1 ⟨v,rfl,hb1,hE1⟩;obtain ⟨x0,x1,x2,x3,x4,x5,x6,x7,rfl,hx0,hx1,hx2,hx3,hx4,hx5,hx6,hx7,hxe⟩:=id hE1;clear hxe;have HE1:Hid (zD3 _ _):=hE1;clear hE1;have KP1:=KP.drew.call hb1;have T1:=T3.drew.call hb1;clear KP T3 hb1;have KP:=KP1;have T3:=T1;clear KP1 T1;obtain ⟨tc0,tc1,tc2,tc3,tf⟩:=id T3;have zt:=T3.lt)|(go_at_call 108;refine (HL.out _ _ _ HE1.out).mono ?_;rintro e w2 ⟨v,rfl,hb2,hF3⟩;obtain ⟨a',b',c',d',rfl,ha',hb',hc',hd',es3⟩:=id hF3;clear es3;have HF3:Hid (Four _ _):=hF3;clear hF3;have KP1:=KP.call hb2;have T1:=T3.call hb2;clear KP T3 hb2;have KP:=KP1;have T3:=T1;clear KP1 T1;obtain ⟨tc0,tc1,tc2,tc3,tf⟩:=id T3;have zt:=T3.lt))
 go_wp2
 have RF:=T3.self4 a' b' c' d'
 unfold set4 at RF
 refine bodyPost_ret (v:=?v) ?hr rfl ?hR
 case hr=>simp[results,Tryz.results47,go_sem,RF.c0,RF.c1,RF.c2,RF.c3];rfl
 refine ⟨_,rfl,?_,HF3.out⟩
 rw[H0.out]
 exact zAc KP.bl Q3.out _ _ _ _
theorem Four.eight {a b c d m:Nat} (h:Four (.agg #[.int .u64 a,.int .u64 b,.int .u64 c,.int .u64 d]) m) :
 zD3 (.agg #[.int .u64 a,.int .u64 b,.int .u64 c,.int .u64 d,.int .u64 0,.int .u64 0,.int .u64 0,.int .u64 0]) m:=by
 obtain ⟨p,q,r,s,e,hp,hq,hr,hs,rfl⟩:=h
 simp only[Value.agg.injEq,Array.mk.injEq,List.cons.injEq,Value.int.injEq,true_and,and_true,Int.ofNat_inj] at e
 obtain ⟨rfl,rfl,rfl,rfl⟩:=e
 exact ⟨a,b,c,d,0,0,0,0,rfl,hp,hq,hr,hs,by decide,by decide,by decide,by decide,rfl⟩
theorem zLB {v u:Value} {m n:Nat} (hx:Four v m) (hy:Four u n):m+n<top*top:=by
 have h1:=hx.lt
 have h2:=hy.lt
 have h3:top+top≤top*top:=by unfold top;decide
 omega
theorem zMi (p0 p1 p2 p3 c0 c1 c2 c3 P:Nat) (x y:Value) (m n:Nat) (hp0:p0<18446744073709551616) (hp1:p1<18446744073709551616) (hp2:p2<18446744073709551616) (hp3:p3<18446744073709551616)
 (hc0:c0<18446744073709551616) (hc1:c1<18446744073709551616) (hc2:c2<18446744073709551616) (hc3:c3<18446744073709551616) (eP:P=val p0 p1 p2 p3) (hP:P+val c0 c1 c2 c3=top) (hP2:top<2*P) (hx:Four x m) (hy:Four y n) (w:World) :
 Calls Tryz.prog 46 #[.agg #[.int .u64 p0,.int .u64 p1,.int .u64 p2,.int .u64 p3,.int .u64 c0,.int .u64 c1,.int .u64 c2,.int .u64 c3],x,y] w (Ret fun e w'=>Below w.heap.size w w'∧Four e ((m+n)%P)):=by
 obtain ⟨a,b,c,d,rfl,ha,hb,hc,hd,em⟩:=id hx
 obtain ⟨p,q,r,s,rfl,hp,hq,hr,hs,en⟩:=id hy
 have HX:Hid (Four _ _):=hx
 have HY:Hid (Four _ _):=hy
 have HL:Hid (∀ (v:Value) (k:Nat) (w:World),zD3 v k→Calls Tryz.prog 108 #[.agg #[.int .u64 p0,.int .u64 p1,.int .u64 p2,.int .u64 p3,.int .u64 c0,.int .u64 c1,.int .u64 c2,.int .u64 c3],v] w (Ret fun e w'=>Below w.heap.size w w'∧Four e (k%P))):=
  fun v k w hv=>zEw p0 p1 p2 p3 c0 c1 c2 c3 P v k hp0 hp1 hp2 hp3 hc0 hc1 hc2 hc3 eP hP hP2 hv w
 clear em en hx hy ha hb hc hd hp hq hr hs hp0 hp1 hp2 hp3 hc0 hc1 hc2 hc3 eP hP hP2
 go_enter Tryz.func46,Tryz.ntmps46
 go_wp2_with fail
 have FR:=((((At8.made w 64 p0 p1 p2 p3 c0 c1 c2 c3 rfl).alloc (.cells #[.int .u64 a,.int .u64 b,.int .u64 c,.int .u64 d] 60)).alloc (.cells #[.int .u64 p,.int .u64 q,.int .u64 r,.int .u64 s] 60)).alloc (.cells #[.int .u64 0,.int .u64 0,.int .u64 0,.int .u64 0] 60))
 have X:=(((At4.made (w.alloc (.cells #[.int .u64 p0,.int .u64 p1,.int .u64 p2,.int .u64 p3,.int .u64 c0,.int .u64 c1,.int .u64 c2,.int .u64 c3] 64)) 60 a b c d (World.size_alloc _ _)).alloc (.cells #[.int .u64 p,.int .u64 q,.int .u64 r,.int .u64 s] 60)).alloc (.cells #[.int .u64 0,.int .u64 0,.int .u64 0,.int .u64 0] 60))
 have Y:=((At4.made ((w.alloc (.cells #[.int .u64 p0,.int .u64 p1,.int .u64 p2,.int .u64 p3,.int .u64 c0,.int .u64 c1,.int .u64 c2,.int .u64 c3] 64)).alloc (.cells #[.int .u64 a,.int .u64 b,.int .u64 c,.int .u64 d] 60)) 60 p q r s (k:=w.heap.size+1+1) (by simp)).alloc (.cells #[.int .u64 0,.int .u64 0,.int .u64 0,.int .u64 0] 60))
 have T3:=At4.made (((w.alloc (.cells #[.int .u64 p0,.int .u64 p1,.int .u64 p2,.int .u64 p3,.int .u64 c0,.int .u64 c1,.int .u64 c2,.int .u64 c3] 64)).alloc (.cells #[.int .u64 a,.int .u64 b,.int .u64 c,.int .u64 d] 60)).alloc (.cells #[.int .u64 p,.int .u64 q,.int .u64 r,.int .u64 s] 60)) 60 0 0 0 0 (k:=w.heap.size+1+1+1) (by simp)
 have KP:=((((Kept.mk1 (zB0 w (.cells #[.int .u64 p0,.int .u64 p1,.int .u64 p2,.int .u64 p3,.int .u64 c0,.int .u64 c1,.int .u64 c2,.int .u64 c3] 64) (.cells #[.int .u64 a,.int .u64 b,.int .u64 c,.int .u64 d] 60) (.cells #[.int .u64 p,.int .u64 q,.int .u64 r,.int .u64 s] 60) (.cells #[.int .u64 0,.int .u64 0,.int .u64 0,.int .u64 0] 60)) (zB0 w (.cells #[.int .u64 p0,.int .u64 p1,.int .u64 p2,.int .u64 p3,.int .u64 c0,.int .u64 c1,.int .u64 c2,.int .u64 c3] 64) (.cells #[.int .u64 a,.int .u64 b,.int .u64 c,.int .u64 d] 60) (.cells #[.int .u64 p,.int .u64 q,.int .u64 r,.int .u64 s] 60) (.cells #[.int .u64 0,.int .u64 0,.int .u64 0,.int .u64 0] 60)).size).cons Y.blk).cons X.blk).cons (x:=⟨w.heap.size,4,c0,c1,c2,c3⟩) ⟨FR.c4,FR.c5,FR.c6,FR.c7,FR.fz⟩).cons (x:=⟨w.heap.size,0,p0,p1,p2,p3⟩) ⟨FR.c0,FR.c1,FR.c2,FR.c3,FR.fz⟩
 simp only[Int.natCast_zero] at T3
 clear FR X Y
 generalize World.alloc _ _=W0 at KP T3 ⊢
 generalize h3:w.heap.size+1+1+1=k3 at T3 ⊢
 generalize h2:w.heap.size+1+1=k2 at KP ⊢
 generalize h1:w.heap.size+1=k1 at KP ⊢
 have Q3:Hid (w.heap.size≤k3):=by unfold Hid;omega
 generalize h0:w.heap.size=k0 at KP Q3 ⊢
 have H0:Hid (w.heap.size=k0):=h0
 have hl3:∀ x∈([⟨k0,0,p0,p1,p2,p3⟩,⟨k0,4,c0,c1,c2,c3⟩,⟨k1,0,a,b,c,d⟩,⟨k2,0,p,q,r,s⟩]:List Blk),k3≠x.k:=by simp only[List.mem_cons,List.not_mem_nil,or_false];rintro x (rfl|rfl|rfl|rfl)<;>simp only<;>omega
 clear h0 h1 h2 h3
 obtain ⟨tc0,tc1,tc2,tc3,tf⟩:=id T3
 have zt:=T3.lt
 go_region_held3 (fun w'=>w'.cell? ⟨k0,0,none⟩=some (.int .u64 p0)∧w'.cell? ⟨k0,1,none⟩=some (.int .u64 p1)∧w'.cell? ⟨k0,2,none⟩=some (.int .u64 p2)∧w'.cell? ⟨k0,3,none⟩=some (.int .u64 p3)∧w'.cell? ⟨k0,4,none⟩=some (.int .u64 c0)∧w'.cell? ⟨k0,5,none⟩=some (.int .u64 c1)∧w'.cell? ⟨k0,6,none⟩=some (.int .u64 c2)∧w'.cell? ⟨k0,7,none⟩=some (.int .u64 c3)∧w'.cell? ⟨k1,0,none⟩=some (.int .u64 a)∧w'.cell? ⟨k1,1,none⟩=some (.int .u64 b)∧w'.cell? ⟨k1,2,none⟩=some (.int .u64 c)∧w'.cell? ⟨k1,3,none⟩=some (.int .u64 d)∧w'.cell? ⟨k2,0,none⟩=some (.int .u64 p)∧w'.cell? ⟨k2,1,none⟩=some (.int .u64 q)∧w'.cell? ⟨k2,2,none⟩=some (.int .u64 r)∧w'.cell? ⟨k2,3,none⟩=some (.int .u64 s)∧Kept w k0 [⟨k0,0,p0,p1,p2,p3⟩,⟨k0,4,c0,c1,c2,c3⟩,⟨k1,0,a,b,c,d⟩,⟨k2,0,p,q,r,s⟩] w') (first|(with_reducible exact zBn KP)|(with_reducible exact zBn KP.drew)|(with_reducible exact zBn (KP.set4' Q3.out hl3 _ _ _ _))|(with_reducible exact zBn (KP.set4' Q3.out hl3 _ _ _ _).drew)|fail) (first|(go_at_call 109;refine (zEp _ _ _ _ (Four.eight HX.out) (Four.eight HY.out) (zLB HX.out HY.out) _).mono ?_;rintro e w1 ⟨v,rfl,hb1,hE1⟩;obtain ⟨x0,x1,x2,x3,x4,x5,x6,x7,rfl,hx0,hx1,hx2,hx3,hx4,hx5,hx6,hx7,hxe⟩:=id hE1;clear hxe;have HE1:Hid (zD3 _ _):=hE1;clear hE1;have KP1:=KP.drew.call hb1;have T1:=T3.drew.call hb1;clear KP T3 hb1;have KP:=KP1;have T3:=T1;clear KP1 T1;obtain ⟨tc0,tc1,tc2,tc3,tf⟩:=id T3;have zt:=T3.lt)|(go_at_call 108;refine (HL.out _ _ _ HE1.out).mono ?_;rintro e w2 ⟨v,rfl,hb2,hF3⟩;obtain ⟨a',b',c',d',rfl,ha',hb',hc',hd',es3⟩:=id hF3;clear es3;have HF3:Hid (Four _ _):=hF3;clear hF3;have KP1:=KP.call hb2;have T1:=T3.call hb2;clear KP T3 hb2;have KP:=KP1;have T3:=T1;clear KP1 T1;obtain ⟨tc0,tc1,tc2,tc3,tf⟩:=id T3;have zt:=T3.lt))
 go_wp2
 have RF:=T3.self4 a' b' c' d'
 unfold set4 at RF
 refine bodyPost_ret (v:=?v) ?hr rfl ?hR
 case hr=>simp[results,Tryz.results46,go_sem,RF.c0,RF.c1,RF.c2,RF.c3];rfl
 refine ⟨_,rfl,?_,HF3.out⟩
 rw[H0.out]
 exact zAc KP.bl Q3.out _ _ _ _
theorem zI4 (x y:Value) (m n:Nat) (hx:Four x m) (hy:Four y n) (w:World) :
 Calls Tryz.prog 149 #[x,y] w (Ret fun e w'=>Below w.heap.size w w'∧e=.bool (decide (m<n))):=by
 obtain ⟨a,b,c,d,rfl,ha,hb,hc,hd,em⟩:=id hx
 obtain ⟨p,q,r,s,rfl,hp,hq,hr,hs,en⟩:=id hy
 have HX:Hid (Four _ _):=hx
 have HY:Hid (Four _ _):=hy
 clear em en hx hy ha hb hc hd hp hq hr hs
 go_enter Tryz.func149,Tryz.ntmps149
 go_wp2_with fail
 refine (zEs _ _ _ _ HX.out HY.out _).mono ?_
 rintro e w1 ⟨v,rfl,hb1,v2,t,k,rfl,hF,hk,he⟩
 have HB:Hid (Below w.heap.size w w1):=(below2 w _ _).trans (hb1.mono (below2 w _ _).size)
 have hd:decide (m<n)=decide (k=1):=by
  have h1:=hF.lt
  have h2:=HX.out.lt
  have h3:=HY.out.lt
  have:k=0∨k=1:=by omega
  rcases this with rfl|rfl
  ·rw[decide_eq_false (by omega),decide_eq_false (by omega)]
  ·rw[decide_eq_true (by omega),decide_eq_true rfl]
 have HD:Hid (decide (m<n)=decide (k=1)):=hd
 obtain ⟨a',b',c',d',rfl,ha',hb',hc',hd',es⟩:=id hF
 clear es hF he hd hb1
 have:k=0∨k=1:=by omega
 rcases this with rfl|rfl
 ·go_wp2
  go_ret
  exact ⟨_,rfl,HB.out.alloc HB.out.size _,by rw[HD.out];rfl⟩
 ·go_wp2
  go_ret
  exact ⟨_,rfl,HB.out.alloc HB.out.size _,by rw[HD.out];rfl⟩
end
section
open Go.RowKit Go.Sort Go.Deep
variable {P:Nat} [NeZero P] {N:Nat}
theorem At4.setq {w:World} {k a b c d:Nat} (h:At4 w k a b c d) (q o:Nat) (hq:q<4) :
 At4 (w.setCell ⟨k,q,none⟩ (.int .u64 o)) k (if q=0 then o else a) (if q=1 then o else b) (if q=2 then o else c) (if q=3 then o else d):=by
 have h':q=0∨q=1∨q=2∨q=3:=by omega
 rcases h' with rfl|rfl|rfl|rfl
 ·exact h.set0 o
 ·exact h.set1 o
 ·exact h.set2 o
 ·exact h.set3 o
theorem zOT {a b c d M k B:Nat} (ha:a<18446744073709551616) (hb:b<18446744073709551616) (hc:c<18446744073709551616) (hd:d<18446744073709551616) (hk:k<32) (hB:B<256) (hv:val a b c d=M*256^(k+1)) :
 bits .or .u64 (wd a b c d (k/8):Int) ((B*2^(8*(k%8)):Nat):Int)=((wd a b c d (k/8)+B*2^(8*(k%8)):Nat):Int)∧wd a b c d (k/8)+B*2^(8*(k%8))<18446744073709551616:=by
 have h1:wd a b c d (k/8)=256^(k%8+1)*(M%256^(7-k%8)):=by
  rw[zNS (k/8) (by omega) ha hb hc hd,hv,zQj rfl rfl]
 obtain ⟨h2,h3⟩:=zRH (y:=M%256^(7-k%8)) (x:=B) (r:=k%8) (by omega) hB (Nat.mod_lt _ (Nat.pow_pos (by decide)))
 rw[h1]
 refine ⟨?_,h3⟩
 rw[bits_or_u64_nat _ _ (by omega) (by omega),h2]
theorem zOU {a b c d k B o:Nat} (hk:k<32) (ho:o=wd a b c d (k/8)+B*2^(8*(k%8))) :
 val (if k/8=0 then o else a) (if k/8=1 then o else b) (if k/8=2 then o else c) (if k/8=3 then o else d)=val a b c d+B*256^k:=by
 have h:=zJB a b c d (k/8) o (by omega)
 have e:(256:Nat)^k=2^(64*(k/8))*2^(8*(k%8)):=by
  rw[← Nat.pow_add,show 64*(k/8)+8*(k%8)=8*k by omega,Nat.pow_mul]
 rw[ho,Nat.mul_add,← Nat.mul_assoc,Nat.mul_comm (2^(64*(k/8))) B,Nat.mul_assoc,← e] at h
 rw[ho]
 omega
theorem zMZ (s:ByteArray) (i:Nat) (hi:i<s.size):beV (s.data.extract 0 (i+1)).toList=beV (s.data.extract 0 i).toList*256+s[i].toNat:=by
 have e:(s.data.extract 0 (i+1)).toList=(s.data.extract 0 i).toList++[s[i]]:=by
  rw[Array.extract_succ_right (by omega) hi,Array.toList_push]
  rfl
 rw[e,zBe]
 simp[beV]
theorem zKh (s:ByteArray) (hs:s.size=32) (w:World) :
 Calls Tryz.prog 148 #[.string s] w (Ret fun e w'=>Below w.heap.size w w'∧Four e (beV s.data.toList)):=by
 go_enter Tryz.func148,Tryz.ntmps148
 go_wp2
 have KP:=((Kept.mk1 (below2 w (.cells #[.int .u64 0,.int .u64 0,.int .u64 0,.int .u64 0] 60) (.cells #[.int .u64 0,.int .u64 0,.int .u64 0,.int .u64 0] 60)) (below2 w _ _).size).cons ((At4.made w 60 0 0 0 0 rfl).alloc (.cells #[.int .u64 0,.int .u64 0,.int .u64 0,.int .u64 0] 60)).blk).cons (At4.made (w.alloc (.cells #[.int .u64 0,.int .u64 0,.int .u64 0,.int .u64 0] 60)) 60 0 0 0 0 (World.size_alloc _ _)).blk
 generalize World.alloc _ _=W0 at KP ⊢
 generalize h1:w.heap.size+1=k1 at KP ⊢
 have n10:k1≠w.heap.size:=by omega
 have Q1:Hid (w.heap.size≤k1):=by unfold Hid;omega
 clear h1
 go_loopg [4] 32 (fun gk s4 wr=>∃ i a b c d:Nat,i+gk=32∧s4=.int .i64 i∧Kept w w.heap.size [⟨k1,0,a,b,c,d⟩,⟨w.heap.size,0,0,0,0,0⟩] wr∧Hid (Four (.agg #[.int .u64 a,.int .u64 b,.int .u64 c,.int .u64 d]) (beV (s.data.extract 0 i).toList*256^(32-i))))
 case atStart =>
  refine ⟨0,0,0,0,0,rfl,rfl,KP,?_⟩
  have:beV (s.data.extract 0 0).toList=0:=by simp[beV]
  rw[this,Nat.zero_mul]
  exact Four.mk (by decide) (by decide) (by decide) (by decide) rfl
 case round =>
  clear KP
  obtain ⟨i,a,b,c,d,hi,rfl,KP,HF⟩:=hrel
  by_cases hlt:i<32
  ·obtain ⟨k,hk⟩:∃ k,31-i=k:=⟨_,rfl⟩
   have hk32:k<32:=by omega
   have hi32:i<s.size:=by omega
   have hF:val a b c d=beV (s.data.extract 0 i).toList*256^(k+1)∧a<18446744073709551616∧b<18446744073709551616∧c<18446744073709551616∧d<18446744073709551616:=by
    obtain ⟨a',b',c',d',e',h1,h2,h3,h4,h5⟩:=HF.out
    obtain ⟨rfl,rfl,rfl,rfl⟩:a'=a∧b'=b∧c'=c∧d'=d:=by
     simp only[Value.agg.injEq,Array.mk.injEq,List.cons.injEq,Value.int.injEq,true_and,and_true,Int.ofNat_inj] at e'
     exact ⟨e'.1.symm,e'.2.1.symm,e'.2.2.1.symm,e'.2.2.2.symm⟩
    exact ⟨by rw[← h5,show 32-i=k+1 by omega],h1,h2,h3,h4⟩
   obtain ⟨B,hB⟩:∃ B,s[i].toNat=B:=⟨_,rfl⟩
   have hB256:B<256:=hB ▸ s[i].toNat_lt
   have hsb:IntKind.u64.wrap (s[i].toNat:Int)=(B:Int):=by rw[hB];exact wrapN _ (by omega)
   obtain ⟨hor,hol⟩:=zOT hF.2.1 hF.2.2.1 hF.2.2.2.1 hF.2.2.2.2 hk32 hB256 hF.1
   have xw:=KP.head.at4.wd (k/8) (by omega)
   obtain ⟨o,ho⟩:∃ o,wd a b c d (k/8)+B*2^(8*(k%8))=o:=⟨_,rfl⟩
   rw[ho] at hor hol
   have hst:=zOU (a:=a) (b:=b) (c:=c) (d:=d) hk32 ho.symm
   have HST:Hid (Four (.agg #[.int .u64 ((if k/8=0 then o else a:Nat):Int),.int .u64 ((if k/8=1 then o else b:Nat):Int),.int .u64 ((if k/8=2 then o else c:Nat):Int),.int .u64 ((if k/8=3 then o else d:Nat):Int)]) (beV (s.data.extract 0 (i+1)).toList*256^(32-(i+1)))):=by
    refine Four.mk ?_ ?_ ?_ ?_ ?_
    ·split;exact hol;exact hF.2.1
    ·split;exact hol;exact hF.2.2.1
    ·split;exact hol;exact hF.2.2.2.1
    ·split;exact hol;exact hF.2.2.2.2
    ·rw[hst,hF.1,zMZ s i hi32,hB,show 32-(i+1)=k by omega,Nat.add_mul,Nat.pow_succ,Nat.mul_assoc,Nat.mul_comm (256^k) 256]
   obtain ⟨y,hy⟩:∃ y,B*2^(8*(k%8))=y:=⟨_,rfl⟩
   have hyl:y<18446744073709551616:=by omega
   rw[hy] at hor
   obtain ⟨v,hv⟩:∃ v,wd a b c d (k/8)=v:=⟨_,rfl⟩
   rw[hv] at hor xw
   obtain ⟨q,hq⟩:∃ q,k/8=q:=⟨_,rfl⟩
   obtain ⟨r,hr⟩:∃ r,k%8=r:=⟨_,rfl⟩
   obtain ⟨t,ht⟩:∃ t,8*r=t:=⟨_,rfl⟩
   have hq4:q<4:=by omega
   have PT:=fun (v:Value)=>KP.tail.set (j:=k1) (i:=q) Q1.out (by simp only[List.mem_cons,List.not_mem_nil,or_false];rintro x rfl;exact n10) v
   rw[hq] at xw HST
   have hsh:IntKind.u64.wrap ((B:Int)*2^t)=(y:Int):=by
    rw[← ht,← hr,← hy,Int.natCast_mul,Int.natCast_pow]
    have:=wrapN (B*2^(8*(k%8))) (by omega)
    rw[Int.natCast_mul,Int.natCast_pow] at this
    exact this
   have i1:(31:Int)-(i:Int)=(k:Int):=by omega
   have i2:(k:Int).tdiv 8=(q:Int):=by rw[Int.tdiv_eq_ediv_of_nonneg (by omega)];omega
   have i3:(k:Int).tmod 8=(r:Int):=by rw[Int.tmod_eq_emod_of_nonneg (by omega)];omega
   have i4:(q:Int)<4:=by omega
   have i5:IntKind.i64.wrap (q:Int)=(q:Int):=zCj _ (by omega)
   have i6:IntKind.i64.wrap (r:Int)=(r:Int):=zCj _ (by omega)
   have i7:(8:Int)*(r:Int)=(t:Int):=by omega
   have i8:IntKind.i64.wrap (t:Int)=(t:Int):=zCj _ (by omega)
   have i9:t<64:=by omega
   have i10:(t:Int)<64:=by omega
   have hlt':(i:Int)<32:=by omega
   have T1:=KP.head.at4.setq q o hq4
   have z1:=KP.head.lt
   have xf:=KP.head.f
   have HSB:Hid (s[i].toNat=B):=hB
   have H4:Hid (q<4):=hq4
   clear hy hv hq hr ht ho hst hF hB HF
   go_wp2
   go_region
   go_wp2
   go_roundg (gk-1)
   case measure=>omega
   case rel =>
    refine ⟨i+1,_,_,_,_,by omega,rfl,?_,HST⟩
    exact ((PT _).cons T1.blk).drew
  ·have hi32:i=32:=by omega
   subst hi32
   have hse:s.data.extract 0 32=s.data:=by
    have h2:s.data.size=32:=hs
    rw[← h2]
    exact Array.extract_size
   have h1:=HF.out
   rw[Nat.sub_self,Nat.pow_zero,Nat.mul_one,hse] at h1
   have HFE:Hid (Four _ _):=h1
   clear h1 hse
   obtain ⟨nc0,nc1,nc2,nc3,nf⟩:=KP.head.at4
   obtain ⟨rc0,rc1,rc2,rc3,rf⟩:=KP.tail.head.at4
   have z1:=KP.head.lt
   have z0:=KP.tail.head.lt
   clear HF
   go_wp2
   have RF:=KP.tail.head.at4.self4 a b c d
   unfold set4 at RF
   refine bodyPost_ret (v:=?v) ?hr rfl ?hR
   case hr=>simp[results,Tryz.results148,go_sem,RF.c0,RF.c1,RF.c2,RF.c3];rfl
   exact ⟨_,rfl,zAc KP.bl (Nat.le_refl _) _ _ _ _,HFE.out⟩
theorem zQq (w:World) (p0 p1 p2 p3 c0 c1 c2 c3 a b c d p q r s:Nat) :
 Kept w w.heap.size [⟨w.heap.size,0,p0,p1,p2,p3⟩,⟨w.heap.size,4,c0,c1,c2,c3⟩,⟨w.heap.size+1,0,a,b,c,d⟩,⟨w.heap.size+1+1,0,p,q,r,s⟩,⟨w.heap.size+1+1+1,0,0,0,0,0⟩]
  ((((w.alloc (.cells #[.int .u64 p0,.int .u64 p1,.int .u64 p2,.int .u64 p3,.int .u64 c0,.int .u64 c1,.int .u64 c2,.int .u64 c3] 64)).alloc (.cells #[.int .u64 a,.int .u64 b,.int .u64 c,.int .u64 d] 60)).alloc (.cells #[.int .u64 p,.int .u64 q,.int .u64 r,.int .u64 s] 60)).alloc (.cells #[.int .u64 0,.int .u64 0,.int .u64 0,.int .u64 0] 60)):=by
 have F:=(((At8.made w 64 p0 p1 p2 p3 c0 c1 c2 c3 rfl).alloc (.cells #[.int .u64 a,.int .u64 b,.int .u64 c,.int .u64 d] 60)).alloc (.cells #[.int .u64 p,.int .u64 q,.int .u64 r,.int .u64 s] 60)).alloc (.cells #[.int .u64 0,.int .u64 0,.int .u64 0,.int .u64 0] 60)
 refine (((((Kept.mk1 (zB0 w _ _ _ _) (zB0 w _ _ _ _).size).cons ?_).cons ?_).cons ?_).cons ?_).cons ?_
 ·exact (At4.made _ 60 0 0 0 0 (by simp)).blk
 ·exact ((At4.made _ 60 p q r s (by simp)).alloc _).blk
 ·exact (((At4.made _ 60 a b c d (by simp)).alloc _).alloc _).blk
 ·exact ⟨F.c4,F.c5,F.c6,F.c7,F.fz⟩
 ·exact ⟨F.c0,F.c1,F.c2,F.c3,F.fz⟩
theorem zNs (w:World) (p0 p1 p2 p3 c0 c1 c2 c3 a b c d:Nat) :
 Kept w w.heap.size [⟨w.heap.size,0,p0,p1,p2,p3⟩,⟨w.heap.size,4,c0,c1,c2,c3⟩,⟨w.heap.size+1,0,a,b,c,d⟩,⟨w.heap.size+1+1,0,0,0,0,0⟩]
  (((w.alloc (.cells #[.int .u64 p0,.int .u64 p1,.int .u64 p2,.int .u64 p3,.int .u64 c0,.int .u64 c1,.int .u64 c2,.int .u64 c3] 64)).alloc (.cells #[.int .u64 a,.int .u64 b,.int .u64 c,.int .u64 d] 60)).alloc (.cells #[.int .u64 0,.int .u64 0,.int .u64 0,.int .u64 0] 60)):=by
 have F:=((At8.made w 64 p0 p1 p2 p3 c0 c1 c2 c3 rfl).alloc (.cells #[.int .u64 a,.int .u64 b,.int .u64 c,.int .u64 d] 60)).alloc (.cells #[.int .u64 0,.int .u64 0,.int .u64 0,.int .u64 0] 60)
 refine ((((Kept.mk1 (below3 w _ _ _) (below3 w _ _ _).size).cons ?_).cons ?_).cons ?_).cons ?_
 ·exact (At4.made _ 60 0 0 0 0 (by simp)).blk
 ·exact ((At4.made _ 60 a b c d (by simp)).alloc _).blk
 ·exact ⟨F.c4,F.c5,F.c6,F.c7,F.fz⟩
 ·exact ⟨F.c0,F.c1,F.c2,F.c3,F.fz⟩
theorem zQr (w:World) (p0 p1 p2 p3 c0 c1 c2 c3:Nat) :
 Kept w w.heap.size [⟨w.heap.size,0,p0,p1,p2,p3⟩,⟨w.heap.size,4,c0,c1,c2,c3⟩,⟨w.heap.size+1,0,0,0,0,0⟩] ((w.alloc (.cells #[.int .u64 p0,.int .u64 p1,.int .u64 p2,.int .u64 p3,.int .u64 c0,.int .u64 c1,.int .u64 c2,.int .u64 c3] 64)).alloc (.cells #[.int .u64 0,.int .u64 0,.int .u64 0,.int .u64 0] 60)):=by
 have F:=(At8.made w 64 p0 p1 p2 p3 c0 c1 c2 c3 rfl).alloc (.cells #[.int .u64 0,.int .u64 0,.int .u64 0,.int .u64 0] 60)
 refine (((Kept.mk1 (below2 w _ _) (below2 w _ _).size).cons ?_).cons ?_).cons ?_
 ·exact (At4.made _ 60 0 0 0 0 (by simp)).blk
 ·exact ⟨F.c4,F.c5,F.c6,F.c7,F.fz⟩
 ·exact ⟨F.c0,F.c1,F.c2,F.c3,F.fz⟩
theorem zCU (p0 p1 p2 p3 c0 c1 c2 c3 P:Nat) (x:ByteArray) (hR:RefP p0 p1 p2 p3 c0 c1 c2 c3 P) (w:World) :
 Calls Tryz.prog 95 #[.agg #[.int .u64 p0,.int .u64 p1,.int .u64 p2,.int .u64 p3,.int .u64 c0,.int .u64 c1,.int .u64 c2,.int .u64 c3],.string x] w (Ret fun e w'=>Below w.heap.size w w'∧∃ (a b c d:Nat) (ok:Bool),e=.tuple #[.agg #[.int .u64 a,.int .u64 b,.int .u64 c,.int .u64 d],.bool ok]∧(ok=true→zRf P x.data∧Four (.agg #[.int .u64 a,.int .u64 b,.int .u64 c,.int .u64 d]) (beV x.data.toList))∧(ok=false→¬ zRf P x.data)∧(x.size=32→Four (.agg #[.int .u64 a,.int .u64 b,.int .u64 c,.int .u64 d]) (beV x.data.toList))∧(¬ x.size=32→a=0∧b=0∧c=0∧d=0)):=by
 have HR:Hid (RefP p0 p1 p2 p3 c0 c1 c2 c3 P):=hR
 clear hR
 by_cases hs:x.size=32
 ·have HS:Hid (x.size=32):=hs
  have hs':(x.size:Int)=32:=by omega
  clear hs
  go_enter Tryz.func95,Tryz.ntmps95
  go_wp2_with fail
  have KP:=zQr w p0 p1 p2 p3 c0 c1 c2 c3
  generalize World.alloc _ _=W0 at KP ⊢
  refine (zKh x HS.out _).mono ?_
  rintro e w1 ⟨v,rfl,hb1,hF⟩
  obtain ⟨a,b,c,d,rfl,ha,hb,hc,hd,es⟩:=id hF
  have HF:Hid (Four _ _):=hF
  replace KP:=KP.call hb1
  clear hF es hb1 ha hb hc hd
  obtain ⟨pc0,pc1,pc2,pc3,pf⟩:=KP.head.at4
  have z0:=KP.head.lt
  have n0:w.heap.size≠w1.heap.size:=Nat.ne_of_lt z0
  go_wp2_with fail
  refine (zI4 _ _ _ _ HF.out (Four.mk HR.out.hp0 HR.out.hp1 HR.out.hp2 HR.out.hp3 HR.out.eP) _).mono ?_
  rintro e w2 ⟨v,rfl,hb2,rfl⟩
  have KP2:=((KP.alloc (.cells #[.int .u64 a,.int .u64 b,.int .u64 c,.int .u64 d] 60)).cons (At4.made w1 60 a b c d rfl).blk).call hb2
  clear hb2 pc0 pc1 pc2 pc3 pf z0 n0
  have n4:w.heap.size+1≠w1.heap.size:=Nat.ne_of_lt KP.tail.tail.head.lt
  clear KP
  generalize w1.heap.size=k5 at KP2 n4 ⊢
  obtain ⟨nc0,nc1,nc2,nc3,nf⟩:=KP2.head.at4
  obtain ⟨rc0,rc1,rc2,rc3,rf⟩:=KP2.tail.tail.tail.head.at4
  have z5:=KP2.head.lt
  have z1:=KP2.tail.tail.tail.head.lt
  obtain ⟨ok,hok⟩:∃ ok,decide (beV x.data.toList<P)=ok:=⟨_,rfl⟩
  rw[hok]
  have HO:Hid (decide (beV x.data.toList<P)=ok):=hok
  clear hok
  go_wp2
  have RF:=KP2.tail.tail.tail.head.at4.self4 a b c d
  unfold set4 at RF
  refine bodyPost_ret (v:=?v) ?hr rfl ?hR
  case hr=>simp[results,Tryz.results95,go_sem,RF.c0,RF.c1,RF.c2,RF.c3];rfl
  refine ⟨_,rfl,zAc KP2.bl (Nat.le_succ _) _ _ _ _,a,b,c,d,ok,rfl,fun h=>⟨⟨HS.out,?_⟩,HF.out⟩,fun h hn=>?_,fun _=>HF.out,fun h=>absurd HS.out h⟩
  ·exact of_decide_eq_true (HO.out.trans h)
  ·have:=HO.out
   rw[h] at this
   exact of_decide_eq_false this hn.2
 ·have hs':¬ (x.size:Int)=32:=by omega
  go_enter Tryz.func95,Tryz.ntmps95
  go_wp2
  refine bodyPost_ret (v:=?v2) ?hr2 rfl ?hR2
  case hr2=>simp[results,Tryz.results95,go_sem];rfl
  exact ⟨_,rfl,below2 _ _ _,0,0,0,0,false,rfl,fun h=>Bool.noConfusion h,fun _ h=>hs h.1,fun h=>absurd h hs,fun _=>⟨rfl,rfl,rfl,rfl⟩⟩
theorem zDC (n:Nat) (_:n<18446744073709551616) (w:World):Calls Tryz.prog 159 #[.int .u64 n] w (Ret fun e w'=>Below w.heap.size w w'∧e=.agg #[.int .u64 n,.int .u64 0,.int .u64 0,.int .u64 0]):=by
 go_enter Tryz.func159,Tryz.ntmps159
 go_wp2
 refine bodyPost_ret (v:=?v) ?hr rfl ?hR
 case hr=>simp[results,Tryz.results159,go_sem];rfl
 exact ⟨_,rfl,zAf _ _,rfl⟩
theorem zD8 (x:Value) (m i:Nat) (hx:Four x m) (hi:i<256) (w:World):Calls Tryz.prog 114 #[x,.int .i64 i] w (Ret fun e w'=>Below w.heap.size w w'∧∃ t:Nat,e=.int .u64 t∧t=m/2^i%2):=by
 obtain ⟨a,b,c,d,rfl,ha,hb,hc,hd,em⟩:=id hx
 have xw:=(At4.made w 60 a b c d rfl).wd (i/64) (by omega)
 have hwl:wd a b c d (i/64)<18446744073709551616:=zNR _ ha hb hc hd
 have hbit:wd a b c d (i/64)/2^(i%64)%2=m/2^i%2:=by rw[em];exact zJA i hi ha hb hc hd
 have i2:(i:Int).tdiv 64=((i/64:Nat):Int):=by rw[Int.tdiv_eq_ediv_of_nonneg (by omega)];omega
 have i3:(i:Int).tmod 64=((i%64:Nat):Int):=by rw[Int.tmod_eq_emod_of_nonneg (by omega)];omega
 have i4:(i/64:Nat)<4:=by omega
 generalize wd a b c d (i/64)=v at xw hwl hbit
 have hvl:v/2^(i%64)<18446744073709551616:=Nat.lt_of_le_of_lt (Nat.div_le_self _ _) hwl
 have hand:bits .and .u64 ((v:Int)/2^(i%64)) 1=((m/2^i%2:Nat):Int):=by
  have:=and_one (v/2^(i%64)) hvl
  rw[hbit] at this
  rw[← this,Int.natCast_ediv,Int.natCast_pow]
  rfl
 obtain ⟨t,ht⟩:∃ t,m/2^i%2=t:=⟨_,rfl⟩
 rw[ht] at hand
 have HT:Hid (t=m/2^i%2):=ht.symm
 clear hx em ha hb hc hd hbit ht hvl
 go_enter Tryz.func114,Tryz.ntmps114
 go_upto_region 1 with fail
 have zx:w.heap.size<(w.alloc (.cells #[.int .u64 a,.int .u64 b,.int .u64 c,.int .u64 d] 60)).heap.size:=by simp
 have BL:=zAf w (.cells #[.int .u64 a,.int .u64 b,.int .u64 c,.int .u64 d] 60)
 generalize World.alloc _ _=W0 at xw zx BL ⊢
 go_wp2
 go_ret
 exact ⟨_,rfl,BL,t,rfl,HT.out⟩
theorem zKt (a b:Nat) (ha:a<18446744073709551616) (hb:b<18446744073709551616):∃ x:Nat,bits .or .u64 (a:Int) (b:Int)=(x:Int)∧(x=0↔a=0∧b=0)∧x<18446744073709551616:=
 ⟨a ||| b,bits_or_u64_nat a b ha hb,Nat.or_eq_zero_iff,Nat.or_lt_two_pow (n:=64) ha hb⟩
theorem zEu (x:Value) (m:Nat) (hx:Four x m) (w:World):Calls Tryz.prog 96 #[x] w (Ret fun e w'=>Below w.heap.size w w'∧e=.bool (decide (m=0))):=by
 obtain ⟨a,b,c,d,rfl,ha,hb,hc,hd,em⟩:=id hx
 obtain ⟨y,o1,z1,l1⟩:=zKt a b ha hb
 obtain ⟨z,o2,z2,l2⟩:=zKt y c l1 hc
 obtain ⟨t,o3,z3,l3⟩:=zKt z d l2 hd
 have hz:decide (m=0)=decide (t=0):=by
  rw[decide_eq_decide,z3,z2,z1,em]
  unfold val
  omega
 rw[hz]
 clear z1 z2 z3 hz em hx
 go_enter Tryz.func96,Tryz.ntmps96
 go_wp2
 go_ret
 exact ⟨_,rfl,zAf _ _,by by_cases h:t=0<;>simp[h]⟩
theorem zOZ {P m s k:Nat} (hm:m<P) (_:P<top) (h0:¬ m=0) (hs:s<top) (hk:k≤1) (h:s+m=P+top*k):s=(P-m)%P:=by
 have:k=0∨k=1:=by omega
 rw[Nat.mod_eq_of_lt (by omega)]
 rcases this with h'|h'<;>rw[h'] at h<;>omega
theorem zFX (p0 p1 p2 p3 c0 c1 c2 c3 P : Nat) (x : Value) (m : Nat) (hR : RefP p0 p1 p2 p3 c0 c1 c2 c3 P) (hx : Four x m) (hm : m < P) (w : World) :
    Calls Tryz.prog 118 #[.agg #[.int .u64 (p0 : Int), .int .u64 (p1 : Int), .int .u64 (p2 : Int), .int .u64 (p3 : Int), .int .u64 (c0 : Int), .int .u64 (c1 : Int), .int .u64 (c2 : Int), .int .u64 (c3 : Int)], x] w (Ret fun e w' => Below w.heap.size w w' ∧ Four e ((P - m) % P)) := by
  have HR : Hid (RefP p0 p1 p2 p3 c0 c1 c2 c3 P) := hR
  have HX : Hid (Four x m) := hx
  have HM : Hid (m < P) := hm
  obtain ⟨a, b, c, d, rfl, ha, hb, hc, hd, em⟩ := id hx
  clear hR hx hm em ha hb hc hd
  go_enter Tryz.func118, Tryz.ntmps118
  go_wp2_with fail
  have KP := zNs w p0 p1 p2 p3 c0 c1 c2 c3 a b c d
  generalize World.alloc _ _ = W0 at KP ⊢
  generalize h2 : w.heap.size + 1 + 1 = k2 at KP ⊢
  generalize h1 : w.heap.size + 1 = k1 at KP ⊢
  have Q2 : Hid (w.heap.size ≤ k2) := by unfold Hid; omega
  generalize h0 : w.heap.size = k0 at KP Q2 ⊢
  have H0 : Hid (w.heap.size = k0) := h0
  clear h0 h1 h2
  refine (zEu _ _ HX.out _).mono ?_
  rintro e w1 ⟨v, rfl, hb1, rfl⟩
  replace KP := KP.call hb1
  clear hb1
  obtain ⟨xc0, xc1, xc2, xc3, xf⟩ := KP.tail.tail.head.at4
  have zx := KP.tail.tail.head.lt
  by_cases hz : m = 0
  · have hd : decide (m = 0) = true := decide_eq_true hz
    rw [hd]
    have HZ : Hid (m = 0) := hz
    clear hd hz
    obtain ⟨rc0, rc1, rc2, rc3, rf⟩ := KP.tail.tail.tail.head.at4
    have zr := KP.tail.tail.tail.head.lt
    go_wp2
    have RF := KP.tail.tail.tail.head.at4.self4 a b c d
    unfold set4 at RF
    refine bodyPost_ret (v := ?v) ?hr rfl ?hR
    case hr => simp [results, Tryz.results118, go_sem, RF.c0, RF.c1, RF.c2, RF.c3]; rfl
    refine ⟨_, rfl, by rw [H0.out]; exact zAc KP.bl Q2.out _ _ _ _, ?_⟩
    have h1 := HX.out
    rw [HZ.out] at h1 ⊢
    rw [Nat.sub_zero, Nat.mod_self]
    exact h1
  · have hd : decide (m = 0) = false := decide_eq_false hz
    rw [hd]
    have HZ : Hid (¬ m = 0) := hz
    clear hd hz
    obtain ⟨fc0, fc1, fc2, fc3, ff⟩ := KP.head.at4
    have zf := KP.head.lt
    go_wp2_with fail
    refine (zEs _ _ _ _ (Four.mk HR.out.hp0 HR.out.hp1 HR.out.hp2 HR.out.hp3 HR.out.eP) HX.out _).mono ?_
    rintro e w2 ⟨v, rfl, hb2, v2, t, k, rfl, hF, hk, he⟩
    have HF : Hid (Four v2 ((P - m) % P)) := by
      have h1 := zOZ HM.out     (by have h3 := HR.out.hP; have h4 := HR.out.hP2; have h5 := HM.out; have h6 : 0 < val c0 c1 c2 c3 ∨ val c0 c1 c2 c3 = 0 := by omega
                                    rcases h6 with h6 | h6
                                    · omega
                                    · have h7 : Four (.agg #[.int .u64 (p0 : Int), .int .u64 (p1 : Int), .int .u64 (p2 : Int), .int .u64 (p3 : Int)]) P := Four.mk HR.out.hp0 HR.out.hp1 HR.out.hp2 HR.out.hp3 HR.out.eP
                                      exact h7.lt) HZ.out hF.lt hk he
      rw [← h1]; exact hF
    obtain ⟨ra, rb, rc, rd, rfl, -⟩ := id hF
    replace KP := KP.call hb2
    clear hb2 xc0 xc1 xc2 xc3 xf zx fc0 fc1 fc2 fc3 ff zf hF he
    obtain ⟨rc0, rc1, rc2, rc3, rf⟩ := KP.tail.tail.tail.head.at4
    have zr := KP.tail.tail.tail.head.lt
    have nr : k2 ≠ w2.heap.size := Nat.ne_of_lt zr
    go_wp2
    have RF := (KP.tail.tail.tail.head.at4.self4 ra rb rc rd).alloc (.cells #[.int .u64 (ra : Int), .int .u64 (rb : Int), .int .u64 (rc : Int), .int .u64 (rd : Int)] 60)
    unfold set4 at RF
    refine bodyPost_ret (v := ?v2) ?hr2 rfl ?hR2
    case hr2 => simp [results, Tryz.results118, go_sem, RF.c0, RF.c1, RF.c2, RF.c3]; rfl
    refine ⟨_, rfl, ?_, HF.out⟩
    rw [H0.out]
    exact (zAc KP.bl Q2.out _ _ _ _).alloc (by simpa [set4] using KP.le) _
theorem uFq:(Tryz.prog.underlying 64).map (·.isRow)=some true:=by kernel_rfl
theorem iFq:(Tryz.prog.info? 64).map (·.size)=some 8:=by kernel_rfl
def rl1:List Value:=[.int .u64 13822214165235122497,.int .u64 13451932020343611451,.int .u64 18446744073709551614,.int .u64 18446744073709551615,.int .u64 4624529908474429119,.int .u64 4994812053365940164,.int .u64 1,.int .u64 0]
def rv1:Value:=.agg rl1.toArray
theorem zMh:Gives 97 #[.int .i64 1] rv1:=fun w=>(zP3 w).mono (by rintro e w' ⟨v,rfl,hb,rfl⟩;exact ⟨_,rfl,hb,rfl⟩)
theorem Q3_c :Gives 41 #[] rv1:=by
 intro w
 go_enter Tryz.func41,Tryz.ntmps41
 refine RG.M.enter [] 2 (by kernel_rfl) ?_
 intro a0 M0
 repeat refine wp_seq ?_
 refine M0.t [.m 0 [] 0] [(0,(RG.z 8))] [] [(RG.z 8)] [(0,(.p 0 0))] ⟨RG.mk 0 64,trivial⟩ ?_
 intro j1 a1 w1 M1
 repeat refine wp_seq ?_
 refine M1.t [.c 1 [] rv1,.u [(1,0)] 0] [] [(0,1,rl1)] [rl1] [(0,(.p 0 0))] ⟨RG.cl (zMh),RG.pt iFq,trivial⟩ ?_
 intro a2 w2 M2
 refine wp_ret ?_
 refine bodyPost_ret (v:=rv1) (RG.zAb M2.st 0 64 rfl 0 _ rfl (M2.at (s:=(.p 0 0))) uFq iFq) M2.sl.defers ?_
 exact ⟨_,rfl,M2.st.bel.below,rfl⟩
def nuV (bs:Bs):Nat:=if bs.size=32 then beV bs.toList else 0
theorem zP1 {N:Nat} (hR:RefP 13822214165235122497 13451932020343611451 18446744073709551614 18446744073709551615 4624529908474429119 4994812053365940164 1 0 N) (s:ByteArray):Gives 95 #[rv1,.string s] (.tuple #[nv (nuV s.data),.bool (rq N s.data).isSome]):=fun w =>
 (zCU _ _ _ _ _ _ _ _ N s hR w).mono (by
  rintro e w' ⟨v,rfl,hb,a,b,c,d,ok,rfl,h1,h2,h3,h4⟩
  refine ⟨_,rfl,hb,?_⟩
  unfold nuV rq
  cases ok with
  | true =>
   obtain ⟨hi,hF⟩:=h1 rfl
   rw[if_pos (show s.data.size=32∧beV s.data.toList<N from hi),if_pos (show s.data.size=32 from hi.1),hF.nv]
   rfl
  | false =>
   rw[if_neg (show ¬ (s.data.size=32∧beV s.data.toList<N) from h2 rfl)]
   by_cases hs:s.data.size=32
   ·rw[if_pos hs,(h3 hs).nv]
    rfl
   ·rw[if_neg hs]
    obtain ⟨rfl,rfl,rfl,rfl⟩:=h4 hs
    rfl)
theorem zOk {N:Nat} {bs:Bs} {n:Nat} (h:rq N bs=some n):n=nuV bs:=by
 unfold rq at h
 split at h
 ·rename_i hc
  unfold nuV
  rw[if_pos hc.1]
  exact (Option.some.inj h).symm
 ·cases h
theorem zNo {p0 p1 p2 p3 c0 c1 c2 c3 P:Nat} {x y:Value} {m n:Nat} (hR:RefP p0 p1 p2 p3 c0 c1 c2 c3 P) (hx:Four x m) (hy:Four y n) (w:World) :
 Calls Tryz.prog 46 #[.agg #[.int .u64 p0,.int .u64 p1,.int .u64 p2,.int .u64 p3,.int .u64 c0,.int .u64 c1,.int .u64 c2,.int .u64 c3],x,y] w (Ret fun e w'=>Below w.heap.size w w'∧Four e ((m+n)%P)):=
 zMi p0 p1 p2 p3 c0 c1 c2 c3 P x y m n hR.hp0 hR.hp1 hR.hp2 hR.hp3 hR.hc0 hR.hc1 hR.hc2 hR.hc3 hR.eP hR.hP hR.hP2 hx hy w
theorem zGJ {p0 p1 p2 p3 c0 c1 c2 c3 P:Nat} {x y:Value} {m n:Nat} (hR:RefP p0 p1 p2 p3 c0 c1 c2 c3 P) (hx:Four x m) (hy:Four y n) (w:World) :
 Calls Tryz.prog 47 #[.agg #[.int .u64 p0,.int .u64 p1,.int .u64 p2,.int .u64 p3,.int .u64 c0,.int .u64 c1,.int .u64 c2,.int .u64 c3],x,y] w (Ret fun e w'=>Below w.heap.size w w'∧Four e (m*n%P)):=
 zMf p0 p1 p2 p3 c0 c1 c2 c3 P x y m n hR.hp0 hR.hp1 hR.hp2 hR.hp3 hR.hc0 hR.hc1 hR.hc2 hR.hc3 hR.eP hR.hP hR.hP2 hx hy w
theorem zN3 {P m n:Nat} (hn:n<P):(m+(P-n)%P)%P=(m+P-n)%P:=by
 rw[Nat.add_mod,Nat.mod_mod,← Nat.add_mod,show m+P-n=m+(P-n) by omega]
theorem zMd (p0 p1 p2 p3 c0 c1 c2 c3 P:Nat) (x y:Value) (m n:Nat) (hR:RefP p0 p1 p2 p3 c0 c1 c2 c3 P) (hx:Four x m) (hy:Four y n) (hn:n<P) (w:World) :
 Calls Tryz.prog 113 #[.agg #[.int .u64 p0,.int .u64 p1,.int .u64 p2,.int .u64 p3,.int .u64 c0,.int .u64 c1,.int .u64 c2,.int .u64 c3],x,y] w (Ret fun e w'=>Below w.heap.size w w'∧Four e ((m+P-n)%P)):=by
 obtain ⟨a,b,c,d,rfl,ha,hb,hc,hd,em⟩:=id hx
 obtain ⟨p,q,r,s,rfl,hp,hq,hr,hs,en⟩:=id hy
 have HX:Hid (Four _ _):=hx
 have HY:Hid (Four _ _):=hy
 have HR:Hid (RefP p0 p1 p2 p3 c0 c1 c2 c3 P):=hR
 have HN:Hid (n<P):=hn
 clear em en hx hy ha hb hc hd hp hq hr hs hR hn
 go_enter Tryz.func113,Tryz.ntmps113
 go_wp2_with fail
 have FR:=((((At8.made w 64 p0 p1 p2 p3 c0 c1 c2 c3 rfl).alloc (.cells #[.int .u64 a,.int .u64 b,.int .u64 c,.int .u64 d] 60)).alloc (.cells #[.int .u64 p,.int .u64 q,.int .u64 r,.int .u64 s] 60)).alloc (.cells #[.int .u64 0,.int .u64 0,.int .u64 0,.int .u64 0] 60))
 have X:=(((At4.made (w.alloc (.cells #[.int .u64 p0,.int .u64 p1,.int .u64 p2,.int .u64 p3,.int .u64 c0,.int .u64 c1,.int .u64 c2,.int .u64 c3] 64)) 60 a b c d (World.size_alloc _ _)).alloc (.cells #[.int .u64 p,.int .u64 q,.int .u64 r,.int .u64 s] 60)).alloc (.cells #[.int .u64 0,.int .u64 0,.int .u64 0,.int .u64 0] 60))
 have Y:=((At4.made ((w.alloc (.cells #[.int .u64 p0,.int .u64 p1,.int .u64 p2,.int .u64 p3,.int .u64 c0,.int .u64 c1,.int .u64 c2,.int .u64 c3] 64)).alloc (.cells #[.int .u64 a,.int .u64 b,.int .u64 c,.int .u64 d] 60)) 60 p q r s (k:=w.heap.size+1+1) (by simp)).alloc (.cells #[.int .u64 0,.int .u64 0,.int .u64 0,.int .u64 0] 60))
 have T3:=At4.made (((w.alloc (.cells #[.int .u64 p0,.int .u64 p1,.int .u64 p2,.int .u64 p3,.int .u64 c0,.int .u64 c1,.int .u64 c2,.int .u64 c3] 64)).alloc (.cells #[.int .u64 a,.int .u64 b,.int .u64 c,.int .u64 d] 60)).alloc (.cells #[.int .u64 p,.int .u64 q,.int .u64 r,.int .u64 s] 60)) 60 0 0 0 0 (k:=w.heap.size+1+1+1) (by simp)
 have KP:=((((Kept.mk1 (zB0 w (.cells #[.int .u64 p0,.int .u64 p1,.int .u64 p2,.int .u64 p3,.int .u64 c0,.int .u64 c1,.int .u64 c2,.int .u64 c3] 64) (.cells #[.int .u64 a,.int .u64 b,.int .u64 c,.int .u64 d] 60) (.cells #[.int .u64 p,.int .u64 q,.int .u64 r,.int .u64 s] 60) (.cells #[.int .u64 0,.int .u64 0,.int .u64 0,.int .u64 0] 60)) (zB0 w (.cells #[.int .u64 p0,.int .u64 p1,.int .u64 p2,.int .u64 p3,.int .u64 c0,.int .u64 c1,.int .u64 c2,.int .u64 c3] 64) (.cells #[.int .u64 a,.int .u64 b,.int .u64 c,.int .u64 d] 60) (.cells #[.int .u64 p,.int .u64 q,.int .u64 r,.int .u64 s] 60) (.cells #[.int .u64 0,.int .u64 0,.int .u64 0,.int .u64 0] 60)).size).cons Y.blk).cons X.blk).cons (x:=⟨w.heap.size,4,c0,c1,c2,c3⟩) ⟨FR.c4,FR.c5,FR.c6,FR.c7,FR.fz⟩).cons (x:=⟨w.heap.size,0,p0,p1,p2,p3⟩) ⟨FR.c0,FR.c1,FR.c2,FR.c3,FR.fz⟩
 simp only[Int.natCast_zero] at T3
 clear FR X Y
 generalize World.alloc _ _=W0 at KP T3 ⊢
 generalize h3:w.heap.size+1+1+1=k3 at T3 ⊢
 generalize h2:w.heap.size+1+1=k2 at KP ⊢
 generalize h1:w.heap.size+1=k1 at KP ⊢
 have Q3:Hid (w.heap.size≤k3):=by unfold Hid;omega
 generalize h0:w.heap.size=k0 at KP Q3 ⊢
 have H0:Hid (w.heap.size=k0):=h0
 have hl3:∀ x∈([⟨k0,0,p0,p1,p2,p3⟩,⟨k0,4,c0,c1,c2,c3⟩,⟨k1,0,a,b,c,d⟩,⟨k2,0,p,q,r,s⟩]:List Blk),k3≠x.k:=by simp only[List.mem_cons,List.not_mem_nil,or_false];rintro x (rfl|rfl|rfl|rfl)<;>simp only<;>omega
 clear h0 h1 h2 h3
 obtain ⟨tc0,tc1,tc2,tc3,tf⟩:=id T3
 have zt:=T3.lt
 go_region_held3 (fun w'=>w'.cell? ⟨k0,0,none⟩=some (.int .u64 p0)∧w'.cell? ⟨k0,1,none⟩=some (.int .u64 p1)∧w'.cell? ⟨k0,2,none⟩=some (.int .u64 p2)∧w'.cell? ⟨k0,3,none⟩=some (.int .u64 p3)∧w'.cell? ⟨k0,4,none⟩=some (.int .u64 c0)∧w'.cell? ⟨k0,5,none⟩=some (.int .u64 c1)∧w'.cell? ⟨k0,6,none⟩=some (.int .u64 c2)∧w'.cell? ⟨k0,7,none⟩=some (.int .u64 c3)∧w'.cell? ⟨k1,0,none⟩=some (.int .u64 a)∧w'.cell? ⟨k1,1,none⟩=some (.int .u64 b)∧w'.cell? ⟨k1,2,none⟩=some (.int .u64 c)∧w'.cell? ⟨k1,3,none⟩=some (.int .u64 d)∧w'.cell? ⟨k2,0,none⟩=some (.int .u64 p)∧w'.cell? ⟨k2,1,none⟩=some (.int .u64 q)∧w'.cell? ⟨k2,2,none⟩=some (.int .u64 r)∧w'.cell? ⟨k2,3,none⟩=some (.int .u64 s)∧Kept w k0 [⟨k0,0,p0,p1,p2,p3⟩,⟨k0,4,c0,c1,c2,c3⟩,⟨k1,0,a,b,c,d⟩,⟨k2,0,p,q,r,s⟩] w') (first|(with_reducible exact zBn KP)|(with_reducible exact zBn KP.drew)|(with_reducible exact zBn (KP.set4' Q3.out hl3 _ _ _ _))|(with_reducible exact zBn (KP.set4' Q3.out hl3 _ _ _ _).drew)|fail) (first|(go_at_call 118;refine (zFX p0 p1 p2 p3 c0 c1 c2 c3 P _ _ HR.out HY.out HN.out _).mono ?_;rintro e w1 ⟨v,rfl,hb1,hE1⟩;obtain ⟨x0,x1,x2,x3,rfl,-⟩:=id hE1;have HE1:Hid (Four _ _):=hE1;clear hE1;have KP1:=KP.drew.call hb1;have T1:=T3.drew.call hb1;clear KP T3 hb1;have KP:=KP1;have T3:=T1;clear KP1 T1;obtain ⟨tc0,tc1,tc2,tc3,tf⟩:=id T3;have zt:=T3.lt)|(go_at_call 46;refine (zNo HR.out HX.out HE1.out _).mono ?_;rintro e w2 ⟨v,rfl,hb2,hF3⟩;rw[zN3 HN.out] at hF3;obtain ⟨a',b',c',d',rfl,ha',hb',hc',hd',es3⟩:=id hF3;clear es3;have HF3:Hid (Four _ _):=hF3;clear hF3;have KP1:=KP.call hb2;have T1:=T3.call hb2;clear KP T3 hb2;have KP:=KP1;have T3:=T1;clear KP1 T1;obtain ⟨tc0,tc1,tc2,tc3,tf⟩:=id T3;have zt:=T3.lt))
 go_wp2
 have RF:=T3.self4 a' b' c' d'
 unfold set4 at RF
 refine bodyPost_ret (v:=?v) ?hr rfl ?hR
 case hr=>simp[results,Tryz.results113,go_sem,RF.c0,RF.c1,RF.c2,RF.c3];rfl
 refine ⟨_,rfl,?_,HF3.out⟩
 rw[H0.out]
 exact zAc KP.bl Q3.out _ _ _ _
theorem zMe (p0 p1 p2 p3 c0 c1 c2 c3 P:Nat) (x y:Value) (m n:Nat) (hR:RefP p0 p1 p2 p3 c0 c1 c2 c3 P) (hx:Four x m) (hy:Four y n) (w:World) :
 Calls Tryz.prog 155 #[.agg #[.int .u64 p0,.int .u64 p1,.int .u64 p2,.int .u64 p3,.int .u64 c0,.int .u64 c1,.int .u64 c2,.int .u64 c3],x,y] w (Ret fun e w'=>Below w.heap.size w w'∧Four e (m^n%P)):=by
 obtain ⟨a,b,c,d,rfl,ha,hb,hc,hd,em⟩:=id hx
 obtain ⟨p,q,r,s,rfl,hp,hq,hr,hs,en⟩:=id hy
 have HX:Hid (Four _ _):=hx
 have HY:Hid (Four _ _):=hy
 have HR:Hid (RefP p0 p1 p2 p3 c0 c1 c2 c3 P):=hR
 clear em en hx hy ha hb hc hd hp hq hr hs hR
 go_enter Tryz.func155,Tryz.ntmps155
 go_wp2_with fail
 have KP:=zQq w p0 p1 p2 p3 c0 c1 c2 c3 a b c d p q r s
 generalize World.alloc _ _=W0 at KP ⊢
 generalize h3:w.heap.size+1+1+1=k3 at KP ⊢
 generalize h2:w.heap.size+1+1=k2 at KP ⊢
 generalize h1:w.heap.size+1=k1 at KP ⊢
 have Q3:Hid (w.heap.size≤k3):=by unfold Hid;omega
 generalize h0:w.heap.size=k0 at KP Q3 ⊢
 have H0:Hid (w.heap.size=k0):=h0
 clear h0 h1 h2 h3
 refine (zDC 1 (by decide) _).mono ?_
 rintro e w1 ⟨v,rfl,hb1,rfl⟩
 replace KP:=KP.call hb1
 clear hb1
 go_wp2
 have KN:Kept w k0 (⟨w1.heap.size,0,1,0,0,0⟩ :: [⟨k0,0,p0,p1,p2,p3⟩,⟨k0,4,c0,c1,c2,c3⟩,⟨k1,0,a,b,c,d⟩,⟨k2,0,p,q,r,s⟩,⟨k3,0,0,0,0,0⟩]) _:=(KP.alloc (.cells #[.int .u64 1,.int .u64 0,.int .u64 0,.int .u64 0] 60)).cons (At4.made w1 60 1 0 0 0 rfl).blk
 have Q7:Hid (k0≤w1.heap.size):=KP.le
 have hlt:=KP.lts
 clear KP
 generalize World.alloc _ _=W1 at KN ⊢
 generalize w1.heap.size=k7 at KN hlt Q7 ⊢
 have hl7:∀ x∈([⟨k0,0,p0,p1,p2,p3⟩,⟨k0,4,c0,c1,c2,c3⟩,⟨k1,0,a,b,c,d⟩,⟨k2,0,p,q,r,s⟩,⟨k3,0,0,0,0,0⟩]:List Blk),k7≠x.k:=fun x hx=>Nat.ne_of_gt (hlt x hx)
 have n70:k7≠k0:=hl7 _ (List.mem_cons_self)
 have n71:k7≠k1:=hl7 ⟨k1,0,a,b,c,d⟩ (by simp)
 have n72:k7≠k2:=hl7 ⟨k2,0,p,q,r,s⟩ (by simp)
 have n73:k7≠k3:=hl7 ⟨k3,0,0,0,0,0⟩ (by simp)
 clear hlt
 go_loopg [8] 256 (fun gk s8 wr=>gk≤256∧s8=.int .i64 ((gk:Int)-1)∧∃ na nb nc nd:Nat,Kept w k0 (⟨k7,0,na,nb,nc,nd⟩ :: [⟨k0,0,p0,p1,p2,p3⟩,⟨k0,4,c0,c1,c2,c3⟩,⟨k1,0,a,b,c,d⟩,⟨k2,0,p,q,r,s⟩,⟨k3,0,0,0,0,0⟩]) wr∧Hid (Four (.agg #[.int .u64 na,.int .u64 nb,.int .u64 nc,.int .u64 nd]) (m^(n/2^gk)%P)))
 case atStart =>
  refine ⟨Nat.le_refl _,rfl,1,0,0,0,KN,?_⟩
  have h1:=HR.out.hP2
  have h2:3<top:=by decide
  rw[show n/2^256=0 from Nat.div_eq_of_lt HY.out.lt,Nat.pow_zero,Nat.mod_eq_of_lt (by omega)]
  exact Four.mk (by decide) (by decide) (by decide) (by decide) rfl
 case round =>
  clear KN
  obtain ⟨hg,rfl,na,nb,nc,nd,KP,HF⟩:=hrel
  obtain ⟨tc0,tc1,tc2,tc3,tf⟩:=KP.head.at4
  have zt:=KP.head.lt
  by_cases hz:gk=0
  ·subst hz
   have HF0:=HF.out
   rw[Nat.pow_zero,Nat.div_one] at HF0
   have HFE:Hid (Four _ _):=HF0
   clear HF0 HF
   obtain ⟨rc0,rc1,rc2,rc3,rf⟩:=KP.tail.tail.tail.tail.tail.head.at4
   have zr:=KP.tail.tail.tail.tail.tail.head.lt
   go_wp2
   have RF:=KP.tail.tail.tail.tail.tail.head.at4.self4 na nb nc nd
   unfold set4 at RF
   refine bodyPost_ret (v:=?v) ?hr rfl ?hR
   case hr=>simp[results,Tryz.results155,go_sem,RF.c0,RF.c1,RF.c2,RF.c3];rfl
   refine ⟨_,rfl,?_,HFE.out⟩
   rw[H0.out]
   exact zAc KP.bl Q3.out _ _ _ _
  ·obtain ⟨i,hi⟩:∃ i,gk=i+1:=⟨gk-1,by omega⟩
   have e1:(gk:Int)-1=(i:Int):=by omega
   rw[e1]
   have d1:(0:Int)≤(i:Int):=by omega
   have hi2:i<256:=by omega
   obtain ⟨E,hE⟩:∃ E,n/2^gk=E:=⟨_,rfl⟩
   rw[hE] at HF
   rw[hi] at hE
   have HE:Hid (n/2^(i+1)=E):=hE
   have HI:Hid (gk=i+1):=hi
   clear hE hi e1
   obtain ⟨fc0,fc1,fc2,fc3,ff⟩:=KP.tail.head.at4
   have fb:=KP.tail.tail.head
   obtain ⟨fd0,fd1,fd2,fd3,fg⟩:=id fb
   replace fd0:wr.cell? ⟨k0,4,none⟩=some (.int .u64 c0):=fd0
   replace fd1:wr.cell? ⟨k0,5,none⟩=some (.int .u64 c1):=fd1
   replace fd2:wr.cell? ⟨k0,6,none⟩=some (.int .u64 c2):=fd2
   replace fd3:wr.cell? ⟨k0,7,none⟩=some (.int .u64 c3):=fd3
   have zf:=KP.tail.head.lt
   go_wp2_with fail
   clear tc0 tc1 tc2 tc3 tf zt fc0 fc1 fc2 fc3 ff fb fd0 fd1 fd2 fd3 fg zf
   refine (zGJ HR.out HF.out HF.out _).mono ?_
   rintro e w2 ⟨v,rfl,hb2,hF3⟩
   rw[zBB] at hF3
   obtain ⟨ya,yb,yc,yd,rfl,-⟩:=id hF3
   clear HF
   have HF:Hid (Four _ _):=hF3
   clear hF3
   replace KP:=KP.call hb2
   clear hb2
   obtain ⟨tc0,tc1,tc2,tc3,tf⟩:=KP.head.at4
   have zt:=KP.head.lt
   obtain ⟨ec0,ec1,ec2,ec3,ef⟩:=KP.tail.tail.tail.tail.head.at4
   have ze:=KP.tail.tail.tail.tail.head.lt
   go_wp2_with fail
   clear tc0 tc1 tc2 tc3 tf zt ec0 ec1 ec2 ec3 ef ze
   have KP2:=KP.put Q7.out hl7 ya yb yc yd
   clear KP
   generalize World.setCell _ _ _=WX at KP2 ⊢
   refine (zD8 _ _ i HY.out hi2 _).mono ?_
   rintro e w3 ⟨v,rfl,hb3,t,rfl,ht⟩
   have KP:=KP2.call hb3
   have HT:Hid (t=n/2^i%2):=ht
   have ht2:t=0∨t=1:=by omega
   clear hb3 KP2 ht
   rcases ht2 with rfl|rfl
   ·go_wp2
    go_roundg (gk-1)
    case measure=>omega
    case rel =>
     refine ⟨by omega,?_,ya,yb,yc,yd,KP,?_⟩
     ·have:=HI.out
      congr 1
      omega
     ·have h1:=HF.out
      unfold Hid
      rw[HI.out,Nat.add_sub_cancel,zHO n i,HE.out,← HT.out,Nat.add_zero]
      exact h1
   ·obtain ⟨tc0,tc1,tc2,tc3,tf⟩:=KP.head.at4
    have zt:=KP.head.lt
    obtain ⟨ac0,ac1,ac2,ac3,af⟩:=KP.tail.tail.tail.head.at4
    have za:=KP.tail.tail.tail.head.lt
    obtain ⟨fc0,fc1,fc2,fc3,ff⟩:=KP.tail.head.at4
    have fb:=KP.tail.tail.head
    obtain ⟨fd0,fd1,fd2,fd3,fg⟩:=id fb
    replace fd0:w3.cell? ⟨k0,4,none⟩=some (.int .u64 c0):=fd0
    replace fd1:w3.cell? ⟨k0,5,none⟩=some (.int .u64 c1):=fd1
    replace fd2:w3.cell? ⟨k0,6,none⟩=some (.int .u64 c2):=fd2
    replace fd3:w3.cell? ⟨k0,7,none⟩=some (.int .u64 c3):=fd3
    have zf:=KP.tail.head.lt
    go_wp2_with fail
    clear tc0 tc1 tc2 tc3 tf zt fc0 fc1 fc2 fc3 ff fb fd0 fd1 fd2 fd3 fg zf ac0 ac1 ac2 ac3 af za
    refine (zGJ HR.out HF.out HX.out _).mono ?_
    rintro e w4 ⟨v,rfl,hb4,hF3⟩
    rw[zDQ] at hF3
    obtain ⟨ua,ub,uc,ud,rfl,-⟩:=id hF3
    clear HF
    have HF:Hid (Four _ _):=hF3
    clear hF3
    replace KP:=KP.call hb4
    clear hb4
    obtain ⟨tc0,tc1,tc2,tc3,tf⟩:=KP.head.at4
    have zt:=KP.head.lt
    go_wp2
    go_roundg (gk-1)
    case measure=>omega
    case rel =>
     refine ⟨by omega,?_,ua,ub,uc,ud,KP.put Q7.out hl7 ua ub uc ud,?_⟩
     ·have:=HI.out
      congr 1
      omega
     ·have h1:=HF.out
      unfold Hid
      rw[HI.out,Nat.add_sub_cancel,zHO n i,HE.out,← HT.out]
      exact h1
theorem zOQ (v t r:Nat) (hr:r<64) (hv:v<2^r) (ht:t<2):bits .or .u64 (v:Int) ((t*2^r:Nat):Int)=((v+t*2^r:Nat):Int)∧v+t*2^r<18446744073709551616:=by
 have h1:2^r≤2^63:=Nat.pow_le_pow_right (by decide) (by omega)
 have h2:t*2^r≤1*2^r:=Nat.mul_le_mul_right _ (by omega)
 have h3:(2:Nat)^63=9223372036854775808:=by decide
 have e:=Nat.two_pow_add_eq_or_of_lt hv t
 refine ⟨?_,by omega⟩
 rw[bits_or_u64_nat _ _ (by omega) (by omega),Nat.or_comm,Nat.mul_comm t,← e,Nat.add_comm]
theorem zI6 {a b c d Q i:Nat} (ha:a<18446744073709551616) (hb:b<18446744073709551616) (hc:c<18446744073709551616) (hd:d<18446744073709551616) (hi:i<256) (hv:val a b c d=Q%2^i):wd a b c d (i/64)<2^(i%64):=by
 rw[zNS (i/64) (by omega) ha hb hc hd,hv]
 refine Nat.lt_of_le_of_lt (Nat.mod_le _ _) ?_
 refine Nat.div_lt_of_lt_mul ?_
 rw[← Nat.pow_add,show 64*(i/64)+i%64=i by omega]
 exact Nat.mod_lt _ (Nat.pow_pos (by decide))
theorem zI7 {a b c d Q i t o:Nat} (hi:i<256) (hv:val a b c d=Q%2^i) (ht:t=Q/2^i%2) (ho:o=wd a b c d (i/64)+t*2^(i%64)) :
 val (if i/64=0 then o else a) (if i/64=1 then o else b) (if i/64=2 then o else c) (if i/64=3 then o else d)=Q%2^(i+1):=by
 have h:=zJB a b c d (i/64) o (by omega)
 have e:(2:Nat)^i=2^(64*(i/64))*2^(i%64):=by
  rw[← Nat.pow_add,show 64*(i/64)+i%64=i by omega]
 rw[ho,Nat.mul_add,← Nat.mul_assoc,Nat.mul_comm (2^(64*(i/64))) t,Nat.mul_assoc,← e] at h
 rw[ho,Nat.pow_succ,Nat.mod_mul,← ht,Nat.mul_comm (2^i)]
 omega
theorem zGB {w W:World} {k0 k1 k2 k3 j v p0 p1 p2 p3 c0 c1 c2 c3 a b c d qa qb qc qd:Nat} (h:Kept w k0 (⟨k3,0,qa,qb,qc,qd⟩ :: [⟨k0,0,p0,p1,p2,p3⟩,⟨k0,4,c0,c1,c2,c3⟩,⟨k1,0,a,b,c,d⟩,⟨k2,0,0,0,0,0⟩]) W) (hx:W.cell? ⟨k3,j,none⟩=some (.int .u64 v)):W.cell? ⟨k0,0,none⟩=some (.int .u64 p0)∧W.cell? ⟨k0,1,none⟩=some (.int .u64 p1)∧W.cell? ⟨k0,2,none⟩=some (.int .u64 p2)∧W.cell? ⟨k0,3,none⟩=some (.int .u64 p3)∧W.cell? ⟨k3,j,none⟩=some (.int .u64 v)∧Kept w k0 (⟨k3,0,qa,qb,qc,qd⟩ :: [⟨k0,0,p0,p1,p2,p3⟩,⟨k0,4,c0,c1,c2,c3⟩,⟨k1,0,a,b,c,d⟩,⟨k2,0,0,0,0,0⟩]) W:=
 ⟨h.tail.head.c0,h.tail.head.c1,h.tail.head.c2,h.tail.head.c3,hx,h⟩
theorem zFN {w W:World} {k0 k1 k2 k8 p0 p1 p2 p3 c0 c1 c2 c3 a b c d ra rb rc rd:Nat} (h:Kept w k0 (⟨k8,0,ra,rb,rc,rd⟩ :: [⟨k0,0,p0,p1,p2,p3⟩,⟨k0,4,c0,c1,c2,c3⟩,⟨k1,0,a,b,c,d⟩,⟨k2,0,0,0,0,0⟩]) W):W.cell? ⟨k0,0,none⟩=some (.int .u64 p0)∧W.cell? ⟨k0,1,none⟩=some (.int .u64 p1)∧W.cell? ⟨k0,2,none⟩=some (.int .u64 p2)∧W.cell? ⟨k0,3,none⟩=some (.int .u64 p3)∧W.cell? ⟨k0,4,none⟩=some (.int .u64 c0)∧W.cell? ⟨k0,5,none⟩=some (.int .u64 c1)∧W.cell? ⟨k0,6,none⟩=some (.int .u64 c2)∧W.cell? ⟨k0,7,none⟩=some (.int .u64 c3)∧W.cell? ⟨k8,0,none⟩=some (.int .u64 ra)∧W.cell? ⟨k8,1,none⟩=some (.int .u64 rb)∧W.cell? ⟨k8,2,none⟩=some (.int .u64 rc)∧W.cell? ⟨k8,3,none⟩=some (.int .u64 rd)∧W.cell? ⟨k1,0,none⟩=some (.int .u64 a)∧W.cell? ⟨k1,1,none⟩=some (.int .u64 b)∧W.cell? ⟨k1,2,none⟩=some (.int .u64 c)∧W.cell? ⟨k1,3,none⟩=some (.int .u64 d)∧Kept w k0 (⟨k8,0,ra,rb,rc,rd⟩ :: [⟨k0,0,p0,p1,p2,p3⟩,⟨k0,4,c0,c1,c2,c3⟩,⟨k1,0,a,b,c,d⟩,⟨k2,0,0,0,0,0⟩]) W:=
 ⟨h.tail.head.c0,h.tail.head.c1,h.tail.head.c2,h.tail.head.c3,h.tail.tail.head.c0,h.tail.tail.head.c1,h.tail.tail.head.c2,h.tail.tail.head.c3,h.head.c0,h.head.c1,h.head.c2,h.head.c3,h.tail.tail.tail.head.c0,h.tail.tail.tail.head.c1,h.tail.tail.tail.head.c2,h.tail.tail.tail.head.c3,h⟩
theorem zGH (p0 p1 p2 p3 c0 c1 c2 c3 P:Nat) (x:Value) (m:Nat) (hR:RefP p0 p1 p2 p3 c0 c1 c2 c3 P) (hP1:P/4%18446744073709551616<18446744073709551615) (hx:Four x m) (w:World) :
 Calls Tryz.prog 172 #[.agg #[.int .u64 p0,.int .u64 p1,.int .u64 p2,.int .u64 p3,.int .u64 c0,.int .u64 c1,.int .u64 c2,.int .u64 c3],x] w (Ret fun e w'=>Below w.heap.size w w'∧RootR P m (m^(P/4+1)%P) e):=by
 obtain ⟨a,b,c,d,rfl,ha,hb,hc,hd,em⟩:=id hx
 have HX:Hid (Four _ m):=hx
 have HR:Hid (RefP p0 p1 p2 p3 c0 c1 c2 c3 P):=hR
 have HP1:Hid (P/4%18446744073709551616<18446744073709551615):=hP1
 have HP4:Hid (Four (.agg #[.int .u64 p0,.int .u64 p1,.int .u64 p2,.int .u64 p3]) P):=Four.mk hR.hp0 hR.hp1 hR.hp2 hR.hp3 hR.eP
 obtain ⟨R,hRe⟩:∃ R,m^(P/4+1)%P=R:=⟨_,rfl⟩
 have hRP:R<P:=by
  rw[← hRe]
  refine Nat.mod_lt _ ?_
  have:=hR.hP2
  omega
 rw[hRe]
 have HRE:Hid (m^(P/4+1)%P=R):=hRe
 have HRP:Hid (R<P):=hRP
 clear em hx ha hb hc hd hR hRe hRP hP1
 go_enter Tryz.func172,Tryz.ntmps172
 go_wp2
 have K0:=zNs w p0 p1 p2 p3 c0 c1 c2 c3 a b c d
 have K1:=(K0.alloc (.cells #[.int .u64 0,.int .u64 0,.int .u64 0,.int .u64 0] 60)).cons (At4.made _ 60 0 0 0 0 rfl).blk
 have hz:(((w.alloc (.cells #[.int .u64 p0,.int .u64 p1,.int .u64 p2,.int .u64 p3,.int .u64 c0,.int .u64 c1,.int .u64 c2,.int .u64 c3] 64)).alloc (.cells #[.int .u64 a,.int .u64 b,.int .u64 c,.int .u64 d] 60)).alloc (.cells #[.int .u64 0,.int .u64 0,.int .u64 0,.int .u64 0] 60)).heap.size=w.heap.size+1+1+1:=by simp
 rw[hz] at K1
 clear K0 hz
 generalize World.alloc _ _=W0 at K1 ⊢
 generalize h3:w.heap.size+1+1+1=k3 at K1 ⊢
 generalize h2:w.heap.size+1+1=k2 at K1 ⊢
 generalize h1:w.heap.size+1=k1 at K1 ⊢
 have Q2:Hid (w.heap.size≤k2):=by unfold Hid;omega
 have Q3:Hid (w.heap.size≤k3):=by unfold Hid;omega
 generalize h0:w.heap.size=k0 at K1 Q2 Q3 ⊢
 have H0:Hid (w.heap.size=k0):=h0
 have n30:k3≠k0:=by omega
 have n31:k3≠k1:=by omega
 have n32:k3≠k2:=by omega
 clear h0 h1 h2 h3
 have hl3:∀ x∈([⟨k0,0,p0,p1,p2,p3⟩,⟨k0,4,c0,c1,c2,c3⟩,⟨k1,0,a,b,c,d⟩,⟨k2,0,0,0,0,0⟩]:List Blk),k3≠x.k:=by simp only[List.mem_cons,List.not_mem_nil,or_false];rintro x (rfl|rfl|rfl|rfl);exact n30;exact n30;exact n31;exact n32
 go_loopg [7] 254 (fun gk s7 wr=>∃ i qa qb qc qd:Nat,i+gk=254∧s7=.int .i64 i∧Kept w k0 (⟨k3,0,qa,qb,qc,qd⟩ :: [⟨k0,0,p0,p1,p2,p3⟩,⟨k0,4,c0,c1,c2,c3⟩,⟨k1,0,a,b,c,d⟩,⟨k2,0,0,0,0,0⟩]) wr∧Hid (Four (.agg #[.int .u64 qa,.int .u64 qb,.int .u64 qc,.int .u64 qd]) (P/4%2^i)))
 case atStart =>
  refine ⟨0,0,0,0,0,rfl,rfl,K1,?_⟩
  rw[Nat.pow_zero,Nat.mod_one]
  exact Four.mk (by decide) (by decide) (by decide) (by decide) rfl
 case round =>
  clear K1
  obtain ⟨i,qa,qb,qc,qd,hi,rfl,KP,HF⟩:=hrel
  by_cases hlt:i<254
  ·have hF:val qa qb qc qd=P/4%2^i∧qa<18446744073709551616∧qb<18446744073709551616∧qc<18446744073709551616∧qd<18446744073709551616:=by
    obtain ⟨a',b',c',d',e',h1,h2,h3,h4,h5⟩:=HF.out
    obtain ⟨rfl,rfl,rfl,rfl⟩:a'=qa∧b'=qb∧c'=qc∧d'=qd:=by
     simp only[Value.agg.injEq,Array.mk.injEq,List.cons.injEq,Value.int.injEq,true_and,and_true,Int.ofNat_inj] at e'
     exact ⟨e'.1.symm,e'.2.1.symm,e'.2.2.1.symm,e'.2.2.2.symm⟩
    exact ⟨h5.symm,h1,h2,h3,h4⟩
   have hwl:=zI6 hF.2.1 hF.2.2.1 hF.2.2.2.1 hF.2.2.2.2 (i:=i) (by omega) hF.1
   have xw:=KP.head.at4.wd (i/64) (by omega)
   obtain ⟨t,ht⟩:∃ t,P/2^(i+2)%2=t:=⟨_,rfl⟩
   have ht2:t<2:=by omega
   have htq:t=P/4/2^i%2:=by rw[← ht,Nat.div_div_eq_div_mul,show 4*2^i=2^(i+2) by rw[Nat.pow_add,Nat.mul_comm]]
   obtain ⟨o,ho⟩:∃ o,wd qa qb qc qd (i/64)+t*2^(i%64)=o:=⟨_,rfl⟩
   have hst:=zI7 (i:=i) (by omega) hF.1 htq ho.symm
   obtain ⟨hor,hol⟩:=zOQ _ t (i%64) (by omega) hwl ht2
   rw[ho] at hor hol
   have HST:Hid (Four (.agg #[.int .u64 ((if i/64=0 then o else qa:Nat):Int),.int .u64 ((if i/64=1 then o else qb:Nat):Int),.int .u64 ((if i/64=2 then o else qc:Nat):Int),.int .u64 ((if i/64=3 then o else qd:Nat):Int)]) (P/4%2^(i+1))):=by
    refine Four.mk ?_ ?_ ?_ ?_ hst.symm
    ·split;exact hol;exact hF.2.1
    ·split;exact hol;exact hF.2.2.1
    ·split;exact hol;exact hF.2.2.2.1
    ·split;exact hol;exact hF.2.2.2.2
   obtain ⟨y,hy⟩:∃ y,t*2^(i%64)=y:=⟨_,rfl⟩
   have hyl:y<18446744073709551616:=by omega
   rw[hy] at hor
   obtain ⟨v,hv⟩:∃ v,wd qa qb qc qd (i/64)=v:=⟨_,rfl⟩
   rw[hv] at hor xw
   obtain ⟨j,hj⟩:∃ j,i/64=j:=⟨_,rfl⟩
   obtain ⟨r,hr⟩:∃ r,i%64=r:=⟨_,rfl⟩
   obtain ⟨i2,hi2⟩:∃ i2,i+2=i2:=⟨_,rfl⟩
   rw[hj] at xw HST
   have hsh:IntKind.u64.wrap ((t:Int)*2^r)=(y:Int):=by
    rw[← hr,← hy,Int.natCast_mul,Int.natCast_pow]
    have:=wrapN (t*2^(i%64)) (by omega)
    rw[Int.natCast_mul,Int.natCast_pow] at this
    exact this
   have HBT:Hid (∀ w,Calls Tryz.prog 114 #[.agg #[.int .u64 p0,.int .u64 p1,.int .u64 p2,.int .u64 p3],.int .i64 i2] w (Ret fun e w'=>Below w.heap.size w w'∧∃ t:Nat,e=.int .u64 t∧t=P/2^i2%2)):=fun w=>zD8 _ P i2 HP4.out (by omega) w
   have HT:Hid (P/2^i2%2=t):=by unfold Hid;rw[← hi2];exact ht
   have e1:(i:Int).tdiv 64=(j:Int):=by rw[Int.tdiv_eq_ediv_of_nonneg (by omega)];omega
   have e2:(i:Int).tmod 64=(r:Int):=by rw[Int.tmod_eq_emod_of_nonneg (by omega)];omega
   have e3:(j:Int)<4:=by omega
   have e4:IntKind.i64.wrap (j:Int)=(j:Int):=zCj _ (by omega)
   have e5:IntKind.i64.wrap (r:Int)=(r:Int):=zCj _ (by omega)
   have e6:(i:Int)+2=(i2:Int):=by omega
   have e7:IntKind.i64.wrap (i2:Int)=(i2:Int):=zCj _ (by omega)
   have e8:(r:Int)<64:=by omega
   have e9:r<64:=by omega
   have hlt':(i:Int)<254:=by omega
   have T1:=fun W (h:At4 W k3 qa qb qc qd)=>At4.setq h j o (by omega)
   have hj4:j<4:=by omega
   have XJ:=fun W (h:At4 W k3 qa qb qc qd)=>At4.wd h j hj4
   rw[← hj,hv,hj] at XJ
   have HJ:Hid (j<4):=hj4
   clear hy hv hj hr ho hst hF ht htq hwl hi2 HF hj4
   go_upto_region 5 with fail
   refine anyTill.begin (fun w'=>w'.cell? ⟨k0,0,none⟩=some (.int .u64 p0)∧w'.cell? ⟨k0,1,none⟩=some (.int .u64 p1)∧w'.cell? ⟨k0,2,none⟩=some (.int .u64 p2)∧w'.cell? ⟨k0,3,none⟩=some (.int .u64 p3)∧w'.cell? ⟨k3,j,none⟩=some (.int .u64 v)∧Kept w k0 (⟨k3,0,qa,qb,qc,qd⟩ :: [⟨k0,0,p0,p1,p2,p3⟩,⟨k0,4,c0,c1,c2,c3⟩,⟨k1,0,a,b,c,d⟩,⟨k2,0,0,0,0,0⟩]) w') 16 mixed (zGB KP.drew (XJ _ KP.head.at4.drew)) (fun hS=>?_)
   refine anyTill.tk (i:=0) (v:=?_) rfl (Or.inl ⟨by rfl,?_⟩) hS ?_
   rotate_left
   ·intro w hSw
    (try dsimp only at hSw)
    go_simp
    try (with_reducible rfl)
   simp only[Act.put,List.setIfInBounds_toArray]
   refine anyTill.tk (i:=1) (v:=?_) rfl (Or.inl ⟨by rfl,?_⟩) hS ?_
   rotate_left
   ·intro w hSw
    (try dsimp only at hSw)
    go_simp
    try (with_reducible rfl)
   simp only[Act.put]
   refine anyTill.tk (i:=2) (v:=?_) rfl (Or.inl ⟨by rfl,?_⟩) hS ?_
   rotate_left
   ·intro w hSw
    (try dsimp only at hSw)
    go_simp
    try (with_reducible rfl)
   simp only[Act.put]
   refine anyTill.tk (i:=3) (v:=?_) rfl (Or.inl ⟨by rfl,?_⟩) hS ?_
   rotate_left
   ·intro w hSw
    (try dsimp only at hSw)
    go_simp
    try (with_reducible rfl)
   simp only[Act.put]
   refine anyTill.tk (i:=4) (v:=?_) rfl (Or.inl ⟨by rfl,?_⟩) hS ?_
   rotate_left
   ·intro w hSw
    (try dsimp only at hSw)
    go_simp
    try (with_reducible rfl)
   simp only[Act.put]
   refine anyTill.tk (i:=5) (v:=?_) rfl (Or.inl ⟨by rfl,?_⟩) hS ?_
   rotate_left
   ·intro w hSw
    (try dsimp only at hSw)
    go_simp
    try (with_reducible rfl)
   simp only[Act.put]
   refine anyTill.tk (i:=6) (v:=?_) rfl (Or.inl ⟨by rfl,?_⟩) hS ?_
   rotate_left
   ·intro w hSw
    (try dsimp only at hSw)
    go_simp
    try (with_reducible rfl)
   simp only[Act.put]
   refine anyTill.tk (i:=7) (v:=?_) rfl (Or.inl ⟨by rfl,?_⟩) hS ?_
   rotate_left
   ·intro w hSw
    (try dsimp only at hSw)
    go_simp
    try (with_reducible rfl)
   simp only[Act.put]
   refine anyTill.tk (i:=8) (v:=?_) rfl (Or.inl ⟨by rfl,?_⟩) hS ?_
   rotate_left
   ·intro w hSw
    (try dsimp only at hSw)
    go_simp
    try (with_reducible rfl)
   simp only[Act.put]
   refine anyTill.tk (i:=9) (v:=?_) rfl (Or.inl ⟨by rfl,?_⟩) hS ?_
   rotate_left
   ·intro w hSw
    (try dsimp only at hSw)
    go_simp
    try (with_reducible rfl)
   simp only[Act.put]
   refine anyTill.tk (i:=11) (v:=?_) rfl (Or.inl ⟨by rfl,?_⟩) hS ?_
   rotate_left
   ·intro w hSw
    (try dsimp only at hSw)
    go_simp
    try (with_reducible rfl)
   simp only[Act.put]
   refine anyTill.tk (i:=12) (v:=?_) rfl (Or.inl ⟨by rfl,?_⟩) hS ?_
   rotate_left
   ·intro w hSw
    (try dsimp only at hSw)
    go_simp
    try (with_reducible rfl)
   simp only[Act.put]
   try simp only[List.set_cons_zero,List.set_cons_succ]
   refine anyTill.step (i:=10) rfl (by kernel_rfl) (fun K hK=>?_)
   go_simp
   refine (HBT.out _).mono ?_
   rintro e w1 ⟨v',rfl,hb1,t',rfl,ht'⟩
   rw[HT.out] at ht'
   subst ht'
   clear hS
   have KP1:=KP.drew.call hb1
   clear hb1 KP
   refine hK.out _ _ (fun _=>zGB KP1 (XJ _ KP1.head.at4)) ?_
   clear hK K
   try simp only[Act.put,List.setIfInBounds_toArray,List.set_cons_zero,List.set_cons_succ]
   have cj:=XJ _ KP1.head.at4
   have cf:=KP1.head.f
   have cz:=KP1.head.lt
   refine anyTill.step (i:=13) rfl (by kernel_rfl) (fun K hK=>?_)
   go_simp
   refine hK.out _ _ (fun _=>zGB KP1 (XJ _ KP1.head.at4)) ?_
   clear hK K
   try simp only[Act.put,List.setIfInBounds_toArray,List.set_cons_zero,List.set_cons_succ]
   refine anyTill.step (i:=14) rfl (by kernel_rfl) (fun K hK=>?_)
   go_simp
   refine hK.out _ _ (fun _=>zGB KP1 (XJ _ KP1.head.at4)) ?_
   clear hK K
   try simp only[Act.put,List.setIfInBounds_toArray,List.set_cons_zero,List.set_cons_succ]
   refine anyTill.step (i:=15) rfl (by kernel_rfl) (fun K hK=>?_)
   go_simp
   refine hK.out _ _ (fun _=>zGB KP1 (XJ _ KP1.head.at4)) ?_
   clear hK K
   try simp only[Act.put,List.setIfInBounds_toArray,List.set_cons_zero,List.set_cons_succ]
   refine anyTill.step (i:=16) rfl (by kernel_rfl) (fun K hK=>?_)
   go_simp
   refine hK.out _ _ (fun h=>Bool.noConfusion h) ?_
   clear hK K
   try simp only[Act.put,List.setIfInBounds_toArray,List.set_cons_zero,List.set_cons_succ]
   refine anyTill.done (by kernel_rfl) ?_ _
   clear cj cf cz
   go_wp2
   go_roundg (gk-1)
   case measure=>omega
   case rel =>
    refine ⟨i+1,_,_,_,_,by omega,rfl,?_,HST⟩
    exact (KP1.tail.set (j:=k3) (i:=j) Q3.out hl3 _).cons (T1 _ KP1.head.at4).blk
  ·have hi254:i=254:=by omega
   subst hi254
   have hF:=HF.out
   have hPt:=HP4.out.lt
   rw[Nat.mod_eq_of_lt (show P/4<2^254 by unfold top at hPt;omega)] at hF
   have hq:val qa qb qc qd=P/4∧qa<18446744073709551615∧qb<18446744073709551616∧qc<18446744073709551616∧qd<18446744073709551616:=by
    obtain ⟨a',b',c',d',e',h1,h2,h3,h4,h5⟩:=hF
    obtain ⟨rfl,rfl,rfl,rfl⟩:a'=qa∧b'=qb∧c'=qc∧d'=qd:=by
     simp only[Value.agg.injEq,Array.mk.injEq,List.cons.injEq,Value.int.injEq,true_and,and_true,Int.ofNat_inj] at e'
     exact ⟨e'.1.symm,e'.2.1.symm,e'.2.2.1.symm,e'.2.2.2.symm⟩
    refine ⟨h5.symm,?_,h2,h3,h4⟩
    have h6:=HP1.out
    rw[h5] at h6
    unfold val at h6
    omega
   obtain ⟨qe,hqe'⟩:∃ qe,qa+1=qe:=⟨_,rfl⟩
   have HE:Hid (Four (.agg #[.int .u64 qe,.int .u64 qb,.int .u64 qc,.int .u64 qd]) (P/4+1)):=by
    refine Four.mk (by omega) hq.2.2.1 hq.2.2.2.1 hq.2.2.2.2 ?_
    rw[← hq.1,← hqe'];unfold val;omega
   have hadd:(qa:Int)+1=(qe:Int):=by omega
   have hw:=wrapN qe (by omega)
   clear hq hF hPt HF hqe'
   obtain ⟨qc0,qc1,qc2,qc3,qf⟩:=KP.head.at4
   have zq:=KP.head.lt
   obtain ⟨xc0,xc1,xc2,xc3,xf⟩:=KP.tail.tail.tail.head.at4
   have zx:=KP.tail.tail.tail.head.lt
   obtain ⟨fc0,fc1,fc2,fc3,ff⟩:=KP.tail.head.at4
   have fb:=KP.tail.tail.head
   have fd0:wr.cell? ⟨k0,4,none⟩=some (.int .u64 c0):=fb.c0
   have fd1:wr.cell? ⟨k0,5,none⟩=some (.int .u64 c1):=fb.c1
   have fd2:wr.cell? ⟨k0,6,none⟩=some (.int .u64 c2):=fb.c2
   have fd3:wr.cell? ⟨k0,7,none⟩=some (.int .u64 c3):=fb.c3
   have zf:=KP.tail.head.lt
   go_wp2_with fail
   clear qc0 qc1 qc2 qc3 qf zq xc0 xc1 xc2 xc3 xf zx fc0 fc1 fc2 fc3 ff fb fd0 fd1 fd2 fd3 zf
   have KP2:=KP.tail.set (j:=k3) (i:=0) Q3.out hl3 (.int .u64 qe)
   clear KP
   generalize World.setCell _ _ _=WS at KP2 ⊢
   refine (zMe p0 p1 p2 p3 c0 c1 c2 c3 P _ _ _ _ HR.out HX.out HE.out _).mono ?_
   rintro e w3 ⟨v,rfl,hb3,hF⟩
   have K:=KP2.call hb3
   clear hb3 KP2 HE hadd hw
   obtain ⟨ra,rb,rc,rd,rfl,-⟩:=id hF
   rw[HRE.out] at hF
   have HF:Hid (Four _ R):=hF
   clear hF
   go_upto_region 8 with fail
   have KP:Kept w k0 (⟨w3.heap.size,0,ra,rb,rc,rd⟩ :: [⟨k0,0,p0,p1,p2,p3⟩,⟨k0,4,c0,c1,c2,c3⟩,⟨k1,0,a,b,c,d⟩,⟨k2,0,0,0,0,0⟩]) _:=(K.alloc (.cells #[.int .u64 ra,.int .u64 rb,.int .u64 rc,.int .u64 rd] 60)).cons (At4.made w3 60 ra rb rc rd rfl).blk
   have n80:w3.heap.size≠k0:=Nat.ne_of_gt K.head.lt
   have n81:w3.heap.size≠k1:=Nat.ne_of_gt K.tail.tail.head.lt
   have n82:w3.heap.size≠k2:=Nat.ne_of_gt K.tail.tail.tail.head.lt
   have Q8:Hid (k0≤w3.heap.size):=K.le
   clear K
   generalize World.alloc _ _=W4 at KP ⊢
   generalize w3.heap.size=k8 at KP n80 n81 n82 Q8 ⊢
   by_cases heq:R*R%P=m
   ·have hsame:=zPN a b c d
    go_region_held3 (fun w'=>w'.cell? ⟨k0,0,none⟩=some (.int .u64 p0)∧w'.cell? ⟨k0,1,none⟩=some (.int .u64 p1)∧w'.cell? ⟨k0,2,none⟩=some (.int .u64 p2)∧w'.cell? ⟨k0,3,none⟩=some (.int .u64 p3)∧w'.cell? ⟨k0,4,none⟩=some (.int .u64 c0)∧w'.cell? ⟨k0,5,none⟩=some (.int .u64 c1)∧w'.cell? ⟨k0,6,none⟩=some (.int .u64 c2)∧w'.cell? ⟨k0,7,none⟩=some (.int .u64 c3)∧w'.cell? ⟨k8,0,none⟩=some (.int .u64 ra)∧w'.cell? ⟨k8,1,none⟩=some (.int .u64 rb)∧w'.cell? ⟨k8,2,none⟩=some (.int .u64 rc)∧w'.cell? ⟨k8,3,none⟩=some (.int .u64 rd)∧w'.cell? ⟨k1,0,none⟩=some (.int .u64 a)∧w'.cell? ⟨k1,1,none⟩=some (.int .u64 b)∧w'.cell? ⟨k1,2,none⟩=some (.int .u64 c)∧w'.cell? ⟨k1,3,none⟩=some (.int .u64 d)∧Kept w k0 (⟨k8,0,ra,rb,rc,rd⟩ :: [⟨k0,0,p0,p1,p2,p3⟩,⟨k0,4,c0,c1,c2,c3⟩,⟨k1,0,a,b,c,d⟩,⟨k2,0,0,0,0,0⟩]) w') (first|(with_reducible exact zFN KP)|(with_reducible exact zFN KP.drew)|fail) (first|(go_at_call 47;refine (zGJ HR.out HF.out HF.out _).mono ?_;rintro e w5 ⟨v,rfl,hb1,hF3⟩;rw[heq] at hF3;obtain rfl:=hF3.inj HX.out;clear hF3;(first|(with_reducible (have KP1:=KP.drew.call hb1))|(with_reducible (have KP1:=KP.call hb1))|fail);clear KP hb1;have KP:=KP1;clear KP1))
    have HEQ:Hid (R*R%P=m):=heq
    clear heq
    rename_i hHeld
    clear hHeld
    obtain ⟨ra',rb',rc',rd',e',hra,-⟩:=id HF.out
    obtain ⟨rfl,-⟩:ra'=ra∧True:=by
     simp only[Value.agg.injEq,Array.mk.injEq,List.cons.injEq,Value.int.injEq,true_and,and_true,Int.ofNat_inj] at e'
     exact ⟨e'.1.symm,trivial⟩
    clear e'
    have hodd2:R%2=ra'%2:=by
     obtain ⟨x1,x2,x3,x4,e',-,-,-,-,h5⟩:=id HF.out
     simp only[Value.agg.injEq,Array.mk.injEq,List.cons.injEq,Value.int.injEq,true_and,and_true,Int.ofNat_inj] at e'
     rw[h5,← e'.1]
     unfold val
     omega
    have hand:=and_one ra' hra
    obtain ⟨tc0,tc1,tc2,tc3,tf⟩:=KP.head.at4
    have zt:=KP.head.lt
    obtain ⟨uc0,uc1,uc2,uc3,uf⟩:=KP.tail.tail.tail.tail.head.at4
    have zu:=KP.tail.tail.tail.tail.head.lt
    have h2:ra'%2=0∨ra'%2=1:=by omega
    rcases h2 with h|h
    ·rw[h] at hand hodd2
     have HF8:Hid (Four (.agg #[.int .u64 ra',.int .u64 rb,.int .u64 rc,.int .u64 rd]) (even P R)):=by
      have h1:even P R=R:=by unfold even;rw[if_neg (by omega)]
      unfold Hid
      rw[h1]
      exact HF.out
     clear h hodd2 hra
     go_wp2
     have RF:=KP.tail.tail.tail.tail.head.at4.self4 ra' rb rc rd
     unfold set4 at RF
     refine bodyPost_ret (v:=?v) ?hr rfl ?hR
     case hr=>simp[results,Tryz.results172,go_sem,RF.c0,RF.c1,RF.c2,RF.c3];rfl
     refine ⟨_,rfl,?_,RootR.yes HEQ.out HF8.out⟩
     rw[H0.out]
     exact zAc KP.bl Q2.out _ _ _ _
    ·rw[h] at hand hodd2
     have HO:Hid (R%2=1):=hodd2
     clear h hodd2 hra
     obtain ⟨fc0,fc1,fc2,fc3,ff⟩:=KP.tail.head.at4
     have fb:=KP.tail.tail.head
     have fd0:w5.cell? ⟨k0,4,none⟩=some (.int .u64 c0):=fb.c0
     have fd1:w5.cell? ⟨k0,5,none⟩=some (.int .u64 c1):=fb.c1
     have fd2:w5.cell? ⟨k0,6,none⟩=some (.int .u64 c2):=fb.c2
     have fd3:w5.cell? ⟨k0,7,none⟩=some (.int .u64 c3):=fb.c3
     have zf:=KP.tail.head.lt
     go_wp2_with fail
     clear tc0 tc1 tc2 tc3 tf zt uc0 uc1 uc2 uc3 uf zu fc0 fc1 fc2 fc3 ff fb fd0 fd1 fd2 fd3 zf hand
     refine (zFX p0 p1 p2 p3 c0 c1 c2 c3 P _ _ HR.out HF.out HRP.out _).mono ?_
     rintro e w8 ⟨v,rfl,hb8,hF8⟩
     obtain ⟨sa,sb,sc,sd,rfl,-⟩:=id hF8
     have HF8:Hid (Four (.agg #[.int .u64 sa,.int .u64 sb,.int .u64 sc,.int .u64 sd]) (even P R)):=by
      have h1:(P-R)%P=even P R:=by
       unfold even
       rw[if_pos HO.out]
       exact Nat.mod_eq_of_lt (by have:=HRP.out;have:=HO.out;omega)
      unfold Hid
      rw[← h1]
      exact hF8
     replace KP:=KP.call hb8
     clear hb8 hF8
     obtain ⟨tc0,tc1,tc2,tc3,tf⟩:=KP.head.at4
     have zt:=KP.head.lt
     obtain ⟨uc0,uc1,uc2,uc3,uf⟩:=KP.tail.tail.tail.tail.head.at4
     have zu:=KP.tail.tail.tail.tail.head.lt
     go_wp2
     have RF:=(KP.tail.tail.tail.tail.head.at4.other4 n82 (.int .u64 sa) (.int .u64 sb) (.int .u64 sc) (.int .u64 sd)).self4 sa sb sc sd
     unfold set4 at RF
     refine bodyPost_ret (v:=?v2) ?hr2 rfl ?hR2
     case hr2=>simp[results,Tryz.results172,go_sem,RF.c0,RF.c1,RF.c2,RF.c3];rfl
     refine ⟨_,rfl,?_,RootR.yes HEQ.out HF8.out⟩
     rw[H0.out]
     exact zAc (zAc KP.bl Q8.out _ _ _ _) Q2.out _ _ _ _
   ·go_region_held3 (fun w'=>w'.cell? ⟨k0,0,none⟩=some (.int .u64 p0)∧w'.cell? ⟨k0,1,none⟩=some (.int .u64 p1)∧w'.cell? ⟨k0,2,none⟩=some (.int .u64 p2)∧w'.cell? ⟨k0,3,none⟩=some (.int .u64 p3)∧w'.cell? ⟨k0,4,none⟩=some (.int .u64 c0)∧w'.cell? ⟨k0,5,none⟩=some (.int .u64 c1)∧w'.cell? ⟨k0,6,none⟩=some (.int .u64 c2)∧w'.cell? ⟨k0,7,none⟩=some (.int .u64 c3)∧w'.cell? ⟨k8,0,none⟩=some (.int .u64 ra)∧w'.cell? ⟨k8,1,none⟩=some (.int .u64 rb)∧w'.cell? ⟨k8,2,none⟩=some (.int .u64 rc)∧w'.cell? ⟨k8,3,none⟩=some (.int .u64 rd)∧w'.cell? ⟨k1,0,none⟩=some (.int .u64 a)∧w'.cell? ⟨k1,1,none⟩=some (.int .u64 b)∧w'.cell? ⟨k1,2,none⟩=some (.int .u64 c)∧w'.cell? ⟨k1,3,none⟩=some (.int .u64 d)∧Kept w k0 (⟨k8,0,ra,rb,rc,rd⟩ :: [⟨k0,0,p0,p1,p2,p3⟩,⟨k0,4,c0,c1,c2,c3⟩,⟨k1,0,a,b,c,d⟩,⟨k2,0,0,0,0,0⟩]) w') (first|(with_reducible exact zFN KP)|(with_reducible exact zFN KP.drew)|fail) (first|(go_at_call 47;refine (zGJ HR.out HF.out HF.out _).mono ?_;rintro e w5 ⟨v,rfl,hb1,hF3⟩;obtain ⟨ta,tb,tc,td,rfl,hne⟩:=four_ne hF3 HX.out heq;have hoth:=zOO hne;clear hF3;(first|(with_reducible (have KP1:=KP.drew.call hb1))|(with_reducible (have KP1:=KP.call hb1))|fail);clear KP hb1;have KP:=KP1;clear KP1))
    have HEQ:Hid (¬ R*R%P=m):=heq
    clear heq
    rename_i hHeld
    clear hHeld
    obtain ⟨uc0,uc1,uc2,uc3,uf⟩:=KP.tail.tail.tail.tail.head.at4
    have zu:=KP.tail.tail.tail.tail.head.lt
    go_wp2
    have RF:At4 (set4 w5 k2 (.int .u64 0) (.int .u64 0) (.int .u64 0) (.int .u64 0)) k2 0 0 0 0:=KP.tail.tail.tail.tail.head.at4.self4 0 0 0 0
    unfold set4 at RF
    refine bodyPost_ret (v:=?v3) ?hr3 rfl ?hR3
    case hr3=>simp[results,Tryz.results172,go_sem,RF.c0,RF.c1,RF.c2,RF.c3];rfl
    refine ⟨_,rfl,?_,RootR.no HEQ.out⟩
    rw[H0.out]
    exact zAc KP.bl Q2.out _ _ _ _
def wordOf (a b c d k:Nat):Nat:=if k<8 then a else if k<16 then b else if k<24 then c else d
end
section
open Go.RowKit Go.Sort Go.Deep
structure Ord (N:Nat):Prop where
 gap:Gap 4624529908474429119 4994812053365940164 1 N
 ref:RefP 13822214165235122497 13451932020343611451 18446744073709551614 18446744073709551615 4624529908474429119 4994812053365940164 1 0 N
 le:N≤top
 n2:2≤N%18446744073709551616
variable {N:Nat}
theorem Ord.pos (O:Ord N):0<N:=by have:=O.n2;omega
theorem Ord.four (O:Ord N) {a:Nat} (h:a<N):Four (nv a) a:=zDD (Nat.lt_of_lt_of_le h O.le)
def sMi (N a b:Nat):Nat:=(a+N-b)%N
def sTi (N a b:Nat):Nat:=a*b%N
theorem Ord.ti (O:Ord N) (a b:Nat):sTi N a b<N:=Nat.mod_lt _ O.pos
theorem zL3 (O:Ord N) {a b:Nat} (ha:a<N) (hb:b<N):Gives 203 #[gv1,nv a,nv b] (nv (sMi N a b)):=fun w =>
 (zE3 _ _ _ N _ _ a b O.gap (O.four ha) (O.four hb) ha hb w).mono (by rintro e w' ⟨v,rfl,hb,hF⟩;exact ⟨_,rfl,hb,hF.nv⟩)
theorem zL2 (O:Ord N) {a b:Nat} (ha:a<N) (hb:b<N):Gives 146 #[gv1,nv a,nv b] (nv (sTi N a b)):=fun w =>
 (zDr _ _ _ N _ _ a b O.gap (O.four ha) (O.four hb) w).mono (by rintro e w' ⟨v,rfl,hb,hF⟩;exact ⟨_,rfl,hb,hF.nv⟩)
theorem zMr {a x y z u:Nat} (h:nv a=.agg #[.int .u64 x,.int .u64 y,.int .u64 z,.int .u64 u]):be32 x y z u=bx a:=by
 have h1:wn a=[.int .u64 x,.int .u64 y,.int .u64 z,.int .u64 u]:=by
  unfold nv at h
  injection h with h
  exact congrArg Array.toList h
 unfold wn at h1
 simp only[List.cons.injEq,Value.int.injEq,true_and,and_true,Int.natCast_inj] at h1
 obtain ⟨rfl,rfl,rfl,rfl⟩:=h1
 rfl
def cb (b:Bs):List Value:=b.toList.map encB
theorem zDp (b:Bs):(cb b).length=b.size:=by unfold cb;rw[List.length_map,Array.length_toList]
theorem zEf {w:World} {g:Nat} {b:Bs} (h:Holds encB w g 0 b):w.rangeAt g 0 (cb b)∧w.there g 0 (cb b).length:=by
 refine ⟨fun j v hv=>?_,fun j hj=>?_⟩
 ·have hj:j<b.size:=by rw[← zDp];exact (List.getElem?_eq_some_iff.1 hv).1
  rw[(h j hj).1]
  unfold cb at hv
  rw[List.getElem?_map,Array.getElem?_toList,Array.getElem?_eq_getElem hj] at hv
  rw[getElem!_pos b j hj]
  exact hv
 ·rw[zDp] at hj
  exact ⟨by rw[(h j hj).1];rfl,(h j hj).2⟩
theorem zGf {w:World} {g:Nat} {b:Bs} (h1:w.rangeAt g 0 (cb b)) (h2:w.there g 0 (cb b).length):Holds encB w g 0 b:=fun j hj=>by
 refine ⟨h1 j _ ?_,(h2 j (by rw[zDp];exact hj)).2⟩
 unfold cb
 rw[List.getElem?_map,Array.getElem?_toList,Array.getElem?_eq_getElem hj,getElem!_pos b j hj]
 rfl
def zNF (f:FuncId) (args:Array Value) (b:Bs) (n:Nat):Prop:=∀ w,Calls Tryz.prog f args w (Ret fun e w'=>∃ k,RG.Made w k (cb b) w'∧e=.slice (some ⟨k,0,none⟩) n n)
theorem zL4 (O:Ord N) {a:Nat} (ha:a<N):zNF 94 #[nv a] (bx a) 32:=fun w =>
 (zHa _ a w (O.four ha)).mono (by
  rintro e w' ⟨v,rfl,hb,g,x,y,z,u,rfl,hle,he,hH⟩
  rw[zMr he] at hH
  obtain ⟨h1,h2⟩:=zEf hH
  exact ⟨_,rfl,g,⟨hb,hle,Holds.lt hH (by rw[zA3];omega),h1,h2⟩,rfl⟩)
end
section
open Go.RowKit Go.Sort Go.Deep
variable {P:Nat} [NeZero P] {N:Nat}
theorem eqS2 (a b c d p q r s:Nat) (w:World):(binOp .eql 49 (.agg #[.int .u64 a,.int .u64 b,.int .u64 c,.int .u64 d]) (.agg #[.int .u64 p,.int .u64 q,.int .u64 r,.int .u64 s])).run Tryz.prog w=.ok (.bool (decide (a=p∧b=q∧c=r∧d=s))) w:=by
 go_simp
 rw[zML 9997,Result.andThen_ok]
 by_cases h1:a=p∧b=q∧c=r∧d=s
 ·rw[decide_eq_true h1]
  obtain ⟨rfl,rfl,rfl,rfl⟩:=h1
  simp
 ·have h2:(decide (a=p) && (decide (b=q) && (decide (c=r) && decide (d=s))))=false:=by
   rw[← Bool.not_eq_true,Bool.and_eq_true,Bool.and_eq_true,Bool.and_eq_true]
   simpa using h1
  rw[decide_eq_false h1,h2]
  simp
theorem eqS {a b:Nat} (ha:a<top) (hb:b<top) (w:World):(binOp .eql 49 (nv a) (nv b)).run Tryz.prog w=.ok (.bool (decide (a=b))) w:=by
 refine (eqS2 (a%18446744073709551616) (a/18446744073709551616%18446744073709551616) (a/340282366920938463463374607431768211456%18446744073709551616) (a/6277101735386680763835789423207666416102355444464034512896%18446744073709551616) (b%18446744073709551616) (b/18446744073709551616%18446744073709551616) (b/340282366920938463463374607431768211456%18446744073709551616) (b/6277101735386680763835789423207666416102355444464034512896%18446744073709551616) w).trans ?_
 simp only[zFd ha hb]
theorem u40:(Tryz.prog.underlying 49).map (·.isRow)=some true:=by kernel_rfl
theorem i40:(Tryz.prog.info? 49).map (·.size)=some 4:=by kernel_rfl
theorem u38:(Tryz.prog.underlying 47).map (·.isRow)=some true:=by kernel_rfl
theorem i38:(Tryz.prog.info? 47).map (·.size)=some 4:=by kernel_rfl
theorem u44:(Tryz.prog.underlying 60).map (·.isRow)=some true:=by kernel_rfl
theorem i44:(Tryz.prog.info? 60).map (·.size)=some 4:=by kernel_rfl
theorem zPP (O:Ord N) (a b:Nat) (ha:a<N) (hb:b<N):Gives 194 #[(nv a),(nv b)] (nv (sMi N a b)):=by
 intro w
 go_enter Tryz.func194,Tryz.ntmps194
 refine RG.M.enter [(0,(.v (nv a))),(1,(.v (nv b)))] 12 (by kernel_rfl) ?_
 intro a0 M0
 repeat refine wp_seq ?_
 refine M0.t [.m 2 [] 0,.m 3 [] 1,.m 4 [] 2] [(0,(wn a)),(1,(wn b)),(2,(RG.z 4))] [] [(wn a),(wn b),(RG.z 4)] [(2,(.p 0 0)),(3,(.p 1 0)),(4,(.p 2 0))] ⟨RG.mk 0 49,RG.mk 1 49,RG.mk 2 49,trivial⟩ ?_
 intro j1 i1 m1 a1 w1 M1
 repeat refine wp_seq ?_
 refine M1.d [.c 5 [] gv1,.s 6 [] (.p 0 0),.x 7 [(6,1)] (nv a),.s 8 [] (.p 1 0),.x 9 [(8,3)] (nv b),.c 10 [(5,0),(7,2),(9,4)] (nv (sMi N a b)),.x 11 [(10,5)] (nv (sMi N a b)),.u [(11,6)] 2] [] [(2,7,(wn (sMi N a b)))] [(wn a),(wn b),(wn (sMi N a b))] [(4,(.p 2 0))] ⟨RG.cl (zBE),RG.st,RG.ld u38 i38,RG.st,RG.ld u38 i38,RG.cl (zL3 O ha hb),RG.st,RG.pt i40,trivial⟩ ?_
 intro a2 w2 M2
 refine wp_ret ?_
 refine bodyPost_ret (v:=(nv (sMi N a b))) (RG.zAb M2.st 4 49 rfl 2 _ rfl (M2.at (s:=(.p 2 0))) u40 i40) M2.sl.defers ?_
 exact ⟨_,rfl,M2.st.bel.below,rfl⟩
theorem zNh (O:Ord N) (a b:Nat) (ha:a<N) (hb:b<N):Gives 93 #[(nv a),(nv b)] (nv (sTi N a b)):=by
 intro w
 go_enter Tryz.func93,Tryz.ntmps93
 refine RG.M.enter [(0,(.v (nv a))),(1,(.v (nv b)))] 12 (by kernel_rfl) ?_
 intro a0 M0
 repeat refine wp_seq ?_
 refine M0.t [.m 2 [] 0,.m 3 [] 1,.m 4 [] 2] [(0,(wn a)),(1,(wn b)),(2,(RG.z 4))] [] [(wn a),(wn b),(RG.z 4)] [(2,(.p 0 0)),(3,(.p 1 0)),(4,(.p 2 0))] ⟨RG.mk 0 49,RG.mk 1 49,RG.mk 2 49,trivial⟩ ?_
 intro j1 i1 m1 a1 w1 M1
 repeat refine wp_seq ?_
 refine M1.d [.c 5 [] gv1,.s 6 [] (.p 0 0),.x 7 [(6,1)] (nv a),.s 8 [] (.p 1 0),.x 9 [(8,3)] (nv b),.c 10 [(5,0),(7,2),(9,4)] (nv (sTi N a b)),.x 11 [(10,5)] (nv (sTi N a b)),.u [(11,6)] 2] [] [(2,7,(wn (sTi N a b)))] [(wn a),(wn b),(wn (sTi N a b))] [(4,(.p 2 0))] ⟨RG.cl (zBE),RG.st,RG.ld u38 i38,RG.st,RG.ld u38 i38,RG.cl (zL2 O ha hb),RG.st,RG.pt i40,trivial⟩ ?_
 intro a2 w2 M2
 refine wp_ret ?_
 refine bodyPost_ret (v:=(nv (sTi N a b))) (RG.zAb M2.st 4 49 rfl 2 _ rfl (M2.at (s:=(.p 2 0))) u40 i40) M2.sl.defers ?_
 exact ⟨_,rfl,M2.st.bel.below,rfl⟩
theorem zN4 (v:Value) (m:Nat) (ok:Bool) (w:World) (hrd:∀ w',RG.BelX w.heap.size [] w w'→Calls Tryz.prog 120 #[gv1,v] w' (Ret fun e w''=>Below w'.heap.size w' w''∧e=.tuple #[nv m,.bool ok])) :
 Calls Tryz.prog 66 #[v] w (Ret fun e w'=>Below w.heap.size w w'∧e=.tuple #[nv m,.bool ok]):=by
 go_enter Tryz.func66,Tryz.ntmps66
 refine RG.M.enter [(0,.v v)] 15 (by kernel_rfl) ?_
 intro a0 M0
 repeat refine wp_seq ?_
 refine M0.t [.m 2 [] 0,.x 3 [] (.bool false)] [(0,(RG.z 4))] [] [(RG.z 4)] [(0,(.v v)),(2,(.p 0 0)),(3,(.v (.bool false)))] ⟨RG.mk 0 49,RG.st,trivial⟩ ?_
 intro j1 a1 w1 M1
 repeat refine wp_seq ?_
 refine M1.t [.c 7 [] gv1,.x 8 [] v,.c 9 [(7,0),(8,1)] (.tuple #[(nv m),(.bool ok)]),.x 6 [(9,2)] (.tuple #[(nv m),(.bool ok)]),.x 10 [(6,3)] (nv m),.x 11 [(6,3)] (.bool ok),.m 4 [] 1,.u [(4,6),(10,4)] 1,.x 5 [(11,5)] (.bool ok)] [(6,(RG.z 4))] [(1,7,(wn m))] [(RG.z 4),(wn m)] [(2,(.p 0 0)),(3,(.v (.bool false))),(4,(.p 1 0)),(5,(.v (.bool ok)))] ⟨RG.cl (zBE),RG.st,RG.clB (fun _ _=>by kernel_rfl) hrd,RG.st,RG.st,RG.st,RG.mk 1 47,RG.pt i38,RG.st,trivial⟩ ?_
 intro j2 a2 w2 M2
 repeat refine wp_seq ?_
 refine M2.t [.x 12 [] (nv m),.x 13 [(12,0)] (nv m),.x 14 [] (.bool ok),.u [(13,1)] 0,.x 3 [(14,2)] (.bool ok)] [] [(0,3,(wn m))] [(wn m),(wn m)] [(2,(.p 0 0)),(3,(.v (.bool ok)))] ⟨RG.ld u38 i38,RG.st,RG.st,RG.pt i40,RG.st,trivial⟩ ?_
 intro a3 w3 M3
 refine wp_ret ?_
 refine bodyPost_ret (v:=.tuple #[nv m,.bool ok]) (RG.zAj M3.st 2 3 49 rfl 0 _ rfl (M3.at (s:=.p 0 0)) _ (M3.av (v:=.bool ok) (by kernel_rfl)) u40 i40) M3.sl.defers ?_
 exact ⟨_,rfl,M3.st.bel.below,rfl⟩
theorem zJP (O:Ord N) (v:Value) (bs:Bs) (w:World) (hv:Arg w v bs):Calls Tryz.prog 66 #[v] w (Ret fun e w'=>Below w.heap.size w w'∧e=.tuple #[nv ((rq N bs).getD 0),.bool (rq N bs).isSome]):=by
 refine zN4 v _ _ w fun w' hb=>?_
 have h:=zHt O.gap v bs w' (hv.below hb.below)
 cases hr:rq N bs with
 | none=>rw[hr] at h;exact h
 | some n=>rw[hr] at h;exact h
theorem zIi (O:Ord N) {a:Nat} (ha:a<N):zNF 39 #[nv a] (bx a) 32:=by
 intro w
 go_enter Tryz.func39,Tryz.ntmps39
 refine RG.M.enter [(0,.v (nv a))] 6 (by kernel_rfl) ?_
 intro a0 M0
 repeat refine wp_seq ?_
 refine M0.t [.m 1 [] 0,.x 2 [] (.slice none 0 0)] [(0,(wn a))] [] [(wn a)] [(1,(.p 0 0)),(2,(.v (.slice none 0 0)))] ⟨RG.mk 0 49,RG.st,trivial⟩ ?_
 intro j1 a1 w1 M1
 repeat refine wp_seq ?_
 refine M1.t [.s 3 [] (.p 0 0),.x 4 [(3,0)] (nv a),⟨some 5,[(4,1)],(.s 1 32 32),.make 1⟩,.s 2 [(5,2)] (.s 1 32 32)] [(2,(cb (bx a)))] [] [(wn a),(cb (bx a))] [(2,(.s 1 32 32))] ⟨RG.st,RG.ld u38 i38,RG.cm 1 (fun w _=>zL4 O ha w) fun _ _=>by kernel_rfl,RG.st,trivial⟩ ?_
 intro j2 a2 w2 M2
 refine wp_ret ?_
 refine bodyPost_ret (v:=_) (RG.zAq 2 rfl _ (M2.at (s:=.s 1 32 32))) M2.sl.defers ?_
 exact ⟨_,rfl,_,M2.st.made (b:=1) rfl,rfl⟩
theorem zOA (O:Ord N) (s:ByteArray):Gives 63 #[.string s] (.tuple #[nv (nuV s.data),.bool (rq N s.data).isSome]):=by
 intro w
 have hnum:=zP1 O.ref s
 obtain ⟨m,hm⟩:∃ m,m=nuV s.data:=⟨_,rfl⟩
 obtain ⟨ok,hok⟩:∃ b,b=(rq N s.data).isSome:=⟨_,rfl⟩
 rw[← hm,← hok] at hnum ⊢
 go_enter Tryz.func63,Tryz.ntmps63
 refine RG.M.enter [(0,.v (.string s))] 9 (by kernel_rfl) ?_
 intro a0 M0
 repeat refine wp_seq ?_
 refine M0.t [.m 2 [] 0,.x 3 [] (.bool false)] [(0,(RG.z 4))] [] [(RG.z 4)] [(0,(.v (.string s))),(2,(.p 0 0)),(3,(.v (.bool false)))] ⟨RG.mk 0 60,RG.st,trivial⟩ ?_
 intro j1 a1 w1 M1
 repeat refine wp_seq ?_
 refine M1.t [.c 4 [] rv1,.x 5 [] (.string s),.c 6 [(4,0),(5,1)] (.tuple #[(nv m),(.bool ok)]),.x 7 [(6,2)] (nv m),.x 8 [(6,2)] (.bool ok),.u [(7,3)] 0,.x 3 [(8,4)] (.bool ok)] [] [(0,5,(wn m))] [(wn m)] [(2,(.p 0 0)),(3,(.v (.bool ok)))] ⟨RG.cl (Q3_c),RG.st,RG.cl (hnum),RG.st,RG.st,RG.pt i44,RG.st,trivial⟩ ?_
 intro a2 w2 M2
 refine wp_ret ?_
 refine bodyPost_ret (v:=.tuple #[nv m,.bool ok]) (RG.zAj M2.st 2 3 60 rfl 0 _ rfl (M2.at (s:=.p 0 0)) _ (M2.av (v:=.bool ok) (by kernel_rfl)) u44 i44) M2.sl.defers ?_
 exact ⟨_,rfl,M2.st.bel.below,rfl⟩
end
namespace SP
open Go.RowKit
theorem lt64 (x:BitVec 64):(x.toNat:Int)<18446744073709551616:=by
 have:=x.isLt
 omega
theorem zAY (x:BitVec 64):BitVec.ofInt 64 (x.toNat:Int)=x:=by
 apply BitVec.eq_of_toNat_eq
 rw[BitVec.ofInt_natCast,BitVec.toNat_ofNat]
 exact Nat.mod_eq_of_lt x.isLt
theorem zBf (x:BitVec 64):IntKind.u64.wrap (x.toNat:Int)=x.toNat:=by
 rw[IntKind.wrap_u64]
 have:=lt64 x
 exact Int.emod_eq_of_lt (by omega) this
def u (v:BitVec 64):Int:=(v.toNat:Int)
theorem zAS (a b:BitVec 64):bits .xor .u64 (u a) (u b)=u (a ^^^ b):=by
 show IntKind.u64.wrap ((BitVec.ofInt 64 (a.toNat:Int) ^^^ BitVec.ofInt 64 (b.toNat:Int)).toNat:Int)=_
 rw[zAY,zAY,zBf]
 rfl
theorem zA0 (a b:BitVec 64):bits .and .u64 (u a) (u b)=u (a &&& b):=by
 show IntKind.u64.wrap ((BitVec.ofInt 64 (a.toNat:Int) &&& BitVec.ofInt 64 (b.toNat:Int)).toNat:Int)=_
 rw[zAY,zAY,zBf]
 rfl
theorem zAX (a b:BitVec 64):bits .or .u64 (u a) (u b)=u (a ||| b):=by
 show IntKind.u64.wrap ((BitVec.ofInt 64 (a.toNat:Int) ||| BitVec.ofInt 64 (b.toNat:Int)).toNat:Int)=_
 rw[zAY,zAY,zBf]
 rfl
theorem zDG (a:BitVec 64):bits .xor .u64 IntKind.u64.max (u a)=u (~~~a):=by
 have e:IntKind.u64.max=u (BitVec.allOnes 64):=by decide +kernel
 rw[e,zAS,BitVec.allOnes_xor]
theorem zR8 (k:Nat) (hk:k<64):bits .and .u64 (k:Int) 63=k:=by
 have h:∀ j:Fin 64,bits .and .u64 ((j.val:Nat):Int) 63=(j.val:Int):=by decide +kernel
 exact h ⟨k,hk⟩
theorem zIT (x:BitVec 64) (k:Nat):IntKind.u64.wrap (u x*2^k)=u (x <<< k):=by
 unfold u
 rw[IntKind.wrap_u64,BitVec.toNat_shiftLeft,Nat.shiftLeft_eq,Int.natCast_emod,Int.natCast_mul,Int.natCast_pow]
 rfl
theorem zL1 (x:BitVec 64) (k:Nat):u x/2^k=u (x >>> k):=by
 unfold u
 rw[BitVec.toNat_ushiftRight,Nat.shiftRight_eq_div_pow,Int.natCast_ediv,Int.natCast_pow]
 rfl
def rol (w:BitVec 64) (n:Nat):BitVec 64:=w <<< n ||| w >>> (64-n)
abbrev St:=Array (BitVec 64)
def enc (v:BitVec 64):Value:=.int .u64 (u v)
def zK8 (d:St) (x:Nat):BitVec 64:=d[x]! ^^^ d[x+5]! ^^^ d[x+10]! ^^^ d[x+15]! ^^^ d[x+20]!
def zC8 (d:St):Nat→St
 | 0=>#[0,0,0,0,0]
 | k+1=>(zC8 d k).setIfInBounds k (zK8 d k)
def zAH (d:St) (i:Nat) (v:BitVec 64):St:=d.setIfInBounds i (d[i]! ^^^ v)
def zC1 (v:BitVec 64) (x:Nat) (d:St):Nat→St
 | 0=>d
 | m+1=>zAH (zC1 v x d m) (x+5*m) v
def dcol (s:St) (x:Nat):BitVec 64:=s[(x+4)%5]! ^^^ rol s[(x+1)%5]! 1
def zCl (s d:St):Nat→St
 | 0=>d
 | k+1=>zC1 (dcol s k) k (zCl s d k) 5
def zGs (d:St):St:=zCl (zC8 d 5) d 5
theorem zAG (d:St) (i:Nat) (v:BitVec 64):(zAH d i v).size=d.size:=by simp[zAH]
theorem zEm (d:St) (k:Nat):(zC8 d k).size=5:=by
 induction k with
 | zero=>rfl
 | succ k ih=>simp[zC8,ih]
theorem zDW (v:BitVec 64) (x:Nat) (d:St) (m:Nat):(zC1 v x d m).size=d.size:=by
 induction m with
 | zero=>rfl
 | succ k ih=>simp[zC1,zAG,ih]
theorem zDK (s d:St) (m:Nat):(zCl s d m).size=d.size:=by
 induction m with
 | zero=>rfl
 | succ k ih=>simp[zCl,zDW,ih]
structure Tm where
 x:Nat
 y:Nat
 m:BitVec 64
 d:St
def offs (t:Nat):Nat:=(t+1)*(t+2)/2%64
def zJJ (t:Nat) (s:Tm):Tm:=
 { x:=s.y,y:=(2*s.x+3*s.y)%5,m:=s.d[s.y+5*((2*s.x+3*s.y)%5)]!,d:=s.d.setIfInBounds (s.y+5*((2*s.x+3*s.y)%5)) (rol s.m (offs t)) }
def tmTo (d:St):Nat→Tm
 | 0=>{ x:=1,y:=0,m:=d[1]!,d:=d }
 | t+1=>zJJ t (tmTo d t)
def zFQ (d:St):St:=(tmTo d 24).d
theorem zJI (d:St) (hd:d.size=25) (t:Nat):(tmTo d t).x<5∧(tmTo d t).y<5∧(tmTo d t).d.size=25:=by
 induction t with
 | zero=>exact ⟨show 1<5 by decide,show 0<5 by decide,hd⟩
 | succ t ih =>
  obtain ⟨h1,h2,h3⟩:=ih
  refine ⟨h2,?_,?_⟩
  ·show (2*(tmTo d t).x+3*(tmTo d t).y)%5<5
   omega
  ·show ((tmTo d t).d.setIfInBounds _ _).size=25
   rw[Array.size_setIfInBounds,h3]
def rowAt (d:St) (i:Nat):St:=
 zAH (zAH (zAH (zAH (zAH d i (~~~d[i+1]! &&& d[i+2]!)) (i+1) (~~~d[i+2]! &&& d[i+3]!)) (i+2) (~~~d[i+3]! &&& d[i+4]!)) (i+3) (~~~d[i+4]! &&& d[i]!)) (i+4) (~~~d[i]! &&& d[i+1]!)
def zHU (d:St):Nat→St
 | 0=>d
 | k+1=>rowAt (zHU d k) (5*k)
def chi (d:St):St:=zHU d 5
theorem zIX (d:St) (i:Nat):(rowAt d i).size=d.size:=by simp[rowAt,zAG]
theorem zFu (d:St) (k:Nat):(zHU d k).size=d.size:=by
 induction k with
 | zero=>rfl
 | succ k ih=>simp[zHU,zIX,ih]
end SP
namespace SP
open Go.RowKit
def zD2 (r:Nat):Nat:=if 255<2*r then (2*r) ^^^ 369 else 2*r
def rcTo (r:Nat):Nat→BitVec 64 × Nat
 | 0=>(0,r)
 | j+1=>((rcTo r j).1 ||| BitVec.ofNat 64 ((rcTo r j).2%2) <<< (2^j-1),zD2 (rcTo r j).2)
theorem zFW (r:Nat) (h:r<256):zD2 r<256:=by
 have H:∀ j:Fin 256,zD2 j.val<256:=by decide +kernel
 exact H ⟨r,h⟩
theorem zOr (r:Nat) (h:r<256) (j:Nat):(rcTo r j).2<256:=by
 induction j with
 | zero=>exact h
 | succ j ih=>exact zFW _ ih
theorem zNm (r:Nat) (h:r<256):bits .xor .i64 ((r:Int)*2) 369=(((2*r) ^^^ 369:Nat):Int):=by
 have H:∀ j:Fin 256,bits .xor .i64 ((j.val:Int)*2) 369=(((2*j.val) ^^^ 369:Nat):Int):=by decide +kernel
 exact H ⟨r,h⟩
theorem zNn (r:Nat) (h:r<256):bits .and .i64 (r:Int) 1=u (BitVec.ofNat 64 (r%2)):=by
 have H:∀ j:Fin 256,bits .and .i64 (j.val:Int) 1=u (BitVec.ofNat 64 (j.val%2)):=by decide +kernel
 exact H ⟨r,h⟩
theorem zEi (x:BitVec 64):IntKind.u64.wrap (u x)=u x:=zBf x
def zDV (d:St) (c:BitVec 64):St:=zAH (chi (zFQ (zGs d))) 0 c
def rcC (r:Nat):BitVec 64:=(rcTo r 7).1
def rcN (r:Nat):Nat:=(rcTo r 7).2
theorem zPY (r:Nat) (h:r<256):rcN r<256:=by
 unfold rcN
 exact zOr r h 7
def rcAt:Nat→Nat
 | 0=>1
 | k+1=>rcN (rcAt k)
theorem zOs (k:Nat):rcAt k<256:=by
 induction k with
 | zero=>decide
 | succ k ih=>exact zPY _ ih
def zDS (d:St):Nat→St
 | 0=>d
 | k+1=>zDV (zDS d k) (rcC (rcAt k))
def perm (d:St):St:=zDS d 24
theorem zBP (d:St):(zGs d).size=d.size:=zDK _ _ _
theorem zCz (d:St) (hd:d.size=25):(zFQ d).size=25:=(zJI d hd 24).2.2
theorem zIA (d:St):(chi d).size=d.size:=zFu _ _
theorem zHI (d:St) (c:BitVec 64) (hd:d.size=25):(zDV d c).size=25:=by
 unfold zDV
 rw[zAG,zIA,zCz]
 rw[zBP,hd]
theorem zCX (d:St) (hd:d.size=25) (k:Nat):(zDS d k).size=25:=by
 induction k with
 | zero=>exact hd
 | succ k ih=>exact zHI _ _ ih
theorem zED (d:St) (hd:d.size=25):(perm d).size=25:=zCX d hd 24
abbrev Bs:=Array UInt8
def ub (x:UInt8):Int:=(x.toNat:Int)
def encB (x:UInt8):Value:=.int .u8 (ub x)
def wide (x:UInt8):BitVec 64:=BitVec.ofNat 64 x.toNat
def low (v:BitVec 64):UInt8:=UInt8.ofNat v.toNat
theorem zNQ (x:UInt8):ub x=u (wide x):=by
 unfold ub u wide
 rw[BitVec.toNat_ofNat,Nat.mod_eq_of_lt]
 have:=x.toNat_lt
 omega
theorem zHb (x:UInt8):IntKind.u64.wrap (ub x)=u (wide x):=by rw[zNQ,zEi]
theorem zQn (v:BitVec 64):IntKind.u8.wrap (u v)=ub (low v):=by
 have e:IntKind.u8.wrap (u v)=u v%256:=by simp[IntKind.wrap,IntKind.bits,IntKind.signed]
 rw[e]
 unfold u ub low
 rw[UInt8.toNat_ofNat']
 omega
def zCJ (bs:Bs) (o:Nat):Nat→BitVec 64
 | 0=>0
 | i+1=>zCJ bs o i ||| wide bs[o+i]! <<< (8*i)
def wordOf (bs:Bs) (o:Nat):BitVec 64:=zCJ bs o 8
def zBV (bs:Bs) (d:St):Nat→St
 | 0=>d
 | i+1=>zAH (zBV bs d i) i (wordOf bs (8*i))
theorem zAZ (bs:Bs) (d:St) (k:Nat):(zBV bs d k).size=d.size:=by
 induction k with
 | zero=>rfl
 | succ k ih=>simp[zBV,zAG,ih]
def byteOf (d:St) (k:Nat):UInt8:=low (d[k/8]! >>> (8*(k%8)))
def zBb (d:St) (n:Nat):Nat→Bs
 | 0=>Array.replicate n 0
 | k+1=>(zBb d n k).setIfInBounds k (byteOf d k)
def front (d:St) (n:Nat):Bs:=zBb d n n
theorem zBI (d:St) (n k:Nat):(zBb d n k).size=n:=by
 induction k with
 | zero=>simp[zBb]
 | succ k ih=>simp[zBb,ih]
theorem zAl (d:St) (n:Nat):(front d n).size=n:=zBI d n n
end SP
namespace SP
open Go.RowKit Go.Sort
structure Only (b off n:Nat) (w w':World):Prop where
 os:w'.os=w.os
 tape:w'.tape=w.tape
 output:w'.output=w.output
 size:w.heap.size≤w'.heap.size
 block:∀ k,k<w.heap.size→k≠b→w'.heap[k]? = w.heap[k]?
 cell:∀ o,(o<off∨off+n≤o)→w'.cell? ⟨b,o,none⟩=w.cell? ⟨b,o,none⟩
 froz:∀ o,w'.frozen? ⟨b,o,none⟩=w.frozen? ⟨b,o,none⟩
variable {b off n:Nat} {w w1 w2:World}
theorem Only.refl (b off n:Nat) (w:World):Only b off n w w:=⟨rfl,rfl,rfl,Nat.le_refl _,fun _ _ _=>rfl,fun _ _=>rfl,fun _=>rfl⟩
theorem Only.trans (h:Only b off n w w1) (k:Only b off n w1 w2):Only b off n w w2:=
 ⟨k.os.trans h.os,k.tape.trans h.tape,k.output.trans h.output,Nat.le_trans h.size k.size,
  fun i hi hn=>(k.block i (Nat.lt_of_lt_of_le hi h.size) hn).trans (h.block i hi hn),
  fun o ho=>(k.cell o ho).trans (h.cell o ho),fun o=>(k.froz o).trans (h.froz o)⟩
theorem Only.drewN (h:Only b off n w w1) (q:Nat):Only b off n w (w1.drewN q):=⟨h.os,h.tape,h.output,h.size,h.block,h.cell,h.froz⟩
theorem Only.drew (h:Only b off n w w1):Only b off n w w1.drew:=⟨h.os,h.tape,h.output,h.size,h.block,h.cell,h.froz⟩
theorem Only.setCell (h:Only b off n w w1) {o:Nat} (h1:off≤o) (h2:o<off+n) (v:Value):Only b off n w (w1.setCell ⟨b,o,none⟩ v):=by
 refine h.trans ⟨rfl,rfl,rfl,by simp,fun k _ hn=>Below.heap_setCell _ _ _ _ hn,fun o' ho=>?_,fun o'=>by simp⟩
 exact World.cell?_setCell_other _ _ _ _ (by intro e;simp only[Addr.mk.injEq,and_true,true_and] at e;omega)
theorem Only.alloc (h:Only b off n w w1) (hb:b<w1.heap.size) (o:Obj):Only b off n w (w1.alloc o):=by
 refine h.trans ⟨rfl,rfl,rfl,by simp,fun k hk _=>Below.heap_alloc _ _ _ hk,fun o' _=>?_,fun o'=>?_⟩
 ·exact World.cell?_alloc_lt _ _ _ hb
 ·exact World.frozen?_alloc_old _ _ _ (by show b≠_;omega)
theorem Only.below (h:Only b off n w w1) {B:Nat} (hB:B≤w.heap.size) (hb:B≤b):Below B w w1:=
 ⟨h.os,h.tape,h.output,h.size,fun k hk=>h.block k (by omega) (by omega)⟩
theorem Only.of_below {B:Nat} (h:Below B w w1) (hB:B=w.heap.size) (hb:b<B):Only b off n w w1:=
 ⟨h.os,h.tape,h.output,h.size,fun k hk _=>h.block k (by omega),fun o _=>h.cell (p:=⟨b,o,none⟩) hb,fun o=>h.frozen (p:=⟨b,o,none⟩) hb⟩
theorem Only.other (h:Only b off n w w1) {c o:Nat} (hc:c≠b) (hs:c<w.heap.size):w1.cell? ⟨c,o,none⟩=w.cell? ⟨c,o,none⟩∧w1.frozen? ⟨c,o,none⟩=w.frozen? ⟨c,o,none⟩:=
 ⟨World.cell?_of_block (w:=w) (h.block c hs hc),World.frozen?_of_block (w:=w) (h.block c hs hc)⟩
theorem Only.fresh {o m:Nat} {x:Obj} (h:Only w.heap.size o m (w.alloc x) w1):Below w.heap.size w w1:=
 ((Below.refl _ _).alloc (Nat.le_refl _) x).trans (h.below (by simp) (Nat.le_refl _))
section
variable {α:Type} [Inhabited α] {enc:α→Value} {d:Array α}
theorem Holds.lt (h:Holds enc w b off d) (hd:0<d.size):b<w.heap.size:=World.block_lt_of_cell? _ _ (h 0 hd).1
theorem Holds.other {c o:Nat} (h:Holds enc w c o d) (k:Only b off n w w1) (hc:c≠b) (hd:0<d.size):Holds enc w1 c o d:=by
 intro j hj
 have:=h j hj
 have:=k.other (o:=o+j) hc (Holds.lt h hd)
 rw[this.1,this.2]
 exact h j hj
theorem Holds.same {o:Nat} (h:Holds enc w b o d) (k:Only b off n w w1) (hd:o+d.size≤off∨off+n≤o):Holds enc w1 b o d:=by
 intro j hj
 rw[k.cell _ (by omega),k.froz]
 exact h j hj
theorem Holds.below {B:Nat} (h:Holds enc w b off d) (k:Below B w w1) (hb:b<B):Holds enc w1 b off d:=by
 intro j hj
 rw[k.cell (p:=⟨b,off+j,none⟩) hb,k.frozen (p:=⟨b,off+j,none⟩) hb]
 exact h j hj
theorem Holds.drewN (h:Holds enc w b off d) (q:Nat):Holds enc (w.drewN q) b off d:=h
theorem Holds.drew (h:Holds enc w b off d):Holds enc w.drew b off d:=h
theorem Holds.set (h:Holds enc w b off d) {i:Nat} (hi:i<d.size) (x:α):Holds enc (w.setCell ⟨b,off+i,none⟩ (enc x)) b off (d.setIfInBounds i x):=by
 intro j hj
 rw[Array.size_setIfInBounds] at hj
 rw[World.frozen?_setCell]
 by_cases e:j=i
 ·subst e
  rw[getElem!_set_same d j x hi]
  exact ⟨World.cell?_setCell_same _ _ _ (h j hj).1,(h j hj).2⟩
 ·rw[getElem!_set_other d i j x e,World.cell?_setCell_other _ _ _ _ (by intro e';simp only[Addr.mk.injEq,and_true,true_and] at e';omega)]
  exact h j hj
theorem Holds.new (w:World) (t:TypeId) (d:Array α):Holds enc (w.alloc (.cells (d.map enc) t)) w.heap.size 0 d:=by
 intro j hj
 rw[World.cell?_alloc_new,World.frozen?_alloc_new]
 refine ⟨?_,rfl⟩
 simp only[Nat.zero_add,Array.getElem?_map,Array.getElem?_eq_getElem hj,Option.map_some,getElem!_pos d j hj]
theorem Holds.made (w:World) (t:TypeId) (n:Nat) (x:α):Holds enc (w.alloc (.cells (madeCells #[enc x] n) t)) w.heap.size 0 (Array.replicate n x):=by
 intro j hj
 rw[Array.size_replicate] at hj
 rw[World.cell?_alloc_new,World.frozen?_alloc_new]
 refine ⟨?_,rfl⟩
 rw[getElem!_pos _ j (by simpa using hj),Array.getElem_replicate]
 simp[madeCells,hj,Nat.mod_one]
end
theorem Holds.xor {d:St} (h:Holds enc w b off d) {i:Nat} (hi:i<d.size) {x:BitVec 64} (hx:d[i]! = x) (v:BitVec 64):Holds enc (w.setCell ⟨b,off+i,none⟩ (.int .u64 (u (x ^^^ v)))) b off (zAH d i v):=by
 unfold zAH
 rw[hx]
 exact Holds.set h hi (x ^^^ v)
theorem zAF (d:St) (i j:Nat) (v:BitVec 64) (h:j≠i):(zAH d i v)[j]! = d[j]!:=getElem!_set_other d i j _ h
end SP
namespace SP
open Go.RowKit Go.Sort
theorem mixed:Tryz.prog.follows .mixedOrders=true:=by kernel_rfl
theorem zAn {w:World} {b off:Nat} {d:St} (h:Holds enc w b off d) (i:Nat) (hi:i<d.size) {x:BitVec 64} (hx:d[i]! = x) :
 w.cell? ⟨b,off+i,none⟩=some (.int .u64 (u x))∧w.frozen? ⟨b,off+i,none⟩=false:=by
 rw[← hx];exact h i hi
theorem ret_int {k:IntKind} {a b:Int} (h:a=b):Ending.returned (.int k a)=.returned (.int k b):=by rw[h]
theorem zIk (x:BitVec 64) (k:Nat) (w:World) (hk:k<64) :
 Calls Tryz.prog 221 #[.int .u64 (u x),.int .i64 k] w fun e w'=>e=.returned (.int .u64 (u (rol x k)))∧w'=w:=by
 have h63:=zR8 k hk
 have h1:(0:Int)≤64-(k:Int):=by omega
 go_enter Tryz.func221,Tryz.ntmps221
 go_wp2
 go_ret
 refine ⟨ret_int ?_,rfl⟩
 rw[zIT,zL1,zAX]
 rfl
end SP
namespace SP
open Go.RowKit Go.Sort
theorem zHK (w:World) (t:TypeId):Holds enc (w.alloc (.cells #[.int .u64 0,.int .u64 0,.int .u64 0,.int .u64 0,.int .u64 0] t)) w.heap.size 0 (#[0,0,0,0,0]:St):=by
 have h:=Holds.new (enc:=enc) w t (#[0,0,0,0,0]:St)
 have e:Array.map enc (#[0,0,0,0,0]:St)=#[.int .u64 0,.int .u64 0,.int .u64 0,.int .u64 0,.int .u64 0]:=by simp[enc,u]
 rw[e] at h
 exact h
attribute [local go_sem] zAS zA0 zAX
theorem zE9 (b off:Nat) (d:St) (w:World) (hd:d.size=25) (hH:Holds enc w b off d) :
 Calls Tryz.prog 212 #[.pointer (some ⟨b,off,none⟩)] w fun e w'=>e=.returned (.tuple #[])∧Only b off 25 w w'∧Holds enc w' b off (zGs d):=by
 have hb:=Holds.lt hH (by omega)
 go_enter Tryz.func212,Tryz.ntmps212
 go_wp2
 generalize hW1:(w.alloc _)=W1
 go_loopg [7] 5 (fun g s7 wr=>∃ k sk,k+g=5∧s7=.int .i64 (k:Nat)∧Holds enc wr w.heap.size 0 sk∧Only w.heap.size 0 5 W1 wr∧Hid (sk=zC8 d k))
 case atStart =>
  refine ⟨0,#[0,0,0,0,0],rfl,rfl,?_,Only.refl _ _ _ _,rfl⟩
  rw[← hW1]
  exact zHK w 257
 case round =>
  obtain ⟨k,sk,hk,rfl,hS,hO,HE⟩:=hrel
  have hHw:Holds enc wr b off d:=Holds.other (by rw[← hW1];exact Holds.below hH ((Below.refl _ _).alloc (Nat.le_refl _) _) hb) hO (by omega) (by omega)
  by_cases hlt:k<5
  ·obtain ⟨x0,hx0⟩:∃ x,d[k]! = x:=⟨_,rfl⟩
   obtain ⟨x1,hx1⟩:∃ x,d[k+5]! = x:=⟨_,rfl⟩
   obtain ⟨x2,hx2⟩:∃ x,d[k+10]! = x:=⟨_,rfl⟩
   obtain ⟨x3,hx3⟩:∃ x,d[k+15]! = x:=⟨_,rfl⟩
   obtain ⟨x4,hx4⟩:∃ x,d[k+20]! = x:=⟨_,rfl⟩
   obtain ⟨x5,hx5⟩:∃ x,sk[k]! = x:=⟨_,rfl⟩
   have hss:sk.size=5:=by rw[HE.out,zEm]
   obtain ⟨c0,f0⟩:=zAn hHw k (by omega) hx0
   obtain ⟨c1,f1⟩:=zAn hHw (k+5) (by omega) hx1
   obtain ⟨c2,f2⟩:=zAn hHw (k+10) (by omega) hx2
   obtain ⟨c3,f3⟩:=zAn hHw (k+15) (by omega) hx3
   obtain ⟨c4,f4⟩:=zAn hHw (k+20) (by omega) hx4
   obtain ⟨c5,f5⟩:=zAn hS k (by omega) hx5
   rw[Nat.zero_add] at c5 f5
   have HX:Hid (zK8 d k=x0 ^^^ x1 ^^^ x2 ^^^ x3 ^^^ x4):=by rw[← hx0,← hx1,← hx2,← hx3,← hx4];rfl
   clear hx0 hx1 hx2 hx3 hx4 hx5 hHw
   have k5:(k:Int)<5:=by omega
   have b0:(k:Int)<25:=by omega
   have b1:(k:Int)+5<25:=by omega
   have b2:(k:Int)+10<25:=by omega
   have b3:(k:Int)+15<25:=by omega
   have b4:(k:Int)+20<25:=by omega
   have p1:0≤(k:Int)+5:=by omega
   have p2:0≤(k:Int)+10:=by omega
   have p3:0≤(k:Int)+15:=by omega
   have p4:0≤(k:Int)+20:=by omega
   have e1:((k:Int)+5).toNat=k+5:=by omega
   have e2:((k:Int)+10).toNat=k+10:=by omega
   have e3:((k:Int)+15).toNat=k+15:=by omega
   have e4:((k:Int)+20).toNat=k+20:=by omega
   have v1:IntKind.i64.wrap ((k:Int)+5)=(k:Int)+5:=IntWalk.i64_in _ (by omega)
   have v2:IntKind.i64.wrap ((k:Int)+10)=(k:Int)+10:=IntWalk.i64_in _ (by omega)
   have v3:IntKind.i64.wrap ((k:Int)+15)=(k:Int)+15:=IntWalk.i64_in _ (by omega)
   have v4:IntKind.i64.wrap ((k:Int)+20)=(k:Int)+20:=IntWalk.i64_in _ (by omega)
   go_wp2_with fail
   go_still_tail 35,mixed
   go_wp2
   go_roundg (gk-1)
   case measure=>omega
   case rel =>
    refine ⟨k+1,sk.setIfInBounds k (x0 ^^^ x1 ^^^ x2 ^^^ x3 ^^^ x4),by omega,by go_num,?_,?_,?_⟩
    ·have:=Holds.set hS (i:=k) (by omega) (x0 ^^^ x1 ^^^ x2 ^^^ x3 ^^^ x4)
     rw[Nat.zero_add] at this
     exact Holds.drew this
    ·exact (hO.setCell (Nat.zero_le _) (by omega) _).drew
    ·show _=(zC8 d k).setIfInBounds k (zK8 d k)
     rw[HX.out,HE.out]
  ·have hk5:k=5:=by omega
   subst hk5
   have HS:Hid (sk=zC8 d 5):=HE
   have hO2:Only b off 25 w wr:=by
    rw[← hW1] at hO
    exact Only.of_below hO.fresh rfl hb
   clear hk hlt HE hO hW1
   go_wp2
   go_loopg [46] 5 (fun g s46 wq=>∃ k dk,k+g=5∧s46=.int .i64 (k:Nat)∧Holds enc wq b off dk∧Only b off 25 wr wq∧Hid (dk=zCl sk d k))
   case atStart=>exact ⟨0,d,rfl,rfl,hHw,Only.refl _ _ _ _,rfl⟩
   case round =>
    obtain ⟨k,dk,hk,rfl,hD,hO,HE⟩:=hrel
    by_cases hlt:k<5
    ·have hss:sk.size=5:=by rw[HS.out,zEm]
     have hSw:=Holds.other hS hO (by omega) (by omega)
     obtain ⟨y0,hy0⟩:∃ x,sk[(k+4)%5]! = x:=⟨_,rfl⟩
     obtain ⟨y1,hy1⟩:∃ x,sk[(k+1)%5]! = x:=⟨_,rfl⟩
     obtain ⟨c0,f0⟩:=zAn hSw ((k+4)%5) (by omega) hy0
     obtain ⟨c1,f1⟩:=zAn hSw ((k+1)%5) (by omega) hy1
     rw[Nat.zero_add] at c0 c1
     have HD:Hid (dcol sk k=y0 ^^^ rol y1 1):=by rw[← hy0,← hy1];rfl
     clear hy0 hy1 f0 f1
     have k5:(k:Int)<5:=by omega
     go_wp2_with fail
     go_quiet ((go_at_call 221;exact Calls.quiet_of_same (zIk _ 1 _ (by decide))))
     clear c0 c1
     go_wp2
     have hO1:=hO.drewN nq
     have hD1:=Holds.drewN hD nq
     have hds:dk.size=25:=by rw[HE.out,zDK,hd]
     go_loopg [6] 5 (fun g s6 wq=>∃ m dm,m+g=5∧s6=.int .i64 ((k+5*m:Nat):Int)∧Holds enc wq b off dm∧Only b off 25 wr wq∧Hid (dm=zC1 (y0 ^^^ rol y1 1) k dk m))
     case atStart=>exact ⟨0,dk,rfl,rfl,hD1,(Only.refl _ _ _ _).drewN _,rfl⟩
     case round =>
      obtain ⟨m,dm,hm,rfl,hM,hOm,HM⟩:=hrel
      by_cases hlt2:m<5
      ·have hms:dm.size=25:=by rw[HM.out,zDW,hds]
       obtain ⟨z,hz⟩:∃ x,dm[k+5*m]! = x:=⟨_,rfl⟩
       obtain ⟨c,f⟩:=zAn hM (k+5*m) (by omega) hz
       have HZ:Hid (dm[k+5*m]! = z):=hz
       clear hz
       have r1:((k+5*m:Nat):Int)<25:=by omega
       generalize hi:k+5*m=i at *
       have Hi:Hid (k+5*m=i):=hi
       clear hi
       go_wp2_with fail
       go_still_tail 9,mixed
       go_wp2
       go_roundg (gk-1)
       case measure=>omega
       case rel =>
        refine ⟨m+1,dm.setIfInBounds i (z ^^^ (y0 ^^^ rol y1 1)),by omega,?_,?_,?_,?_⟩
        ·rw[← Hi.out];go_num
        ·exact Holds.drew (Holds.set hM (by omega) _)
        ·exact (hOm.setCell (Nat.le_add_right _ _) (by omega) _).drew
        ·show _=zAH (zC1 (y0 ^^^ rol y1 1) k dk m) (k+5*m) (y0 ^^^ rol y1 1)
         rw[← HM.out,Hi.out,← HZ.out]
         rfl
      ·have hm5:m=5:=by omega
       subst hm5
       have r1:(25:Int)≤((k+5*5:Nat):Int):=by omega
       generalize hi:k+5*5=i at *
       go_wp2
       go_roundg (4-k)
       case measure=>omega
       case rel =>
        refine ⟨k+1,dm,by omega,by go_num,hM,hO.trans hOm,?_⟩
        show _=zC1 (dcol sk k) k (zCl sk d k) 5
        rw[← HE.out,HD.out]
        exact HM.out
    ·have hk5:k=5:=by omega
     subst hk5
     go_wp2
     go_end0
     refine ⟨rfl,hO2.trans hO,?_⟩
     have:zGs d=dk:=by rw[HE.out,HS.out];rfl
     rw[this]
     exact hD
end SP
namespace SP
open Go.RowKit Go.Sort
attribute [local go_sem] zAS zA0 zAX
theorem zMq (t:Nat) (h:t<24):(wrap64 ((wrap64 (((t:Int)+1)*((t:Int)+2))).tdiv 2)).tmod 64=(offs t:Int):=by
 have H:∀ j:Fin 24,(wrap64 ((wrap64 (((j.val:Int)+1)*((j.val:Int)+2))).tdiv 2)).tmod 64=(offs j.val:Int):=by decide +kernel
 exact H ⟨t,h⟩
theorem zEk (b off:Nat) (d:St) (w:World) (hd:d.size=25) (hH:Holds enc w b off d) :
 Calls Tryz.prog 213 #[.pointer (some ⟨b,off,none⟩)] w fun e w'=>e=.returned (.tuple #[])∧Only b off 25 w w'∧Holds enc w' b off (zFQ d):=by
 obtain ⟨x1,hx1⟩:∃ x,d[1]! = x:=⟨_,rfl⟩
 obtain ⟨c1,f1⟩:=zAn hH 1 (by omega) hx1
 go_enter Tryz.func213,Tryz.ntmps213
 go_wp2
 go_loopg [2,3,4,12] 24 (fun g sx sy sm st wr=>∃ t T,t+g=24∧st=.int .i64 (t:Nat)∧sx=.int .i64 (T.x:Nat)∧sy=.int .i64 (T.y:Nat)∧sm=.int .u64 (u T.m)∧Holds enc wr b off T.d∧Only b off 25 w wr∧Hid (T=tmTo d t))
 case atStart=>exact ⟨0,tmTo d 0,rfl,rfl,rfl,rfl,by rw[← hx1];rfl,hH,Only.refl _ _ _ _,rfl⟩
 case round =>
  obtain ⟨t,⟨x,y,m,dk⟩,ht,rfl,rfl,rfl,rfl,hD,hO,HE⟩:=hrel
  have hok:=zJI d hd t
  rw[← HE.out] at hok
  obtain ⟨hx,hy,hs⟩:=hok
  dsimp only at hx hy hs hD
  clear c1 f1 hx1
  by_cases hlt:t<24
  ·obtain ⟨i,hi⟩:∃ i,y+5*((2*x+3*y)%5)=i:=⟨_,rfl⟩
   obtain ⟨z,hz⟩:∃ z,dk[i]! = z:=⟨_,rfl⟩
   have hib:i<25:=by omega
   obtain ⟨c,f⟩:=zAn hD i (by omega) hz
   have Hz:Hid (dk[i]! = z):=hz
   have Hi:Hid (y+5*((2*x+3*y)%5)=i):=hi
   have l24:(t:Int)<24:=by omega
   clear hz hi
   go_wp2_with fail
   rw[zMq t hlt]
   refine (zIk m (offs t) _ (Nat.mod_lt _ (by decide))).mono ?_
   rintro e w' ⟨rfl,rfl⟩
   go_wp2_with fail
   obtain ⟨y2,hy2⟩:∃ n,(2*x+3*y)%5=n:=⟨_,rfl⟩
   have hy2':(2*(x:Int)+3*(y:Int))%5=(y2:Int):=by omega
   rw[hy2']
   have Hy2:Hid ((2*x+3*y)%5=y2):=hy2
   have r0:y2<5:=by omega
   clear hy2 hy2'
   have r1:(0:Int)≤(y:Int)+5*(y2:Int):=by omega
   have r2:(y:Int)+5*(y2:Int)<25:=by omega
   have r3:((y:Int)+5*(y2:Int)).toNat=i:=by have:=Hi.out;have:=Hy2.out;omega
   have s1:IntKind.i64.wrap (5*(y2:Int))=5*(y2:Int):=IntWalk.i64_in _ (by omega)
   have s2:IntKind.i64.wrap ((y:Int)+5*(y2:Int))=(y:Int)+5*(y2:Int):=IntWalk.i64_in _ (by omega)
   go_region
   go_wp2
   go_roundg (gk-1)
   case measure=>omega
   case rel =>
    refine ⟨t+1,⟨y,y2,z,dk.setIfInBounds i (rol m (offs t))⟩,by omega,by go_num,rfl,rfl,rfl,?_,?_,?_⟩
    ·exact Holds.drew (Holds.set hD (by omega) _)
    ·exact (hO.setCell (Nat.le_add_right _ _) (by omega) _).drew
    ·show _=zJJ t (tmTo d t)
     rw[← HE.out]
     simp only[zJJ,Hy2.out]
     have e:y+5*y2=i:=by have:=Hi.out;have:=Hy2.out;omega
     rw[e,Hz.out]
  ·have ht24:t=24:=by omega
   subst ht24
   go_wp2
   go_end0
   refine ⟨rfl,hO,?_⟩
   show Holds enc _ b off (tmTo d 24).d
   rw[← HE.out]
   exact hD
end SP
namespace SP
open Go.RowKit Go.Sort
attribute [local go_sem] zAS zA0 zAX zDG
theorem zHF (b off:Nat) (d:St) (w:World) (hd:d.size=25) (hH:Holds enc w b off d) :
 Calls Tryz.prog 214 #[.pointer (some ⟨b,off,none⟩)] w fun e w'=>e=.returned (.tuple #[])∧Only b off 25 w w'∧Holds enc w' b off (chi d):=by
 go_enter Tryz.func214,Tryz.ntmps214
 go_wp2
 go_loopg [2] 5 (fun g si wr=>∃ k dk,k+g=5∧si=.int .i64 ((5*k:Nat):Int)∧Holds enc wr b off dk∧Only b off 25 w wr∧Hid (dk=zHU d k))
 case atStart=>exact ⟨0,d,rfl,rfl,hH,Only.refl _ _ _ _,rfl⟩
 case round =>
  obtain ⟨k,dk,hk,rfl,hD,hO,HE⟩:=hrel
  have hs:dk.size=25:=by rw[HE.out,zFu,hd]
  by_cases hlt:k<5
  ·obtain ⟨i,hi⟩:∃ i,5*k=i:=⟨_,rfl⟩
   rw[hi]
   have Hi:Hid (5*k=i):=hi
   obtain ⟨x0,hx0⟩:∃ x,dk[i]! = x:=⟨_,rfl⟩
   obtain ⟨x1,hx1⟩:∃ x,dk[i+1]! = x:=⟨_,rfl⟩
   obtain ⟨x2,hx2⟩:∃ x,dk[i+2]! = x:=⟨_,rfl⟩
   obtain ⟨x3,hx3⟩:∃ x,dk[i+3]! = x:=⟨_,rfl⟩
   obtain ⟨x4,hx4⟩:∃ x,dk[i+4]! = x:=⟨_,rfl⟩
   obtain ⟨c0,f0⟩:=zAn hD i (by omega) hx0
   obtain ⟨c1,f1⟩:=zAn hD (i+1) (by omega) hx1
   obtain ⟨c2,f2⟩:=zAn hD (i+2) (by omega) hx2
   obtain ⟨c3,f3⟩:=zAn hD (i+3) (by omega) hx3
   obtain ⟨c4,f4⟩:=zAn hD (i+4) (by omega) hx4
   have HX0:Hid (dk[i]! = x0):=hx0
   have HX1:Hid (dk[i+1]! = x1):=hx1
   have HX2:Hid (dk[i+2]! = x2):=hx2
   have HX3:Hid (dk[i+3]! = x3):=hx3
   have HX4:Hid (dk[i+4]! = x4):=hx4
   have Q0:=HX0
   have Q1:=HX1
   have Q2:=HX2
   have Q3:=HX3
   have Q4:=HX4
   have i20:i≤20:=by omega
   clear hx0 hx1 hx2 hx3 hx4 hi
   have b0:(i:Int)<25:=by omega
   have b1:(i:Int)+1<25:=by omega
   have p1:0≤(i:Int)+1:=by omega
   have e1:((i:Int)+1).toNat=i+1:=by omega
   have v1:IntKind.i64.wrap ((i:Int)+1)=(i:Int)+1:=IntWalk.i64_in _ (by omega)
   have b2:(i:Int)+2<25:=by omega
   have p2:0≤(i:Int)+2:=by omega
   have e2:((i:Int)+2).toNat=i+2:=by omega
   have v2:IntKind.i64.wrap ((i:Int)+2)=(i:Int)+2:=IntWalk.i64_in _ (by omega)
   have b3:(i:Int)+3<25:=by omega
   have p3:0≤(i:Int)+3:=by omega
   have e3:((i:Int)+3).toNat=i+3:=by omega
   have v3:IntKind.i64.wrap ((i:Int)+3)=(i:Int)+3:=IntWalk.i64_in _ (by omega)
   have b4:(i:Int)+4<25:=by omega
   have p4:0≤(i:Int)+4:=by omega
   have e4:((i:Int)+4).toNat=i+4:=by omega
   have v4:IntKind.i64.wrap ((i:Int)+4)=(i:Int)+4:=IntWalk.i64_in _ (by omega)
   go_wp2_with fail
   go_quiet (fail)
   clear c1 c2 c3 c4 f1 f2 f3 f4 b1 p1 e1 v1 b2 p2 e2 v2 b3 p3 e3 v3 b4 p4 e4 v4
   go_wp2_with fail
   go_region
   go_wp2_with fail
   generalize hW0:World.setCell _ _ _=W0
   have hs0:(zAH dk i (~~~x1 &&& x2)).size=25:=by rw[zAG];omega
   have hD0:Holds enc W0 b off (zAH dk i (~~~x1 &&& x2)):=by rw[← hW0];exact Holds.xor (Holds.drewN hD _) (by omega) HX0.out _
   have hO0:Only b off 25 w W0:=by rw[← hW0];exact (hO.drewN _).setCell (o:=off+i) (by omega) (by omega) _
   generalize hd0:zAH dk i (~~~x1 &&& x2)=d0 at *
   have Hd0:Hid (zAH dk i (~~~x1 &&& x2)=d0):=hd0
   have HX1:Hid (d0[i+1]! = x1):=by show _=_;rw[← hd0,zAF _ _ _ _ (by omega)];exact HX1.out
   have HX2:Hid (d0[i+2]! = x2):=by show _=_;rw[← hd0,zAF _ _ _ _ (by omega)];exact HX2.out
   have HX3:Hid (d0[i+3]! = x3):=by show _=_;rw[← hd0,zAF _ _ _ _ (by omega)];exact HX3.out
   have HX4:Hid (d0[i+4]! = x4):=by show _=_;rw[← hd0,zAF _ _ _ _ (by omega)];exact HX4.out
   obtain ⟨c1,f1⟩:=zAn hD0 (i+1) (by omega) HX1.out
   clear hd0 hW0 c0 f0
   have b1:(i:Int)+1<25:=by omega
   have p1:0≤(i:Int)+1:=by omega
   have e1:((i:Int)+1).toNat=i+1:=by omega
   have v1:IntKind.i64.wrap ((i:Int)+1)=(i:Int)+1:=IntWalk.i64_in _ (by omega)
   go_region
   go_wp2_with fail
   generalize hW1:World.setCell _ _ _=W1
   have hs1:(zAH d0 (i+1) (~~~x2 &&& x3)).size=25:=by rw[zAG];omega
   have hD1:Holds enc W1 b off (zAH d0 (i+1) (~~~x2 &&& x3)):=by rw[← hW1];exact Holds.xor hD0 (by omega) HX1.out _
   have hO1:Only b off 25 w W1:=by rw[← hW1];exact (hO0).setCell (o:=off+(i+1)) (by omega) (by omega) _
   generalize hd1:zAH d0 (i+1) (~~~x2 &&& x3)=d1 at *
   have Hd1:Hid (zAH d0 (i+1) (~~~x2 &&& x3)=d1):=hd1
   have HX2:Hid (d1[i+2]! = x2):=by show _=_;rw[← hd1,zAF _ _ _ _ (by omega)];exact HX2.out
   have HX3:Hid (d1[i+3]! = x3):=by show _=_;rw[← hd1,zAF _ _ _ _ (by omega)];exact HX3.out
   have HX4:Hid (d1[i+4]! = x4):=by show _=_;rw[← hd1,zAF _ _ _ _ (by omega)];exact HX4.out
   obtain ⟨c2,f2⟩:=zAn hD1 (i+2) (by omega) HX2.out
   clear hd1 hW1 c1 f1
   clear b1 p1 e1 v1
   have b2:(i:Int)+2<25:=by omega
   have p2:0≤(i:Int)+2:=by omega
   have e2:((i:Int)+2).toNat=i+2:=by omega
   have v2:IntKind.i64.wrap ((i:Int)+2)=(i:Int)+2:=IntWalk.i64_in _ (by omega)
   go_region
   go_wp2_with fail
   generalize hW2:World.setCell _ _ _=W2
   have hs2:(zAH d1 (i+2) (~~~x3 &&& x4)).size=25:=by rw[zAG];omega
   have hD2:Holds enc W2 b off (zAH d1 (i+2) (~~~x3 &&& x4)):=by rw[← hW2];exact Holds.xor hD1 (by omega) HX2.out _
   have hO2:Only b off 25 w W2:=by rw[← hW2];exact (hO1).setCell (o:=off+(i+2)) (by omega) (by omega) _
   generalize hd2:zAH d1 (i+2) (~~~x3 &&& x4)=d2 at *
   have Hd2:Hid (zAH d1 (i+2) (~~~x3 &&& x4)=d2):=hd2
   have HX3:Hid (d2[i+3]! = x3):=by show _=_;rw[← hd2,zAF _ _ _ _ (by omega)];exact HX3.out
   have HX4:Hid (d2[i+4]! = x4):=by show _=_;rw[← hd2,zAF _ _ _ _ (by omega)];exact HX4.out
   obtain ⟨c3,f3⟩:=zAn hD2 (i+3) (by omega) HX3.out
   clear hd2 hW2 c2 f2
   clear b2 p2 e2 v2
   have b3:(i:Int)+3<25:=by omega
   have p3:0≤(i:Int)+3:=by omega
   have e3:((i:Int)+3).toNat=i+3:=by omega
   have v3:IntKind.i64.wrap ((i:Int)+3)=(i:Int)+3:=IntWalk.i64_in _ (by omega)
   go_region
   go_wp2_with fail
   generalize hW3:World.setCell _ _ _=W3
   have hs3:(zAH d2 (i+3) (~~~x4 &&& x0)).size=25:=by rw[zAG];omega
   have hD3:Holds enc W3 b off (zAH d2 (i+3) (~~~x4 &&& x0)):=by rw[← hW3];exact Holds.xor hD2 (by omega) HX3.out _
   have hO3:Only b off 25 w W3:=by rw[← hW3];exact (hO2).setCell (o:=off+(i+3)) (by omega) (by omega) _
   generalize hd3:zAH d2 (i+3) (~~~x4 &&& x0)=d3 at *
   have Hd3:Hid (zAH d2 (i+3) (~~~x4 &&& x0)=d3):=hd3
   have HX4:Hid (d3[i+4]! = x4):=by show _=_;rw[← hd3,zAF _ _ _ _ (by omega)];exact HX4.out
   obtain ⟨c4,f4⟩:=zAn hD3 (i+4) (by omega) HX4.out
   clear hd3 hW3 c3 f3
   clear b3 p3 e3 v3
   have b4:(i:Int)+4<25:=by omega
   have p4:0≤(i:Int)+4:=by omega
   have e4:((i:Int)+4).toNat=i+4:=by omega
   have v4:IntKind.i64.wrap ((i:Int)+4)=(i:Int)+4:=IntWalk.i64_in _ (by omega)
   go_region
   go_wp2
   generalize hW4:World.setCell _ _ _=W4
   have hs4:(zAH d3 (i+4) (~~~x0 &&& x1)).size=25:=by rw[zAG];omega
   have hD4:Holds enc W4 b off (zAH d3 (i+4) (~~~x0 &&& x1)):=by rw[← hW4];exact Holds.xor hD3 (by omega) HX4.out _
   have hO4:Only b off 25 w W4:=by rw[← hW4];exact (hO3).setCell (o:=off+(i+4)) (by omega) (by omega) _
   generalize hd4:zAH d3 (i+4) (~~~x0 &&& x1)=d4 at *
   have Hd4:Hid (zAH d3 (i+4) (~~~x0 &&& x1)=d4):=hd4
   clear hd4 hW4 c4 f4
   clear b4 p4 e4 v4
   go_roundg (gk-1)
   case measure=>omega
   case rel =>
    refine ⟨k+1,d4,by omega,?_,?_,?_,?_⟩
    ·rw[← Hi.out];go_num
    ·exact hD4
    ·exact hO4.drewN 4
    ·show d4=rowAt (zHU d k) (5*k)
     rw[← HE.out,Hi.out]
     unfold rowAt
     rw[Q0.out,Q1.out,Q2.out,Q3.out,Q4.out,Hd0.out,Hd1.out,Hd2.out,Hd3.out,Hd4.out]
  ·have hk5:k=5:=by omega
   subst hk5
   go_wp2
   go_end0
   refine ⟨rfl,hO,?_⟩
   show Holds enc _ b off (zHU d 5)
   rw[← HE.out]
   exact hD
end SP
end Go.Proofs.YtglhhepedoffeaaGreat
