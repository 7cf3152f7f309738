import Derived.ChangeOld
import Derived.Below
import Derived.WalkKit
import Derived.ProofKit
import Derived.OpenShut
import Derived.ShutString
import Derived.Test.YtmkllfekhehagafGreatBQ8
set_option linter.unusedVariables false
set_option linter.unusedSimpArgs false
namespace Go.Proofs.YtmkllfekhehagafGreat
open Go.RowKit Go.Sort Go.Deep
variable {P:Nat} [NeZero P] {N:Nat}
theorem lent_part2 {W:World} {k:Nat} {s:ByteArray} (h:Holds encB W k 0 (lent s)) (hs:s.size≤16384):SP.PartOk W (.slice (some ⟨k,0,none⟩) s.size (s.size+160)) s.data.toList :=
 ⟨_,k,0,s.size+160,s.data,rfl,rfl,by show s.size≤_;omega,by show s.size≤_;omega,Or.inr ⟨rfl,SP.holds_text s h⟩⟩
noncomputable def lfB (P:Nat) [NeZero P] (s:ByteArray):Bs:=if isSec s then wr (.some (hpt P tokenL s.data.toList):EC.Pt P) else #[]
theorem Lift_any (C:Fld P) (s:ByteArray) (hs:s.size≤4096) (k:Nat) (W:World) (h:Holds encB W k 0 (lent s)) :
 Calls Tryz.prog 24 #[.slice (some ⟨k,0,none⟩) s.size (s.size+160)] W (Ret fun e w'=>Below W.heap.size W w'∧AnsW (lfB P s) (lfE s) e w'):=by
 unfold lfB lfE
 by_cases hb:1≤s.size∧s.size≤64
 · rw [show isSec s=true from decide_eq_true hb,if_pos rfl,if_pos rfl]
   exact Lift_y C _ _ _ _ W (lent_part2 h (by omega)) hb.1 hb.2
 · rw [show isSec s=false from decide_eq_false hb,if_neg (by decide),if_neg (by decide)]
   exact Lift_n _ _ _ W hb
theorem Blind_any (C:Fld P) (O:Ord N) (hord:∀ r:EC.Pt P,EC.On r→EC.mul N r=none) (s r:ByteArray) (hs:s.size≤4096) (k:Nat) (v1:Value) (W:World) (h:Holds encB W k 0 (lent s)) (hA:Arg W v1 r.data) :
 Calls Tryz.prog 25 #[.slice (some ⟨k,0,none⟩) s.size (s.size+160),v1] W (Ret fun e w'=>Below W.heap.size W w'∧AnsW (blT P N s r).1 (blT P N s r).2 e w'):=by
 unfold blT
 by_cases hb:1≤s.size∧s.size≤64
 · rw [show isSec s=true from decide_eq_true hb,if_pos rfl]
   cases hr:rq N r.data with
   | none=>exact Blind_n3 C O _ _ _ _ v1 r.data W (lent_part2 h (by omega)) hb.1 hb.2 hA hr
   | some n=>exact Blind_y C O hord _ _ _ _ v1 r.data n W (lent_part2 h (by omega)) hb.1 hb.2 hA hr
 · rw [show isSec s=false from decide_eq_false hb,if_neg (by decide)]
   exact Blind_n2 _ _ _ v1 W hb
structure Lz (w0 W:World) (s:ByteArray) (q1:Option Addr) (n1 c1:Nat) (T1:Bs) (q2:Option Addr) (n2 c2:Nat) (T2:Bs):Prop where
 bl:Below w0.heap.size w0 W
 l0:Holds encB W w0.heap.size 0 (lent s)
 a1:Cw W q1 n1 c1 T1
 a2:Cw W q2 n2 c2 T2
theorem Lz.grow {w0 W W':World} {s:ByteArray} {q1 q2:Option Addr} {n1 c1 n2 c2:Nat} {T1 T2:Bs} (h:Lz w0 W s q1 n1 c1 T1 q2 n2 c2 T2) (hb:Below W.heap.size W W'):Lz w0 W' s q1 n1 c1 T1 q2 n2 c2 T2 :=
 ⟨h.bl.trans (hb.mono h.bl.size),Holds.below h.l0 hb (Holds.lt h.l0 (by rw [lent_size];omega)),h.a1.grow hb,h.a2.grow hb⟩
omit [NeZero P] in
theorem tw_one7 (t:T3 P):(tw t).toArray.all (·.oneCell')=true:=by kernel_rfl
set_option maxHeartbeats 2000000 in
set_option maxRecDepth 100000 in
theorem hidesB_all (C:Fl3 P) (O:Ord N) (hord:∀ r:EC.Pt P,EC.On r→EC.mul N r=none) (s r:ByteArray) (h1:s.size≤4096) (h2:r.size≤4096) (w0:World) :
 Calls Tryz.prog 7 #[.string s,.string r] w0 fun e w'=>e=.returned (.bool true)∧Below w0.heap.size w0 w':=by
 have HPL:=Hid.mk' (Lift_any C.toFld s h1)
 have HPB:=Hid.mk' (Blind_any C.toFld O hord s r h1)
 have HRL:=Hid.mk' (r7Lift_c C s h1)
 have HRB:=Hid.mk' (r7Blind_c C O s r h1)
 have HW:Hid ((lfE s=0∧Gives 29 #[tv (lfT P s)] (.string ⟨lfB P s⟩))∨(lfE s=2∧lfB P s=#[])):=by
  cases hb:isSec s with
  | true =>
   refine Or.inl ⟨by unfold lfE;rw [hb];rfl,?_⟩
   have e1:lfB P s=wr (.some (hpt P tokenL s.data.toList):EC.Pt P):=by unfold lfB;rw [hb,if_pos rfl]
   rw [e1]
   have hF1:FracT (lfT P s) (.some (hpt P tokenL s.data.toList):EC.Pt P):=by
    unfold lfT
    rw [hb,if_pos rfl]
    have ho:=hpt_on C.toFld tokenL s.data.toList
    generalize hpt P tokenL s.data.toList=q at ho ⊢
    exact ⟨frac_one C.toFld _ _,ho⟩
   exact rWritten_c C hF1
  | false=>exact Or.inr ⟨by unfold lfE;rw [hb];rfl,by unfold lfB;rw [hb];rfl⟩
 generalize lfB P s=T1 at HPL HW
 generalize lfE s=e1 at HPL HRL HW
 generalize lfT P s=t1 at HRL HW
 generalize (blT P N s r).1=T2 at HPB HRB
 generalize (blT P N s r).2=e2 at HPB HRB
 have g1:¬ (4096:Int) < (s.size:Int):=by omega
 have g2:¬ (4096:Int) < (r.size:Int):=by omega
 have g5:(s.size:Int)≤(s.size:Int)+160:=by omega
 have H1:Hid (s.size≤16384):=(by omega:s.size≤16384)
 clear h1 h2 C O hord
 obtain ⟨vt,hvt⟩:∃ v,Hid (tv t1=v):=⟨_,rfl⟩
 rw [hvt.out] at HRL HW
 have HI56:Hid ((Tryz.prog.info? 56).map (·.size)=some (tw t1).length∧(Tryz.prog.info? 56).map (·.size)=some (tw t1).toArray.size):=⟨i56,i56⟩
 obtain ⟨d,hd1,hd2⟩:=Option.map_eq_some_iff.1 u56
 have HD:Hid (Tryz.prog.underlying 56=some d∧d.isRow=true):=⟨hd1,hd2⟩
 clear hd1 hd2
 go_enter Tryz.func7,Tryz.ntmps7
 go_wp2_with fail
 refine (Lent_any s _ H1.out).mono ?_
 rintro e w1 ⟨rfl,hb1,hL⟩
 have K1:Hid (Below w0.heap.size w0 w1∧Holds encB w1 w0.heap.size 0 (lent s)):=⟨hb1,hL⟩
 clear hb1 hL
 go_wp2_with fail
 refine (HPL.out w0.heap.size w1 K1.out.2).mono ?_
 rintro e w2 ⟨vv,rfl,hb2,q1,n1,c1,rfl,hC1⟩
 have K2:Hid (Below w0.heap.size w0 w2∧Holds encB w2 w0.heap.size 0 (lent s)∧Cw w2 q1 n1 c1 T1):=⟨K1.out.1.trans (hb2.mono K1.out.1.size),Holds.below K1.out.2 hb2 (Holds.lt K1.out.2 (by rw [lent_size];omega)),hC1⟩
 clear hb2 hC1 K1 HPL
 obtain ⟨capr,w3,hcr,hcc,hb3,hH3,hlt3⟩:=conv_of r w2
 have K3:Hid (Below w0.heap.size w0 w3∧Holds encB w3 w0.heap.size 0 (lent s)∧Cw w3 q1 n1 c1 T1∧Arg w3 (.slice (some ⟨w2.heap.size,0,none⟩) r.size capr) r.data):=⟨K2.out.1.trans (hb3.mono K2.out.1.size),Holds.below K2.out.2.1 hb3 (Holds.lt K2.out.2.1 (by rw [lent_size];omega)),K2.out.2.2.grow hb3,_,_,_,rfl,rfl,fun h=>⟨_,0,rfl,by omega,hlt3,hH3⟩⟩
 clear hb3 hH3 hlt3 hcc K2
 go_wp2_with fail
 refine (HPB.out w0.heap.size _ w3 K3.out.2.1 K3.out.2.2.2).mono ?_
 rintro e w4 ⟨vv,rfl,hb4,q2,n2,c2,rfl,hC2⟩
 have K4:Hid (Lz w0 w4 s q1 n1 c1 T1 q2 n2 c2 T2):=⟨K3.out.1.trans (hb4.mono K3.out.1.size),Holds.below K3.out.2.1 hb4 (Holds.lt K3.out.2.1 (by rw [lent_size];omega)),K3.out.2.2.1.grow hb4,hC2⟩
 clear hb4 hC2 K3 HPB hcr
 go_wp2_with fail
 refine (Still_any w0.heap.size _ s w4 H1.out K4.out.l0 rfl).mono ?_
 rintro e w5 ⟨rfl,hb5⟩
 have K5:Hid (Lz w0 w5 s q1 n1 c1 T1 q2 n2 c2 T2):=K4.out.grow hb5
 clear hb5 K4
 go_wp2_with fail
 refine (HRL.out w5).mono ?_
 rintro e w6 ⟨vv,rfl,hb6,rfl⟩
 have K6:Hid (Lz w0 w6 s q1 n1 c1 T1 q2 n2 c2 T2):=K5.out.grow hb6
 clear hb6 K5 HRL
 obtain ⟨k11,hk11⟩:∃ k,Hid (w6.heap.size=k):=⟨_,rfl⟩
 obtain ⟨w7,hw7⟩:∃ w7,Hid (w6.alloc (.cells (RG.z 12).toArray 56)=w7):=⟨_,rfl⟩
 obtain ⟨w8,hw8⟩:∃ w8,Hid (w7.setCells k11 0 (tw t1)=w8):=⟨_,rfl⟩
 have F7:Hid (Row w7 k11 (RG.z 12)∧Below w6.heap.size w6 w7):=by
  rw [← hw7.out,← hk11.out]
  exact ⟨row_new w6 _ _,below1 _ _⟩
 have K8:Hid (Lz w0 w8 s q1 n1 c1 T1 q2 n2 c2 T2∧Row w8 k11 (tw t1)):=by
  rw [← hw8.out]
  exact ⟨K6.out.grow (RG.below_setCells (by rw [hk11.out];exact Nat.le_refl _) _ _ _ F7.out.2),F7.out.1.put rfl⟩
 have HT7:Hid (w7.there k11 0 (tw t1).toArray.size):=F7.out.1.2.2
 clear K6
 go_wp2_with (first | (refine wpList_op (v:=.pointer (some ⟨k11,0,none⟩)) (w':=w7) rfl (.alloc 56) rfl ?_ ?_;(rw [← hw7.out,← hk11.out];kernel_rfl)) | (refine wpList_store_mid rfl 56 _ _ rfl k11 0 (tw t1).toArray ?_ ?_ ?_ ?_ ?_ ?_;rfl;exact hvt.out.symm;exact HT7.out;exact HI56.out.2;exact tw_one7 t1;rw [show (tw t1).toArray.toList=tw t1 from rfl,hw8.out]) | fail)
 clear hw7 hw8 hk11 F7 HT7
 refine (HRB.out w8).mono ?_
 rintro e w9 ⟨vv,rfl,hb9,rfl⟩
 have K9:Hid (Lz w0 w9 s q1 n1 c1 T1 q2 n2 c2 T2∧Row w9 k11 (tw t1)):=⟨K8.out.1.grow hb9,K8.out.2.below hb9⟩
 clear hb9 K8 HRB g1 g2 g5
 have eT2:=str_eqL T2
 rcases HW.out with ⟨rfl,hWr⟩ | ⟨rfl,rfl⟩
 · have HWr:=Hid.mk' hWr
   clear hWr HW
   go_wp2_with (first | (refine wpList_load_mid rfl 56 _ rfl k11 0 ?_ (tw t1) d ?_ ?_ ?_ ?_ ?_;rfl;exact K9.out.2.2.1;exact HD.out.1;exact HD.out.2;exact HI56.out.1;rw [show Value.agg (tw t1).toArray=vt from hvt.out]) | fail)
   refine (HWr.out w9).mono ?_
   rintro e w10 ⟨vv,rfl,hb10,rfl⟩
   have K10:Hid (Lz w0 w10 s q1 n1 c1 T1 q2 n2 c2 T2):=K9.out.1.grow hb10
   clear hb10 K9
   have hcv1:=K10.out.a1.conv
   have hcv2:=K10.out.a2.conv
   have eT1:=str_eqL T1
   go_wp2
   go_ret
   exact ⟨by simp,K10.out.bl⟩
 · have K10:Hid (Lz w0 w9 s q1 n1 c1 #[] q2 n2 c2 T2):=K9.out.1
   clear K9 HW
   have hcv1:=K10.out.a1.conv
   have hcv2:=K10.out.a2.conv
   go_wp2
   go_ret
   exact ⟨by simp,K10.out.bl⟩
theorem ordB:Ord Go.Proofs.YtmkllfekhehagafGreat.p1:=⟨gap1,refP1,by decide +kernel,by decide +kernel⟩
end Go.Proofs.YtmkllfekhehagafGreat
namespace Go.Proofs.YtmkllfekhehagafGreat.EC
variable {P:Nat} [NeZero P]
def fo {α:Type} (x:Fin P) (f:Fin P→α):α :=
 match x.val with
 | 0=>f (Fin.ofNat P 0)
 | n+1=>f (Fin.ofNat P (n+1))
theorem fo_eq {α:Type} (x:Fin P) (f:Fin P→α):fo x f=f x:=by
 have hx:Fin.ofNat P x.val=x:=Fin.ext (Nat.mod_eq_of_lt x.isLt)
 unfold fo
 split
 · next h=>rw [h] at hx;rw [hx]
 · next n h=>rw [h] at hx;rw [hx]
def runs (u v:Fin P) (e:Nat):Nat→Fin P→Fin P→Fin P→Bool
 | 0,_,_,z=>decide (z=0)
 | k+1,x,y,z=>fo (twX x y) fun X=>fo (twY x y) fun Y=>fo (twZ y z) fun Z =>
  if e / 2 ^ k % 2=1 then
   if Z=0 then false else
   fo (plAx X 1) fun ax=>fo (plAy Y 1) fun ay=>fo (plAx u Z) fun bx=>fo (plAy v Z) fun bY =>
   if ax=bx∧ay=bY then false else
   fo (plX ax ay bx bY) fun a=>fo (plY ax ay bx bY) fun b=>fo (plZ Z 1 ax bx) fun c=>runs u v e k a b c
  else runs u v e k X Y Z
theorem one_ne (C:Cur P):(1:Fin P)≠0:=fun h=>C.two (by
 calc (2:Fin P)=2*1:=by grobner
  _=0:=by rw [h];grobner)
theorem runs_ok (C:Cur P) {u v:Fin P} (hg:On (some (u,v))) (e:Nat):∀ (k m:Nat) (x y z:Fin P),Jac x y z (mul m (some (u,v)))→runs u v e k x y z=true→mul (m*2 ^ k+e % 2 ^ k) (some (u,v))=none
 | 0,m,x,y,z,hj,h=>by
  have hz:z=0:=of_decide_eq_true h
  rw [Nat.pow_zero,Nat.mod_one,Nat.mul_one,Nat.add_zero]
  exact hj.zero C hz
 | k+1,m,x,y,z,hj,h=>by
  have hm:=mul_on C hg m
  have h1:=hj.twice C hm
  rw [← mul_add C hg] at h1
  have hb:e % 2 ^ (k+1)=e / 2 ^ k % 2*2 ^ k+e % 2 ^ k:=by
   rw [Nat.pow_succ,Nat.mod_mul,Nat.mul_comm (2 ^ k) (e / 2 ^ k % 2),Nat.add_comm]
  have hp:2 ^ (k+1)=2*2 ^ k:=by rw [Nat.pow_succ,Nat.mul_comm]
  unfold runs at h
  simp only [fo_eq] at h
  by_cases hbit:e / 2 ^ k % 2=1
  · rw [if_pos hbit] at h
    by_cases hZ:twZ y z=0
    · rw [if_pos hZ] at h
      cases h
    · rw [if_neg hZ] at h
      have hj1:Jac u v 1 (some (u,v)):=⟨one_ne C,by grobner,by grobner⟩
      rcases h1.plus C (mul_on C hg _) hj1 hg hZ (one_ne C) with ⟨e1,e2,-⟩ | ⟨e1,e2⟩
      · rw [if_pos ⟨e1,e2⟩] at h
        cases h
      · rw [if_neg e1] at h
        have h2:=runs_ok C hg e k (m+m+1) _ _ _ e2 h
        rw [hb,hbit,hp]
        rw [show m*(2*2 ^ k)+(1*2 ^ k+e % 2 ^ k)=(m+m+1)*2 ^ k+e % 2 ^ k by
         rw [Nat.add_mul,Nat.add_mul,← Nat.mul_assoc,Nat.mul_comm m 2,Nat.two_mul,Nat.add_mul];omega]
        exact h2
  · rw [if_neg hbit] at h
    have h0:e / 2 ^ k % 2=0:=by omega
    have h2:=runs_ok C hg e k (m+m) _ _ _ h1 h
    rw [hb,h0,hp]
    rw [show m*(2*2 ^ k)+(0*2 ^ k+e % 2 ^ k)=(m+m)*2 ^ k+e % 2 ^ k by
     rw [← Nat.mul_assoc,Nat.mul_comm m 2,Nat.two_mul];omega]
    exact h2
def pL:Nat:=115792089237316195423570985008687907853269984665640564039457584007908834671663
def nL:Nat:=115792089237316195423570985008687907852837564279074904382605163141518161494337
instance:NeZero pL:=⟨by decide +kernel⟩
theorem runs_g:runs (P:=pL) (Fin.ofNat pL 55066263022277343669578718895168534326250603453777594175500187360389116729240) (Fin.ofNat pL 32670510020758816978083085130507043184471273380659243275938904335757337482424) nL 255 (Fin.ofNat pL 55066263022277343669578718895168534326250603453777594175500187360389116729240) (Fin.ofNat pL 32670510020758816978083085130507043184471273380659243275938904335757337482424) 1=true:=by decide +kernel
theorem small_n:2*pL+1 < 3*nL:=by decide +kernel
theorem high_n:1*2 ^ 255+nL % 2 ^ 255=nL:=by decide +kernel
theorem order (C:Cur P) (hP:P=pL) (hg:On (some (Fin.ofNat P 55066263022277343669578718895168534326250603453777594175500187360389116729240,Fin.ofNat P 32670510020758816978083085130507043184471273380659243275938904335757337482424))) {r:Pt P} (hr:On r):mul nL r=none:=by
 subst hP
 refine order_of C (n:=nL) NT.pN small_n hg (fun h=>by cases h) ?_ hr
 have h:=runs_ok C hg nL 255 1 _ _ 1 (by
  show Jac _ _ 1 (add none _)
  rw [none_add]
  exact ⟨one_ne C,by grobner,by grobner⟩) runs_g
 rwa [high_n] at h
end Go.Proofs.YtmkllfekhehagafGreat.EC
namespace Go.Proofs.YtmkllfekhehagafGreat
theorem p1_nL2:Go.Proofs.YtmkllfekhehagafGreat.p1=EC.nL:=by decide +kernel
variable {P:Nat} [NeZero P]
theorem order2 (C:Fld P) (r:EC.Pt P) (hr:EC.On r):EC.mul Go.Proofs.YtmkllfekhehagafGreat.p1 r=none:=by
 rw [p1_nL2]
 have hP:P=EC.pL:=by
  rw [C.eq]
  rfl
 exact EC.order C.cur hP (gG_on C) hr
end Go.Proofs.YtmkllfekhehagafGreat
namespace Go.Proofs.YtmkllfekhehagafGreat
open Go.RowKit Go.Sort Go.Deep
set_option maxHeartbeats 2000000 in
theorem hidesB_any (a b:ByteArray) (w0:World) :
 Calls Tryz.prog 7 #[.string a,.string b] w0 fun e w'=>e=.returned (.bool true)∧Below w0.heap.size w0 w':=by
 by_cases ha:a.size≤4096
 · by_cases hb:b.size≤4096
   · obtain ⟨P,hz,C⟩:=fl3
     exact hidesB_all C ordB (order2 C.toFld) a b ha hb w0
   · have g1:¬ (4096:Int) < (a.size:Int):=by omega
     have g2:(4096:Int) < (b.size:Int):=by omega
     go_enter Tryz.func7,Tryz.ntmps7
     go_wp2
     go_ret
     exact ⟨rfl,Below.refl _ _⟩
 · have g1:(4096:Int) < (a.size:Int):=by omega
   go_enter Tryz.func7,Tryz.ntmps7
   go_wp2
   go_ret
   exact ⟨rfl,Below.refl _ _⟩
end Go.Proofs.YtmkllfekhehagafGreat
/-
  THE ROW OF 'BlindHides' round its walk; the frame by the guide's program (howto/shells), the world behind the call told by 'Below'.
-/
namespace Go.Proofs.YtmkllfekhehagafGreat.blindHides
open Go.ChangeShapes Go.WideShapes Go.ChangeAt Go.RowKit
open Go.ChangeMaps (open_string shut_string)
theorem own:ownKnob Tryz.prog.godebug=none:=by kernel_rfl
set_option maxRecDepth 100000 in
theorem lifted (os:Os) (started:os.Started) (H:Type) (enc:TypeId × Value→H) :
 ReturnsInHanded {} Tryz.checked os 7 .any (Rows.blindHidesSpec.pre6 enc Tryz.prog Tryz.f7 Rows.blindHidesRow.domain false) (Rows.blindHidesSpec.post enc Tryz.prog Tryz.f7 false true false false):=by
 refine returnsInHanded_of_change (C:=Tryz.checked) own started (by kernel_rfl) Tryz.func7
  (ChangeSpec.witness6 (enc:=enc) (C:=Tryz.checked) false ⟨#[],#[.string ByteArray.empty,.string ByteArray.empty],[]⟩ 8 (by kernel_rfl) (by kernel_rfl) (by kernel_rfl) (by kernel_rfl)) ?_
 intro W base args ds gs before hval0 hW hcnd _
 have hval:∀ (j:Nat) t v,Tryz.f7.params[j]? = some t→args[j]? = some v→Value.okWide Tryz.prog W .any base t v:=hval0
 have hW':=hW
 obtain ⟨p,q,hA0,hV,rfl,hfz,hnd⟩:=hW
 have hA:DataW.TrodAll enc Tryz.prog W 0 (fun _=>true) true Tryz.f7.params.toList args.toList ds p:=hA0
 rw [Tryz.params7] at hA hval
 obtain ⟨v0,vs0,d0,ds0,p0,q0,hargs,rfl,rfl,h0,r0⟩:=trodAll_cons hA
 obtain ⟨v1,vs1,d1,ds1,p1,q1,rfl,rfl,rfl,h1,r1⟩:=trodAll_cons r0
 obtain ⟨rfl,rfl,rfl⟩:=trodAll_nil r1
 obtain rfl:args=#[v0,v1]:=by cases args;simp_all
 obtain ⟨rfl,rfl⟩:=trodVars_none hV
 obtain ⟨a0,rfl,rfl,rfl,w0⟩:=open_string Tryz.underlying9 (hval 0 9 v0 rfl rfl) h0
 obtain ⟨a1,rfl,rfl,rfl,w1⟩:=open_string Tryz.underlying9 (hval 1 9 v1 rfl rfl) h1
 clear hA0 hval0
 refine (hidesB_any a0 a1 W).mono fun e W' ⟨he,bel⟩=>?_
 subst he
 exact ⟨_,rfl,_,_,_,[],_,[],hW',(trodAll_cons_mk (shut_bool Tryz.underlying4 _) trodAll_mk0),(trodAll_cons_mk (shut_string Tryz.underlying9 w0) (trodAll_cons_mk (shut_string Tryz.underlying9 w1) trodAll_mk0)),rfl,bel.frame _,fun h=>by cases h⟩
theorem over:Rows.blindHidesRow.holds Tryz.pinned (OpenSpec.ofChange Rows.blindHidesSpec) :=
 OpenClaim.holds_of_wide 7 Tryz.f7 rfl rfl rfl rfl rfl rfl rfl ⟨rfl,rfl,rfl,rfl,rfl⟩ rfl rfl rfl rfl rfl (by kernel_rfl) Tryz.func7 (by kernel_rfl)
  (of_decide_eq_true (by kernel_rfl)) (by unfold Func.isWrapper;first | (rw [if_pos (by decide +kernel)];kernel_rfl) | (rw [if_neg (by decide +kernel)];exact ⟨rfl,rfl⟩))
  (fun os started H enc _=>lifted os started H enc)
theorem proved:Rows.BlindHidesSaid :=
 over
end Go.Proofs.YtmkllfekhehagafGreat.blindHides
namespace Go.Proofs.YtmkllfekhehagafGreat
theorem blindHides_holds:Rows.BlindHidesSaid:=blindHides.proved
#print axioms blindHides_holds
end Go.Proofs.YtmkllfekhehagafGreat
