import Derived.ChangeOld
import Derived.Below
import Derived.WalkKit
import Derived.ProofKit
import Derived.OpenShut
import Derived.ShutString
import Derived.Test.YtmkllfekhehagagGreatUQ7
set_option linter.unusedVariables false
set_option linter.unusedSimpArgs false
namespace Go.Proofs.YtmkllfekhehagagGreat
open Go.RowKit Go.Sort Go.Deep
variable {P:Nat} [NeZero P] {N:Nat}
theorem Unblind_any (C:Fld P) (O:Ord N) (hord:∀ r:EC.Pt P,EC.On r→EC.mul N r=none) (s r p:ByteArray) (q0 q2:Option Addr) (n0 c0 n2 c2:Nat) (v1:Value) (w:World) (h0:Arg33 w (.slice q0 n0 c0) s.data) (hA:Arg w v1 r.data) (h2:Arg33 w (.slice q2 n2 c2) p.data) :
 Calls Tryz.prog 13 #[.slice q0 n0 c0,v1,.slice q2 n2 c2] w (Ret fun e w'=>Below w.heap.size w w'∧AnsW (unT P N s r p).1 (unT P N s r p).2 e w'):=by
 unfold unT
 cases hr:rq N r.data with
 | none=>exact Unblind_n3 O _ v1 _ r.data w hA hr
 | some n =>
  refine Unblind_r C O hord q0 q2 n0 c0 n2 c2 v1 s.data r.data p.data n w h0 hA h2 hr _ _ ?_
  cases ha:rd P s.data with
  | none=>exact Or.inr ⟨Or.inl rfl,rfl,rfl⟩
  | some a =>
   cases hb:rd P p.data with
   | none=>exact Or.inr ⟨Or.inr rfl,rfl,rfl⟩
   | some b=>exact Or.inl ⟨⟨a,b,rfl,rfl,rfl⟩,rfl⟩
set_option maxHeartbeats 2000000 in
set_option maxRecDepth 100000 in
theorem undoes_all (C:Fl3 P) (O:Ord N) (hord:∀ r:EC.Pt P,EC.On r→EC.mul N r=none) (s r p:ByteArray) (h1:s.size≤4096) (h2:r.size≤4096) (h3:p.size≤4096) (w0:World) :
 Calls Tryz.prog 4 #[.string s,.string r,.string p] w0 fun e w'=>e=.returned (.bool true)∧Below w0.heap.size w0 w':=by
 have HP:=Hid.mk' (Unblind_any C.toFld O hord s r p)
 have HR:=Hid.mk' (rUn_c C O s r p)
 generalize (unT P N s r p).1=T at HP HR
 generalize (unT P N s r p).2=ec at HP HR
 have g1:¬ (4096:Int) < (s.size:Int):=by omega
 have g2:¬ (4096:Int) < (r.size:Int):=by omega
 have g3:¬ (4096:Int) < (p.size:Int):=by omega
 clear h1 h2 h3 C O hord
 obtain ⟨cap1,w1,hc1,hcc1,hb1,hH1,hlt1⟩:=conv_of s w0
 obtain ⟨cap2,w2,hc2,hcc2,hb2,hH2,hlt2⟩:=conv_of r w1
 obtain ⟨cap3,w3,hc3,hcc3,hb3,hH3,hlt3⟩:=conv_of p w2
 have hb13:=hb2.trans (hb3.mono hb2.size)
 have HB:Hid (Below w0.heap.size w0 w3):=hb1.trans (hb13.mono hb1.size)
 have A1:Hid (Arg33 w3 (.slice (some ⟨w0.heap.size,0,none⟩) s.size cap1) s.data):=⟨_,_,_,rfl,rfl,fun h=>⟨_,0,rfl,by omega,Nat.lt_of_lt_of_le hlt1 hb13.size,Holds.below hH1 hb13 hlt1⟩⟩
 have A2:Hid (Arg w3 (.slice (some ⟨w1.heap.size,0,none⟩) r.size cap2) r.data):=⟨_,_,_,rfl,rfl,fun h=>⟨_,0,rfl,by omega,Nat.lt_of_lt_of_le hlt2 hb3.size,Holds.below hH2 hb3 hlt2⟩⟩
 have A3:Hid (Arg33 w3 (.slice (some ⟨w2.heap.size,0,none⟩) p.size cap3) p.data):=⟨_,_,_,rfl,rfl,fun h=>⟨_,0,rfl,by omega,hlt3,hH3⟩⟩
 clear hb1 hb2 hb3 hb13 hH1 hH2 hH3 hlt1 hlt2 hlt3 hcc1 hcc2 hcc3
 go_enter Tryz.func4,Tryz.ntmps4
 go_wp2_with fail
 refine (HP.out _ _ _ _ _ _ _ w3 A1.out A2.out A3.out).mono ?_
 rintro e w4 ⟨vv,rfl,hb4,q,n,cap,rfl,hC⟩
 have K4:Hid (Below w0.heap.size w0 w4∧Cw w4 q n cap T):=⟨HB.out.trans (hb4.mono HB.out.size),hC⟩
 clear hb4 hC HP A1 A2 A3 HB hc1 hc2 hc3 g1 g2 g3
 go_wp2_with fail
 refine (HR.out w4).mono ?_
 rintro e w5 ⟨vv,rfl,hb5,rfl⟩
 have K5:Hid (Below w0.heap.size w0 w5∧Cw w5 q n cap T):=⟨K4.out.1.trans (hb5.mono K4.out.1.size),K4.out.2.grow hb5⟩
 clear hb5 K4 HR
 have hcv:=K5.out.2.conv
 have eT:=str_eqL T
 go_wp2
 go_ret
 exact ⟨by simp,K5.out.1⟩
theorem ordU:Ord Go.Proofs.YtmkllfekhehagagGreat.p1:=⟨gap1,refP1,by decide +kernel,by decide +kernel⟩
set_option maxHeartbeats 2000000 in
theorem undoes_any (a b c:ByteArray) (w0:World) :
 Calls Tryz.prog 4 #[.string a,.string b,.string c] w0 fun e w'=>e=.returned (.bool true)∧Below w0.heap.size w0 w':=by
 by_cases ha:a.size≤4096
 · by_cases hb:b.size≤4096
   · by_cases hc:c.size≤4096
     · obtain ⟨P,hz,C⟩:=fl3
       exact undoes_all C ordU (order2 C.toFld) a b c ha hb hc w0
     · have g1:¬ (4096:Int) < (a.size:Int):=by omega
       have g2:¬ (4096:Int) < (b.size:Int):=by omega
       have g3:(4096:Int) < (c.size:Int):=by omega
       go_enter Tryz.func4,Tryz.ntmps4
       go_wp2
       go_ret
       exact ⟨rfl,Below.refl _ _⟩
   · have g1:¬ (4096:Int) < (a.size:Int):=by omega
     have g2:(4096:Int) < (b.size:Int):=by omega
     go_enter Tryz.func4,Tryz.ntmps4
     go_wp2
     go_ret
     exact ⟨rfl,Below.refl _ _⟩
 · have g1:(4096:Int) < (a.size:Int):=by omega
   go_enter Tryz.func4,Tryz.ntmps4
   go_wp2
   go_ret
   exact ⟨rfl,Below.refl _ _⟩
end Go.Proofs.YtmkllfekhehagagGreat
/-
  THE ROW OF 'BlindUndoes' round its walk; the frame by the guide's program (howto/shells), the world behind the call told by 'Below'.
-/
namespace Go.Proofs.YtmkllfekhehagagGreat.blindUndoes
open Go.ChangeShapes Go.WideShapes Go.ChangeAt Go.RowKit
open Go.ChangeMaps (open_string shut_string)
theorem own:ownKnob Tryz.prog.godebug=none:=by kernel_rfl
set_option maxRecDepth 100000 in
theorem lifted (os:Os) (started:os.Started) (H:Type) (enc:TypeId × Value→H) :
 ReturnsInHanded {} Tryz.checked os 4 .any (Rows.blindUndoesSpec.pre6 enc Tryz.prog Tryz.f4 Rows.blindUndoesRow.domain false) (Rows.blindUndoesSpec.post enc Tryz.prog Tryz.f4 false true false false):=by
 refine returnsInHanded_of_change (C:=Tryz.checked) own started (by kernel_rfl) Tryz.func4
  (ChangeSpec.witness6 (enc:=enc) (C:=Tryz.checked) false ⟨#[],#[.string ByteArray.empty,.string ByteArray.empty,.string ByteArray.empty],[]⟩ 8 (by kernel_rfl) (by kernel_rfl) (by kernel_rfl) (by kernel_rfl)) ?_
 intro W base args ds gs before hval0 hW hcnd _
 have hval:∀ (j:Nat) t v,Tryz.f4.params[j]? = some t→args[j]? = some v→Value.okWide Tryz.prog W .any base t v:=hval0
 have hW':=hW
 obtain ⟨p,q,hA0,hV,rfl,hfz,hnd⟩:=hW
 have hA:DataW.TrodAll enc Tryz.prog W 0 (fun _=>true) true Tryz.f4.params.toList args.toList ds p:=hA0
 rw [Tryz.params4] at hA hval
 obtain ⟨v0,vs0,d0,ds0,p0,q0,hargs,rfl,rfl,h0,r0⟩:=trodAll_cons hA
 obtain ⟨v1,vs1,d1,ds1,p1,q1,rfl,rfl,rfl,h1,r1⟩:=trodAll_cons r0
 obtain ⟨v2,vs2,d2,ds2,p2,q2,rfl,rfl,rfl,h2,r2⟩:=trodAll_cons r1
 obtain ⟨rfl,rfl,rfl⟩:=trodAll_nil r2
 obtain rfl:args=#[v0,v1,v2]:=by cases args;simp_all
 obtain ⟨rfl,rfl⟩:=trodVars_none hV
 obtain ⟨a0,rfl,rfl,rfl,w0⟩:=open_string Tryz.underlying9 (hval 0 9 v0 rfl rfl) h0
 obtain ⟨a1,rfl,rfl,rfl,w1⟩:=open_string Tryz.underlying9 (hval 1 9 v1 rfl rfl) h1
 obtain ⟨a2,rfl,rfl,rfl,w2⟩:=open_string Tryz.underlying9 (hval 2 9 v2 rfl rfl) h2
 clear hA0 hval0
 refine (undoes_any a0 a1 a2 W).mono fun e W' ⟨he,bel⟩=>?_
 subst he
 exact ⟨_,rfl,_,_,_,[],_,[],hW',(trodAll_cons_mk (shut_bool Tryz.underlying4 _) trodAll_mk0),(trodAll_cons_mk (shut_string Tryz.underlying9 w0) (trodAll_cons_mk (shut_string Tryz.underlying9 w1) (trodAll_cons_mk (shut_string Tryz.underlying9 w2) trodAll_mk0))),rfl,bel.frame _,fun h=>by cases h⟩
theorem over:Rows.blindUndoesRow.holds Tryz.pinned (OpenSpec.ofChange Rows.blindUndoesSpec) :=
 OpenClaim.holds_of_wide 4 Tryz.f4 rfl rfl rfl rfl rfl rfl rfl ⟨rfl,rfl,rfl,rfl,rfl⟩ rfl rfl rfl rfl rfl (by kernel_rfl) Tryz.func4 (by kernel_rfl)
  (of_decide_eq_true (by kernel_rfl)) (by unfold Func.isWrapper;first | (rw [if_pos (by decide +kernel)];kernel_rfl) | (rw [if_neg (by decide +kernel)];exact ⟨rfl,rfl⟩))
  (fun os started H enc _=>lifted os started H enc)
theorem proved:Rows.BlindUndoesSaid :=
 over
end Go.Proofs.YtmkllfekhehagagGreat.blindUndoes
namespace Go.Proofs.YtmkllfekhehagagGreat
theorem blindUndoes_holds:Rows.BlindUndoesSaid:=blindUndoes.proved
#print axioms blindUndoes_holds
end Go.Proofs.YtmkllfekhehagagGreat
