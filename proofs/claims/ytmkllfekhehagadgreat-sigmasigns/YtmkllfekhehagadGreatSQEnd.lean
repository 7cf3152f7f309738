import Derived.ChangeOld
import Derived.Below
import Derived.WalkKit
import Derived.ProofKit
import Derived.OpenShut
import Derived.ShutString
import Derived.Test.YtmkllfekhehagadGreatSQ8
set_option linter.unusedVariables false
set_option linter.unusedSimpArgs false
namespace Go.Proofs.YtmkllfekhehagadGreat
open Go.RowKit Go.Sort Go.Deep
variable {P:Nat} [NeZero P] {N:Nat}
def Cv (W:World) (q:Option Addr) (n cap:Nat) (T:Bs):Prop:=(q=none∧n=0∧cap=0∧T=#[])∨∃ g,q=some ⟨g,0,none⟩∧T.size=n∧g < W.heap.size∧Holds encB W g 0 T
theorem Cv.grow {W W':World} {q:Option Addr} {n cap:Nat} {T:Bs} (h:Cv W q n cap T) (hb:Below W.heap.size W W'):Cv W' q n cap T:=by
 rcases h with h | ⟨g,h1,h2,h3,h4⟩
 · exact Or.inl h
 · exact Or.inr ⟨g,h1,h2,Nat.lt_of_lt_of_le h3 hb.size,Holds.below h4 hb h3⟩
theorem Cv.conv {W:World} {q:Option Addr} {n cap:Nat} {T:Bs} (h:Cv W q n cap T):(convert 22 9 (.slice q n cap)).run Tryz.prog W=.ok (.string ⟨T⟩) W:=by
 rcases h with ⟨rfl,rfl,rfl,rfl⟩ | ⟨g,rfl,h2,h3,h4⟩
 · kernel_rfl
 · exact conv_str Tryz.prog 22 9 5 slice22 int5 str9 W g 0 n cap T h4 h2
theorem owns_holds {W:World} {B0 n:Nat} {v:Value} {T:Bs} (h:W.ownsRow B0 5 1 v n (cb T)) (hn:0 < n) (hT:T.size=n):∃ q m cap,v=.slice q m cap∧Cv W q m cap T:=by
 have h0:=fun {g:Nat}=>h.cells (g:=g)
 rcases h.2 with ⟨-,h2⟩ | ⟨g,cap,cur,rfl,-,hc,-⟩
 · omega
 · have hr:W.rangeAt g 0 (cb T):=fun j u hu=>by
    have:=h0 (g:=g) rfl j u hu
    rw [add0] at this
    rw [Nat.zero_add]
    exact this
   refine ⟨_,_,_,rfl,Or.inr ⟨g,rfl,hT,(Array.getElem?_eq_some_iff.1 hc).1,cb_holds hr fun j hj=>⟨?_,?_⟩⟩⟩
   · rw [hr j _ (List.getElem?_eq_getElem hj)];rfl
   · simp [World.frozen?,hc]
theorem Ans.cv {z B0:Nat} {F:Bs} {v:Value} {W:World} (h:Ans z B0 F v W) (hF:F.size=33):∃ q n cap,v=.slice q n cap∧Cv W q n cap (F++bx z):=by
 have h0:W.ownsRow B0 5 1 v 65 ((F.toList++(bx z).toList).map encB):=h
 rw [← Array.toList_append] at h0
 exact owns_holds (T:=F++bx z) h0 (by decide) (by rw [Array.size_append,hF,bx_size])
theorem slLent (k n:Nat) (hn:n≤100000) (w:World):(Instr.sliceAt 22 (.slice (some ⟨k,0,none⟩) (n+160) (n+160)) none (some (.int .i64 (n:Int))) none).run Tryz.prog w=.ok (.slice (some ⟨k,0,none⟩) n (n+160)) w:=by
 have h1:¬ (n:Int) < 0:=by omega
 have h2:(n:Int)≤(n:Int)+160:=by omega
 go_simp
structure Lw (w0 W:World) (k1:Nat) (sk tx:ByteArray):Prop where
 bl:Below w0.heap.size w0 W
 l0:Holds encB W w0.heap.size 0 (lent sk)
 l1:Holds encB W k1 0 (lent tx)
theorem Lw.grow {w0 W W':World} {k1:Nat} {sk tx:ByteArray} (h:Lw w0 W k1 sk tx) (hb:Below W.heap.size W W'):Lw w0 W' k1 sk tx :=
 ⟨h.bl.trans (hb.mono h.bl.size),Holds.below h.l0 hb (Holds.lt h.l0 (by rw [lent_size];omega)),Holds.below h.l1 hb (Holds.lt h.l1 (by rw [lent_size];omega))⟩
theorem Lw.drew {w0 W:World} {k1:Nat} {sk tx:ByteArray} (h:Lw w0 W k1 sk tx):Lw w0 W.drew k1 sk tx:=⟨h.bl.drew,h.l0,h.l1⟩
theorem lent_part' {W:World} {k:Nat} {s:ByteArray} (h:Holds encB W k 0 (lent s)) (hs:s.size≤16384):SP.PartOk W (.slice (some ⟨k,0,none⟩) s.size (s.size+160)) s.data.toList :=
 ⟨_,k,0,s.size+160,s.data,rfl,rfl,by show s.size≤_;omega,by show s.size≤_;omega,Or.inr ⟨rfl,SP.holds_text s h⟩⟩
theorem lent_arg {W:World} {k:Nat} {s:ByteArray} (h:Holds encB W k 0 (lent s)):Arg W (.slice (some ⟨k,0,none⟩) s.size (s.size+160)) s.data :=
 ⟨_,_,_,rfl,rfl,fun hs=>⟨k,0,rfl,by omega,Holds.lt h (by rw [lent_size];omega),SP.holds_text s h⟩⟩
theorem both_sign (C:Fl3 P) (O:Ord N) (sk tx:ByteArray) (hsk:sk.size≤4096) (htx:tx.size≤4096):∃ (T:Bs) (ec:Int),Gives 10 #[.string sk,.string tx] (.tuple #[.string ⟨T⟩,.int .i64 ec]) ∧
 ∀ (w0 W:World) (k1:Nat),Lw w0 W k1 sk tx→Calls Tryz.prog 8 #[.slice (some ⟨w0.heap.size,0,none⟩) sk.size (sk.size+160),.slice (some ⟨k1,0,none⟩) tx.size (tx.size+160)] W (Ret fun e w'=>Below W.heap.size W w'∧∃ q n cap,e=.tuple #[.slice q n cap,.int .i64 ec]∧Cv w' q n cap T):=by
 by_cases hok:((rq N sk.data).isSome && !decide ((rq N sk.data).getD 0=0))=true
 · cases hx:rq N sk.data with
   | none=>rw [hx] at hok;cases hok
   | some x =>
    rw [hx] at hok
    have hx0:x≠0:=fun e=>by rw [e] at hok;cases hok
    have hnu:x=nuV sk.data:=rq_nu hx
    refine ⟨sgn P N sk tx,0,qSign_y C O sk tx hsk htx ?_ ?_,fun w0 W k1 hL=>?_⟩
    · unfold sec
      rw [hx,← hnu]
      simp [hx0]
    · rw [← hnu]
      unfold rq at hx
      split at hx
      · rename_i h
        rw [← Option.some.inj hx];exact h.2
      · cases hx
    · refine (sign_y C.toFld O _ _ _ _ _ _ sk.data tx.data W (lent_arg hL.l0) (lent_part' hL.l0 (by omega)) (lent_part' hL.l1 (by omega)) x hx hx0 _ _ _ rfl rfl rfl).mono ?_
      rintro e w' ⟨v,rfl,hb,u,rfl,hA⟩
      obtain ⟨q,n,cap,rfl,hC⟩:=hA.cv (wr_size _)
      refine ⟨_,rfl,hb,q,n,cap,rfl,?_⟩
      rw [hnu] at hC
      exact hC
 · refine ⟨#[],3,qSign_n O sk tx ?_,fun w0 W k1 hL=>?_⟩
   · unfold sec
     cases hx:rq N sk.data with
     | none=>rfl
     | some x =>
      rw [← rq_nu hx]
      rw [hx] at hok
      simpa using hok
   · refine (sign_n O _ _ _ _ _ _ sk.data W (lent_arg hL.l0) (by simpa using hok)).mono ?_
     rintro e w' ⟨v,rfl,hb,rfl⟩
     exact ⟨_,rfl,hb,none,0,0,rfl,Or.inl ⟨rfl,rfl,rfl,rfl⟩⟩
section
variable (w0:World) (k1:Nat) (sk tx:ByteArray) (T:Bs) (ec:Int)
def Rl:Nat→Value→World→Prop
 | 0,v,_=>v=.slice (some ⟨w0.heap.size,0,none⟩) (sk.size+160) (sk.size+160)
 | 1,v,_=>v=.string sk
 | 2,v,_=>v=.int .i64 (sk.size:Int)
 | 3,v,_=>v=.slice (some ⟨w0.heap.size,0,none⟩) sk.size (sk.size+160)
 | 4,v,_=>v=.slice (some ⟨k1,0,none⟩) (tx.size+160) (tx.size+160)
 | 5,v,_=>v=.string tx
 | 6,v,_=>v=.int .i64 (tx.size:Int)
 | 7,v,_=>v=.slice (some ⟨k1,0,none⟩) tx.size (tx.size+160)
 | 8,v,W=>∃ q n cap,v=.tuple #[.slice q n cap,.int .i64 ec]∧Cv W q n cap T
 | 9,v,W=>∃ q n cap,v=.tuple #[.slice q n cap,.int .i64 ec]∧Cv W q n cap T
 | 10,v,W=>∃ q n cap,v=.slice q n cap∧Cv W q n cap T
 | 11,v,_=>v=.int .i64 ec
 | 12,v,W=>∃ q n cap,v=.slice q n cap∧Cv W q n cap T
 | 13,v,_=>v=.int .i64 ec
 | _,_,_=>True
def Gl:RG.Gw:=⟨Rl w0 k1 sk tx T ec,fun W=>Lw w0 W k1 sk tx,fun i v W W' hb h=>by
 match i,h with
 | 0,h=>exact h
 | 1,h=>exact h
 | 2,h=>exact h
 | 3,h=>exact h
 | 4,h=>exact h
 | 5,h=>exact h
 | 6,h=>exact h
 | 7,h=>exact h
 | 8,⟨q,n,cap,h1,h2⟩=>exact ⟨q,n,cap,h1,h2.grow hb⟩
 | 9,⟨q,n,cap,h1,h2⟩=>exact ⟨q,n,cap,h1,h2.grow hb⟩
 | 10,⟨q,n,cap,h1,h2⟩=>exact ⟨q,n,cap,h1,h2.grow hb⟩
 | 11,h=>exact h
 | 12,⟨q,n,cap,h1,h2⟩=>exact ⟨q,n,cap,h1,h2.grow hb⟩
 | 13,h=>exact h
 | _+14,_=>trivial,fun W W' hb h=>h.grow hb⟩
end
set_option maxHeartbeats 2000000 in
set_option maxRecDepth 100000 in
theorem signs_all (C:Fl3 P) (O:Ord N) (sk tx:ByteArray) (h1:sk.size≤4096) (h2:tx.size≤4096) (w0:World) :
 Calls Tryz.prog 3 #[.string sk,.string tx] w0 fun e w'=>e=.returned (.bool true)∧Below w0.heap.size w0 w':=by
 obtain ⟨T,ec,href,hprog⟩:=both_sign C O sk tx h1 h2
 have HR:=Hid.mk' href
 have HP:=Hid.mk' hprog
 clear C O href hprog
 have g1:¬ (4096:Int) < (sk.size:Int):=by omega
 have g2:¬ (4096:Int) < (tx.size:Int):=by omega
 have g5:(sk.size:Int)≤(sk.size:Int)+160:=by omega
 have g6:(tx.size:Int)≤(tx.size:Int)+160:=by omega
 have H1:Hid (sk.size≤16384):=(by omega:sk.size≤16384)
 have H2:Hid (tx.size≤16384):=(by omega:tx.size≤16384)
 clear h1 h2
 go_enter Tryz.func3,Tryz.ntmps3
 go_wp2_with fail
 refine (Lent_any sk _ H1.out).mono ?_
 rintro e w1 ⟨rfl,hb1,hL1⟩
 go_wp2_with fail
 refine (Lent_any tx w1 H2.out).mono ?_
 rintro e w2 ⟨rfl,hb2,hL2⟩
 obtain ⟨k1,hk1⟩:∃ k1,Hid (w1.heap.size=k1):=⟨_,rfl⟩
 have K2:Hid (Lw w0 w2 k1 sk tx):=⟨hb1.trans (hb2.mono hb1.size),Holds.below hL1 hb2 (Holds.lt hL1 (by rw [lent_size];omega)),by rw [← hk1.out];exact hL2⟩
 rw [hk1.out]
 clear hb1 hb2 hL1 hL2 hk1
 go_wp2_with fail
 refine (Gl w0 k1 sk tx T ec).draws (by kernel_rfl) (by kernel_rfl) ⟨
  RG.gw_val fun a W hp=>⟨[(5,.slice (some ⟨w0.heap.size,0,none⟩) (sk.size+160) (sk.size+160))],.slice (some ⟨w0.heap.size,0,none⟩) (sk.size+160) (sk.size+160),W,⟨hp.o 5 (by kernel_rfl),trivial⟩,by kernel_rfl,Below.refl _ _,rfl⟩,
  RG.gw_val fun a W hp=>⟨[(0,.string sk)],.string sk,W,⟨hp.o 0 (by kernel_rfl),trivial⟩,by kernel_rfl,Below.refl _ _,rfl⟩,
  RG.gw_val fun a W hp=>⟨[(27,.string sk)],.int .i64 (sk.size:Int),W,⟨hp.n 1 27 (by kernel_rfl) (by kernel_rfl),trivial⟩,by kernel_rfl,Below.refl _ _,rfl⟩,
  RG.gw_val fun a W hp=>⟨[(26,.slice (some ⟨w0.heap.size,0,none⟩) (sk.size+160) (sk.size+160)),(28,.int .i64 (sk.size:Int))],.slice (some ⟨w0.heap.size,0,none⟩) sk.size (sk.size+160),W,⟨hp.n 0 26 (by kernel_rfl) (by kernel_rfl),hp.n 2 28 (by kernel_rfl) (by kernel_rfl),trivial⟩,by
   rw [Prod.mk.injEq]
   refine ⟨by kernel_rfl,?_⟩
   show ((Instr.sliceAt 22 (.slice (some ⟨w0.heap.size,0,none⟩) (sk.size+160) (sk.size+160)) none (some (.int .i64 (sk.size:Int))) none) >>= fun v=>pure (Next.value v)).run Tryz.prog W=_
   rw [Sem.run_bind,slLent _ _ (by have:=H1.out;omega)]
   rfl,Below.refl _ _,rfl⟩,
  RG.gw_val fun a W hp=>⟨[(6,.slice (some ⟨k1,0,none⟩) (tx.size+160) (tx.size+160))],.slice (some ⟨k1,0,none⟩) (tx.size+160) (tx.size+160),W,⟨hp.o 6 (by kernel_rfl),trivial⟩,by kernel_rfl,Below.refl _ _,rfl⟩,
  RG.gw_val fun a W hp=>⟨[(1,.string tx)],.string tx,W,⟨hp.o 1 (by kernel_rfl),trivial⟩,by kernel_rfl,Below.refl _ _,rfl⟩,
  RG.gw_val fun a W hp=>⟨[(31,.string tx)],.int .i64 (tx.size:Int),W,⟨hp.n 5 31 (by kernel_rfl) (by kernel_rfl),trivial⟩,by kernel_rfl,Below.refl _ _,rfl⟩,
  RG.gw_val fun a W hp=>⟨[(30,.slice (some ⟨k1,0,none⟩) (tx.size+160) (tx.size+160)),(32,.int .i64 (tx.size:Int))],.slice (some ⟨k1,0,none⟩) tx.size (tx.size+160),W,⟨hp.n 4 30 (by kernel_rfl) (by kernel_rfl),hp.n 6 32 (by kernel_rfl) (by kernel_rfl),trivial⟩,by
   rw [Prod.mk.injEq]
   refine ⟨by kernel_rfl,?_⟩
   show ((Instr.sliceAt 22 (.slice (some ⟨k1,0,none⟩) (tx.size+160) (tx.size+160)) none (some (.int .i64 (tx.size:Int))) none) >>= fun v=>pure (Next.value v)).run Tryz.prog W=_
   rw [Sem.run_bind,slLent _ _ (by have:=H2.out;omega)]
   rfl,Below.refl _ _,rfl⟩,
  RG.gw_call fun a W hp=>⟨[(29,.slice (some ⟨w0.heap.size,0,none⟩) sk.size (sk.size+160)),(33,.slice (some ⟨k1,0,none⟩) tx.size (tx.size+160))],8,#[.slice (some ⟨w0.heap.size,0,none⟩) sk.size (sk.size+160),.slice (some ⟨k1,0,none⟩) tx.size (tx.size+160)],⟨hp.n 3 29 (by kernel_rfl) (by kernel_rfl),hp.n 7 33 (by kernel_rfl) (by kernel_rfl),trivial⟩,by kernel_rfl,HP.out w0 W k1 hp.b⟩,
  RG.gw_val fun a W hp=>⟨[(34,a.eval (.tmp 34))],a.eval (.tmp 34),W,⟨rfl,trivial⟩,by kernel_rfl,Below.refl _ _,hp.n 8 34 (by kernel_rfl) (by kernel_rfl)⟩,
  RG.gw_val fun a W hp=>by
   obtain ⟨q,n,cap,he,hc⟩:=(hp.n 9 25 (by kernel_rfl) (by kernel_rfl):∃ q n cap,a.eval (.tmp 25)=.tuple #[.slice q n cap,.int .i64 ec]∧Cv W q n cap T)
   exact ⟨[(25,.tuple #[.slice q n cap,.int .i64 ec])],.slice q n cap,W,⟨he,trivial⟩,by kernel_rfl,Below.refl _ _,q,n,cap,rfl,hc⟩,
  RG.gw_val fun a W hp=>by
   obtain ⟨q,n,cap,he,hc⟩:=(hp.n 9 25 (by kernel_rfl) (by kernel_rfl):∃ q n cap,a.eval (.tmp 25)=.tuple #[.slice q n cap,.int .i64 ec]∧Cv W q n cap T)
   exact ⟨[(25,.tuple #[.slice q n cap,.int .i64 ec])],.int .i64 ec,W,⟨he,trivial⟩,by kernel_rfl,Below.refl _ _,rfl⟩,
  RG.gw_val fun a W hp=>⟨[(35,a.eval (.tmp 35))],a.eval (.tmp 35),W,⟨rfl,trivial⟩,by kernel_rfl,Below.refl _ _,hp.n 10 35 (by kernel_rfl) (by kernel_rfl)⟩,
  RG.gw_val fun a W hp=>⟨[(36,a.eval (.tmp 36))],a.eval (.tmp 36),W,⟨rfl,trivial⟩,by kernel_rfl,Below.refl _ _,hp.n 11 36 (by kernel_rfl) (by kernel_rfl)⟩,trivial⟩ K2.out.drew ?_
 intro V w3 hR hB
 obtain ⟨q,n,cap,hV,hC⟩:=(hR 12 (Nat.lt_of_succ_le (Nat.le_of_ble_eq_true (by kernel_rfl))):∃ q n cap,V 12=.slice q n cap∧Cv w3 q n cap T)
 have hV13:V 13=.int .i64 ec:=hR 13 (Nat.lt_of_succ_le (Nat.le_of_ble_eq_true (by kernel_rfl)))
 have K3:Hid (Lw w0 w3 k1 sk tx∧Cv w3 q n cap T):=⟨hB,hC⟩
 dsimp only [RG.putV,Nat.reduceAdd]
 simp only [Act.put,List.setIfInBounds_toArray,List.set_cons_succ,List.set_cons_zero]
 rw [hV,hV13]
 clear hR hB hV hC hV13 K2
 generalize V 0=s0
 generalize V 1=s1
 generalize V 2=s2
 generalize V 3=s3
 generalize V 4=s4
 generalize V 5=s5
 generalize V 6=s6
 generalize V 7=s7
 generalize V 8=s8
 generalize V 9=s9
 generalize V 10=s10
 generalize V 11=s11
 go_wp2_with fail
 refine (Still_any w0.heap.size _ sk w3 H1.out K3.out.1.l0 rfl).mono ?_
 rintro e w4 ⟨rfl,hb4⟩
 have K4:Hid (Lw w0 w4 k1 sk tx∧Cv w4 q n cap T):=⟨K3.out.1.grow hb4,K3.out.2.grow hb4⟩
 clear hb4 K3
 go_wp2_with fail
 refine (Still_any k1 _ tx w4 H2.out K4.out.1.l1 rfl).mono ?_
 rintro e w5 ⟨rfl,hb5⟩
 have K5:Hid (Lw w0 w5 k1 sk tx∧Cv w5 q n cap T):=⟨K4.out.1.grow hb5,K4.out.2.grow hb5⟩
 clear hb5 K4
 go_wp2_with fail
 refine (HR.out w5).mono ?_
 rintro e w6 ⟨vv,rfl,hb6,rfl⟩
 have K6:Hid (Lw w0 w6 k1 sk tx∧Cv w6 q n cap T):=⟨K5.out.1.grow hb6,K5.out.2.grow hb6⟩
 clear hb6 K5
 have hcv:=K6.out.2.conv
 have eT:=str_eqL T
 go_wp2
 go_ret
 exact ⟨by simp,K6.out.1.bl⟩
theorem ordN:Ord Go.Proofs.YtmkllfekhehagadGreat.p1:=⟨gap1,refP1,by decide +kernel,by decide +kernel⟩
set_option maxHeartbeats 2000000 in
theorem signs_any (a b:ByteArray) (w0:World) :
 Calls Tryz.prog 3 #[.string a,.string b] w0 fun e w'=>e=.returned (.bool true)∧Below w0.heap.size w0 w':=by
 by_cases ha:a.size≤4096
 · by_cases hb:b.size≤4096
   · obtain ⟨P,hz,C⟩:=fl3
     exact signs_all C ordN a b ha hb w0
   · have g1:¬ (4096:Int) < (a.size:Int):=by omega
     have g2:(4096:Int) < (b.size:Int):=by omega
     go_enter Tryz.func3,Tryz.ntmps3
     go_wp2
     go_ret
     exact ⟨rfl,Below.refl _ _⟩
 · have g1:(4096:Int) < (a.size:Int):=by omega
   go_enter Tryz.func3,Tryz.ntmps3
   go_wp2
   go_ret
   exact ⟨rfl,Below.refl _ _⟩
end Go.Proofs.YtmkllfekhehagadGreat
/-
  THE ROW OF 'SigmaSigns' round its walk; the frame by the guide's program (howto/shells), the world behind the call told by 'Below'.
-/
namespace Go.Proofs.YtmkllfekhehagadGreat.sigmaSigns
open Go.ChangeShapes Go.WideShapes Go.ChangeAt Go.RowKit
open Go.ChangeMaps (open_string shut_string)
theorem own:ownKnob Tryz.prog.godebug=none:=by kernel_rfl
set_option maxRecDepth 100000 in
theorem lifted (os:Os) (started:os.Started) (H:Type) (enc:TypeId × Value→H) :
 ReturnsInHanded {} Tryz.checked os 3 .any (Rows.sigmaSignsSpec.pre6 enc Tryz.prog Tryz.f3 Rows.sigmaSignsRow.domain false) (Rows.sigmaSignsSpec.post enc Tryz.prog Tryz.f3 false true false false):=by
 refine returnsInHanded_of_change (C:=Tryz.checked) own started (by kernel_rfl) Tryz.func3
  (ChangeSpec.witness6 (enc:=enc) (C:=Tryz.checked) false ⟨#[],#[.string ByteArray.empty,.string ByteArray.empty],[]⟩ 8 (by kernel_rfl) (by kernel_rfl) (by kernel_rfl) (by kernel_rfl)) ?_
 intro W base args ds gs before hval0 hW hcnd _
 have hval:∀ (j:Nat) t v,Tryz.f3.params[j]? = some t→args[j]? = some v→Value.okWide Tryz.prog W .any base t v:=hval0
 have hW':=hW
 obtain ⟨p,q,hA0,hV,rfl,hfz,hnd⟩:=hW
 have hA:DataW.TrodAll enc Tryz.prog W 0 (fun _=>true) true Tryz.f3.params.toList args.toList ds p:=hA0
 rw [Tryz.params3] at hA hval
 obtain ⟨v0,vs0,d0,ds0,p0,q0,hargs,rfl,rfl,h0,r0⟩:=trodAll_cons hA
 obtain ⟨v1,vs1,d1,ds1,p1,q1,rfl,rfl,rfl,h1,r1⟩:=trodAll_cons r0
 obtain ⟨rfl,rfl,rfl⟩:=trodAll_nil r1
 obtain rfl:args=#[v0,v1]:=by cases args;simp_all
 obtain ⟨rfl,rfl⟩:=trodVars_none hV
 obtain ⟨a0,rfl,rfl,rfl,w0⟩:=open_string Tryz.underlying9 (hval 0 9 v0 rfl rfl) h0
 obtain ⟨a1,rfl,rfl,rfl,w1⟩:=open_string Tryz.underlying9 (hval 1 9 v1 rfl rfl) h1
 clear hA0 hval0
 refine (signs_any a0 a1 W).mono fun e W' ⟨he,bel⟩=>?_
 subst he
 exact ⟨_,rfl,_,_,_,[],_,[],hW',(trodAll_cons_mk (shut_bool Tryz.underlying4 _) trodAll_mk0),(trodAll_cons_mk (shut_string Tryz.underlying9 w0) (trodAll_cons_mk (shut_string Tryz.underlying9 w1) trodAll_mk0)),rfl,bel.frame _,fun h=>by cases h⟩
theorem over:Rows.sigmaSignsRow.holds Tryz.pinned (OpenSpec.ofChange Rows.sigmaSignsSpec) :=
 OpenClaim.holds_of_wide 3 Tryz.f3 rfl rfl rfl rfl rfl rfl rfl ⟨rfl,rfl,rfl,rfl,rfl⟩ rfl rfl rfl rfl rfl (by kernel_rfl) Tryz.func3 (by kernel_rfl)
  (of_decide_eq_true (by kernel_rfl)) (by unfold Func.isWrapper;first | (rw [if_pos (by decide +kernel)];kernel_rfl) | (rw [if_neg (by decide +kernel)];exact ⟨rfl,rfl⟩))
  (fun os started H enc _=>lifted os started H enc)
theorem proved:Rows.SigmaSignsSaid :=
 over
end Go.Proofs.YtmkllfekhehagadGreat.sigmaSigns
namespace Go.Proofs.YtmkllfekhehagadGreat
theorem sigmaSigns_holds:Rows.SigmaSignsSaid:=sigmaSigns.proved
#print axioms sigmaSigns_holds
end Go.Proofs.YtmkllfekhehagadGreat
