import Derived.Test.YtppdcphfphcbbabX2b
import Derived.BigQuiet
import Derived.StillTailTactics
import Derived.Lib.AppendZeros
namespace Go.Proofs.Ytppdcphfphcbbab
open Go.RowKit Go.Sort Go.Deep

/-- The first k bytes of a row, each one more. -/
def incTo (b : Bs) : Nat → Bs
  | 0 => b
  | k + 1 => (incTo b k).setIfInBounds k (b[k]! + 1)
theorem incTo_size (b : Bs) : ∀ k, (incTo b k).size = b.size
  | 0 => rfl
  | k + 1 => by rw [incTo, Array.size_setIfInBounds, incTo_size b k]
theorem incTo_at (b : Bs) : ∀ k j, k ≤ b.size → (incTo b k)[j]! = if j < k then b[j]! + 1 else b[j]!
  | 0, j, _ => by simp [incTo]
  | k + 1, j, hk => by
    rw [incTo]
    by_cases e : j = k
    · subst e
      rw [getElem!_set_same _ _ _ (by rw [incTo_size]; omega), if_pos (by omega)]
    · rw [getElem!_set_other _ _ _ _ e, incTo_at b k j (by omega)]
      by_cases h : j < k
      · rw [if_pos h, if_pos (by omega)]
      · rw [if_neg h, if_neg (by omega)]

/-- The rows, where i of them are done, and k bytes of row i. -/
def T2 (T : Nat → Bs) (i k : Nat) : Nat → Bs := fun j => if j < i then incTo (T j) 32 else if j = i then incTo (T j) k else T j
theorem T2_zero (T : Nat → Bs) : T2 T 0 0 = T := by
  funext j
  unfold T2
  rw [if_neg (by omega)]
  by_cases h : j = 0
  · rw [if_pos h]; rfl
  · rw [if_neg h]
theorem T2_next (T : Nat → Bs) (i : Nat) : T2 T i 32 = T2 T (i + 1) 0 := by
  funext j
  unfold T2
  by_cases h : j < i
  · rw [if_pos h, if_pos (by omega)]
  · rw [if_neg h]
    by_cases h2 : j = i
    · rw [if_pos h2, if_pos (by omega)]
    · rw [if_neg h2, if_neg (by omega)]
      by_cases h3 : j = i + 1
      · rw [if_pos h3]; rfl
      · rw [if_neg h3]
theorem T2_own (T : Nat → Bs) (i k : Nat) : T2 T i k i = incTo (T i) k := by unfold T2; rw [if_neg (by omega), if_pos rfl]
theorem T2_step (T : Nat → Bs) (i k : Nat) : upd (T2 T i k) i ((T2 T i k i).setIfInBounds k ((T i)[k]! + 1)) = T2 T i (k + 1) := by
  funext j
  by_cases h : j = i
  · subst h
    rw [upd_same, T2_own, T2_own]
    rfl
  · rw [upd_other _ _ _ _ h]
    unfold T2
    rw [if_neg h, if_neg h]

/-- What has grown of row j. -/
def T3 (T : Nat → Bs) (j : Nat) : Bs := (rowL (incTo (T j) 32) j 80).toArray
theorem T3_size (T : Nat → Bs) (j : Nat) (h : (T j).size = 32) : (T3 T j).size = 112 := by unfold T3; rw [List.size_toArray, rowL_length _ _ (by rw [incTo_size, h])]
theorem T2_all (T : Nat → Bs) (n j : Nat) (h : j < n) : T2 T n 0 j = incTo (T j) 32 := by unfold T2; rw [if_pos h]

theorem ub_succ (x : UInt8) : IntKind.u8.wrap (ub x + 1) = ub (x + 1) := by
  have H : ∀ j : Fin 256, IntKind.u8.wrap ((j.val : Int) + 1) = (((UInt8.ofNat j.val + 1).toNat : Nat) : Int) := by decide +kernel
  have := H ⟨x.toNat, x.toNat_lt⟩
  unfold ub
  simp only [UInt8.ofNat_toNat] at this
  exact this

/-- All that stands behind the writing. -/
structure Stand (w W : World) (B kl n : Nat) (G : Nat → Nat) (T : Nat → Bs) (sv gv : Value) : Prop where
  bl : Below B w W
  r : Rack W kl n G (T2 T n 0)
  s : SL W w.heap.size n sv (fun j => ⟨T j⟩)
  g : GL W w.heap.size n gv (T3 T)
theorem Stand.drewN {w W : World} {B kl n : Nat} {G : Nat → Nat} {T : Nat → Bs} {sv gv : Value} (h : Stand w W B kl n G T sv gv) (q : Nat) : Stand w (W.drewN q) B kl n G T sv gv :=
  ⟨⟨h.bl.os, h.bl.tape, h.bl.output, h.bl.size, h.bl.block⟩, h.r.drewN q, h.s.drewN q, h.g.drewN q⟩
/-- Row p, as it is looked at. -/
structure Look (W : World) (kl gs gg p g gx cx : Nat) (s : ByteArray) (b b3 : Bs) : Prop where
  cl : W.cell? ⟨kl, p, none⟩ = some (.slice (some ⟨g, 0, none⟩) 32 32)
  cs : W.cell? ⟨gs, p, none⟩ = some (.string s)
  cg : W.cell? ⟨gg, p, none⟩ = some (.slice (some ⟨gx, 0, none⟩) 112 cx)
  hl : Holds encB W g 0 b
  hg : Holds encB W gx 0 b3
theorem Look.drewN {W : World} {kl gs gg p g gx cx : Nat} {s : ByteArray} {b b3 : Bs} (h : Look W kl gs gg p g gx cx s b b3) (q : Nat) : Look (W.drewN q) kl gs gg p g gx cx s b b3 := ⟨h.cl, h.cs, h.cg, h.hl, h.hg⟩

set_option maxHeartbeats 4000000 in
set_option maxRecDepth 100000 in
theorem Apart_any (kl n c B : Nat) (q : Option Addr) (G : Nat → Nat) (T : Nat → Bs) (w : World) (hn : n ≤ 256) (hq : 0 < n → q = some ⟨kl, 0, none⟩ ∧ kl < w.heap.size) (hR : Rack w kl n G T) (hB : ∀ j, j < n → B ≤ G j) (hBw : B ≤ w.heap.size) :
    Calls Try.prog 29 #[.slice q n c] w (Ret fun e w' => Below B w w' ∧ e = .bool true) := by
  have HR : Hid (Rack w kl n G T) := hR
  have HB : Hid (∀ j, j < n → B ≤ G j) := hB
  have HQ : Hid (0 < n → q = some ⟨kl, 0, none⟩ ∧ kl < w.heap.size) := hq
  have HGL : Hid (∀ j, j < n → G j < w.heap.size) := fun j hj => hR.lt hj
  clear hR hB hq
  go_enter Try.func29, Try.ntmps29
  go_wp2
  go_loopg [3, 4] n (fun gk s3 s4 wr => ∃ (i : Nat) (sv : Value), i + gk = n ∧ sv = s3 ∧ s4 = .int .i64 (i : Int) ∧ Below w.heap.size w wr ∧ Hid (SL wr w.heap.size i sv (fun j => ⟨T j⟩)))
  case atStart => exact ⟨0, _, Nat.zero_add _, rfl, rfl, Below.refl _ _, Or.inl ⟨rfl, rfl⟩⟩
  case round =>
    obtain ⟨i, sv, hi, rfl, rfl, hb, HS⟩ := hrel
    by_cases hlt : i < n
    · have hlt' : (i : Int) < (n : Int) := by omega
      obtain ⟨rfl, hkl⟩ := HQ.out (by omega)
      have hc : wr.cell? ⟨kl, i, none⟩ = some (.slice (some ⟨G i, 0, none⟩) 32 32) := by rw [hb.cell (p := ⟨kl, i, none⟩) hkl]; exact HR.out.cell i hlt
      have hcv := conv_str Try.prog 23 9 5 slice22 int5 str9 wr (G i) 0 32 32 _ (Holds.below (HR.out.hold i hlt) hb (HGL.out i hlt)) (HR.out.sz i hlt)
      obtain ⟨v', w3, hap, hL3, hb3⟩ := SL.push HS.out hb.size (by omega) (x := ⟨T i⟩) rfl
      have HL3 : Hid _ := hL3
      generalize G i = g at hc hcv
      generalize (⟨T i⟩ : ByteArray) = s at hcv hap
      clear hkl hL3
      go_wp2_with (at_builtin; refine Lib.wpList_append_run _ rfl _ _ 45 45 rfl _ _ rfl rfl _ _ hap ?_)
      go_roundg (gk - 1)
      case measure => omega
      case rel => exact ⟨i + 1, _, by omega, rfl, rfl, hb.trans hb3, HL3.out⟩
    · have hge : ¬ (i : Int) < (n : Int) := by omega
      have hin : i = n := by omega
      subst hin
      have HR1 : Hid (Rack wr kl i G (T2 T 0 0)) := by
        unfold Hid
        rw [T2_zero]
        by_cases h0 : 0 < i
        · exact HR.out.below hb (HQ.out h0).2 HGL.out
        · exact ⟨fun j hj => absurd hj (by omega), fun j hj => absurd hj (by omega), fun j hj => absurd hj (by omega), fun j hj => absurd hj (by omega), fun j j' hj => absurd hj (by omega)⟩
      have HS1 : Hid (SL wr w.heap.size i sv (fun j => ⟨T j⟩)) := HS
      have hbB : Below B w wr := hb.mono hBw
      have hsz := hb.size
      clear HR HS hb hi hlt
      go_wp2
      clear hge
      go_loopg [5] i (fun gk s5 wr => ∃ k : Nat, k + gk = i ∧ s5 = .int .i64 (k : Int) ∧ Below B w wr ∧ w.heap.size ≤ wr.heap.size ∧ Hid (Rack wr kl i G (T2 T k 0)) ∧ Hid (SL wr w.heap.size i sv (fun j => ⟨T j⟩)))
      case atStart => exact ⟨0, Nat.zero_add _, rfl, hbB, hsz, HR1, HS1⟩
      case round =>
        clear HR1 HS1 hbB hsz
        obtain ⟨k, hk, rfl, hbB, hsz, HR1, HS1⟩ := hrel
        by_cases hlt : k < i
        · have hlt' : (k : Int) < (i : Int) := by omega
          obtain ⟨rfl, hkl⟩ := HQ.out (by omega)
          go_wp2
          go_loopg [6] 32 (fun gj s6 wr => ∃ j : Nat, j + gj = 32 ∧ s6 = .int .i64 (j : Int) ∧ Below B w wr ∧ w.heap.size ≤ wr.heap.size ∧ Hid (Rack wr kl i G (T2 T k j)) ∧ Hid (SL wr w.heap.size i sv (fun j => ⟨T j⟩)))
          case atStart => exact ⟨0, Nat.zero_add _, rfl, hbB, hsz, HR1, HS1⟩
          case round =>
            clear HR1 HS1 hbB hsz
            obtain ⟨j, hj, rfl, hbB, hsz, HR1, HS1⟩ := hrel
            have hc : wr.cell? ⟨kl, k, none⟩ = some (.slice (some ⟨G k, 0, none⟩) 32 32) := HR1.out.cell k hlt
            by_cases hj2 : j < 32
            · have hj3 : (j : Int) < 32 := by omega
              obtain ⟨x, hx⟩ : ∃ x, (T k)[j]! = x := ⟨_, rfl⟩
              have hh := HR1.out.hold k hlt j (by rw [HR1.out.sz k hlt]; exact hj2)
              have hsk : (T k).size = 32 := by have := HR1.out.sz k hlt; rw [T2_own, incTo_size] at this; exact this
              rw [T2_own, incTo_at _ _ _ (by omega), if_neg (by omega), hx, Nat.zero_add] at hh
              obtain ⟨hb0, hf0⟩ := hh
              unfold encB at hb0
              have hw := ub_succ x
              have HR2 : Hid (Rack (wr.setCell ⟨G k, j, none⟩ (encB (x + 1))) kl i G (T2 T k (j + 1))) := by
                unfold Hid
                rw [← T2_step, hx]
                exact HR1.out.set hlt hj2 (x + 1)
              have HS2 : Hid (SL (wr.setCell ⟨G k, j, none⟩ (encB (x + 1))) w.heap.size i sv (fun j => ⟨T j⟩)) := by
                refine SL.only HS1.out ((Only.refl (G k) 0 32 wr).setCell (o := j) (by omega) (by omega) _) (fun s e => ?_)
                have h0 := (HR1.out.hold k hlt 0 (by rw [HR1.out.sz k hlt]; omega)).1
                rw [Nat.zero_add, e] at h0
                cases h0
              have HB2 : Hid (Below B w (wr.setCell ⟨G k, j, none⟩ (encB (x + 1)))) := hbB.trans (((Only.refl (G k) 0 32 wr).setCell (o := j) (by omega) (by omega) _).below (by omega) (HB.out k hlt))
              unfold encB at HR2 HS2 HB2
              generalize G k = g at hc hb0 hf0 HR2 HS2 HB2
              clear HR1 HS1 hbB hsk hx
              generalize ub x = u at hb0 hw
              go_wp2_with fail
              go_still_tail 14, mixed
              go_wp2
              go_roundg (gk - 1)
              case measure => omega
              case rel => exact ⟨j + 1, by omega, rfl, HB2.out.drew, by simp only [World.size_setCell, World.size_drew]; exact hsz, HR2.out.drew, HS2.out.drew⟩
            · have hj3 : ¬ (j : Int) < 32 := by omega
              have hj4 : j = 32 := by omega
              subst hj4
              go_wp2
              go_roundg (i - (k + 1))
              case measure => omega
              case rel => exact ⟨k + 1, by omega, rfl, hbB, hsz, by rw [← T2_next]; exact HR1, HS1⟩
        · have hge : ¬ (k : Int) < (i : Int) := by omega
          have hki : k = i := by omega
          subst hki
          clear hlt hk
          go_wp2
          clear hge
          go_loopg [7, 8] k (fun gk s7 s8 wr => ∃ (i : Nat) (gv : Value), i + gk = k ∧ gv = s7 ∧ s8 = .int .i64 (i : Int) ∧ Below B w wr ∧ w.heap.size ≤ wr.heap.size ∧ Hid (Rack wr kl k G (T2 T k 0)) ∧ Hid (SL wr w.heap.size k sv (fun j => ⟨T j⟩)) ∧ Hid (GL wr w.heap.size i gv (T3 T)))
          case atStart => exact ⟨0, _, Nat.zero_add _, rfl, rfl, hbB, hsz, HR1, HS1, Or.inl ⟨rfl, rfl⟩⟩
          case round =>
            clear HR1 HS1 hbB hsz
            obtain ⟨i, gv, hi, rfl, rfl, hbB, hsz, HR1, HS1, HG1⟩ := hrel
            by_cases hlt : i < k
            · have hlt' : (i : Int) < (k : Int) := by omega
              obtain ⟨rfl, hkl⟩ := HQ.out (by omega)
              have hc : wr.cell? ⟨kl, i, none⟩ = some (.slice (some ⟨G i, 0, none⟩) 32 32) := HR1.out.cell i hlt
              have HT : Hid ((T i).size = 32) := by have := HR1.out.sz i hlt; rw [T2_all _ _ _ hlt, incTo_size] at this; exact this
              have HH : Hid (Holds encB wr (G i) 0 (incTo (T i) 32)) := by have := HR1.out.hold i hlt; rw [T2_all _ _ _ hlt] at this; exact this
              go_wp2
              clear hc
              generalize wr = w5 at hbB hsz HR1 HS1 HG1 HH ⊢
              go_loopg [9, 10] 80 (fun gk s9 s10 wr => ∃ (j : Nat) (bv : Value), j + gk = 80 ∧ bv = s9 ∧ s10 = .int .i64 (j : Int) ∧ Below w5.heap.size w5 wr ∧ Hid (GB wr w5.heap.size (G i) bv (incTo (T i) 32) i j))
              case atStart => exact ⟨0, _, Nat.zero_add _, rfl, rfl, Below.refl _ _, Or.inl ⟨rfl, rfl⟩⟩
              case round =>
                obtain ⟨j, bv, hj, rfl, rfl, hb5, HGB⟩ := hrel
                by_cases hj2 : j < 80
                · have hj3 : (j : Int) < 80 := by omega
                  have hf := fillB_int i j
                  obtain ⟨v', w3, hap, hL3, hb3⟩ := GB.push HGB.out (Holds.below HH.out hb5 (Holds.lt HH.out (by rw [incTo_size, HT.out]; omega))) (by rw [incTo_size, HT.out]) hb5.size (by omega) (x := .int .u8 (ub (fillB i j))) rfl
                  have HL3 : Hid _ := hL3
                  clear hL3
                  generalize ub (fillB i j) = u at hf hap
                  go_wp2_with (at_builtin; refine Lib.wpList_append_run _ rfl _ _ 23 23 rfl _ _ rfl rfl _ _ hap ?_)
                  go_roundg (gk - 1)
                  case measure => omega
                  case rel => exact ⟨j + 1, _, by omega, rfl, rfl, hb5.trans hb3, HL3.out⟩
                · have hj3 : ¬ (j : Int) < 80 := by omega
                  have hj4 : j = 80 := by omega
                  subst hj4
                  obtain ⟨g, cap, rfl, hg, hH⟩ := HGB.out.done
                  have hs5 := hb5.size
                  have hTs := T3_size T i HT.out
                  obtain ⟨v', w3, hap, hL3, hS3, hb3⟩ := GL.push (HG1.out.below hb5) (HS1.out.below hb5) (by omega) (by omega) (gx := g) (c := cap) (by omega) (by omega) hH (l := 112) hTs.symm
                  have HL3 : Hid _ := hL3
                  have HS3 : Hid _ := hS3
                  have hb6 : Below w.heap.size w5 w3 := (hb5.mono hsz).trans hb3
                  have HR3 : Hid (Rack w3 kl k G (T2 T k 0)) := HR1.out.below hb6 hkl HGL.out
                  have hs3 := hb6.size
                  clear hL3 hS3 hH HGB HH hTs
                  go_wp2_with (at_builtin; refine Lib.wpList_append_run _ rfl _ _ 46 46 rfl _ _ rfl rfl _ _ hap ?_)
                  go_roundg (k - (i + 1))
                  case measure => omega
                  case rel => exact ⟨i + 1, _, by omega, rfl, rfl, hbB.trans (hb6.mono hBw), by omega, HR3, HS3.out, HL3.out⟩
            · have hge : ¬ (i : Int) < (k : Int) := by omega
              have hki : i = k := by omega
              subst hki
              clear hlt hi
              go_wp2
              clear hge
              go_loopg [11] i (fun gk s11 wr => ∃ p : Nat, p + gk = i ∧ s11 = .int .i64 (p : Int) ∧ Hid (Stand w wr B kl i G T sv gv))
              case atStart => exact ⟨0, Nat.zero_add _, rfl, hbB, HR1, HS1, HG1⟩
              case round =>
                clear HR1 HS1 HG1 hbB hsz
                obtain ⟨p, hp, rfl, HST⟩ := hrel
                by_cases hlt : p < i
                · have hlt' : (p : Int) < (i : Int) := by omega
                  obtain ⟨rfl, hkl⟩ := HQ.out (by omega)
                  obtain ⟨gs, cs, rfl, hS⟩ := HST.out.s.at (by omega)
                  obtain ⟨gg, cg, rfl, hG⟩ := HST.out.g.at (by omega)
                  obtain ⟨gx, cx, hcg, hHg⟩ := hG p hlt
                  have hcs := hS p hlt
                  have hcl := HST.out.r.cell p hlt
                  have hHl := HST.out.r.hold p hlt
                  have hT : (T p).size = 32 := by have := HST.out.r.sz p hlt; rw [T2_all _ _ _ hlt, incTo_size] at this; exact this
                  rw [T2_all _ _ _ hlt] at hHl
                  rw [T3_size T p hT] at hcg
                  have HLK : Hid (Look wr kl gs gg p (G p) gx cx ⟨T p⟩ (incTo (T p) 32) (T3 T p)) := ⟨hcl, hcs, hcg, hHl, hHg⟩
                  have HB1 : Hid (∀ j, j < 32 → (incTo (T p) 32)[j]! = (T p)[j]! + 1) := fun j hj => by rw [incTo_at _ _ _ (by omega), if_pos hj]
                  have HB2 : Hid (∀ j, j < 32 → (T3 T p)[j]! = (T p)[j]! + 1) := fun j hj => by
                    unfold T3
                    rw [list_arr _ _ (by rw [rowL_length _ _ (by rw [incTo_size, hT])]; omega), rowL_low _ _ (by rw [incTo_size, hT]) _ hj, incTo_at _ _ _ (by omega), if_pos hj]
                  have HB3 : Hid (∀ j, j < 80 → (T3 T p)[32 + j]! = fillB p j) := fun j hj => by
                    unfold T3
                    rw [list_arr _ _ (by rw [rowL_length _ _ (by rw [incTo_size, hT])]; omega), rowL_high _ _ (by rw [incTo_size, hT]) _ _ hj]
                  have HSS : Hid ((incTo (T p) 32).size = 32 ∧ (T3 T p).size = 112) := ⟨by rw [incTo_size, hT], T3_size T p hT⟩
                  generalize incTo (T p) 32 = b at HLK HB1 HSS
                  generalize T3 T p = b3 at HLK HB2 HB3 HSS
                  generalize G p = g at HLK hcl
                  obtain ⟨s, hs⟩ : ∃ s : ByteArray, s = ⟨T p⟩ := ⟨_, rfl⟩
                  rw [← hs] at HLK hcs
                  have hsz : s.size = 32 := by rw [hs]; exact hT
                  have hsz' : (s.size : Int) = 32 := by omega
                  have HSX : Hid (∀ j (h : j < s.size), s[j] = (T p)[j]!) := fun j h => by
                    subst hs
                    have h' : j < (T p).size := h
                    rw [getElem!_pos (T p) j h']
                    rfl
                  clear hS hG hHg hHl hT hs
                  go_wp2_with fail
                  go_quiet (fail)
                  have HST1 : Hid _ := HST.out.drewN nq
                  have HLK1 : Hid _ := HLK.out.drewN nq
                  clear HST HLK hcs hcg hcl
                  generalize wr.drewN nq = w6 at HST1 HLK1 ⊢
                  go_wp2
                  go_loopg [12] 32 (fun gk s12 wr => ∃ j : Nat, j + gk = 32 ∧ s12 = .int .i64 (j : Int) ∧ Hid (Stand w wr B kl i G T (.slice (some ⟨gs, 0, none⟩) i cs) (.slice (some ⟨gg, 0, none⟩) i cg)) ∧ Hid (Look wr kl gs gg p g gx cx s b b3))
                  case atStart => exact ⟨0, Nat.zero_add _, rfl, HST1, HLK1⟩
                  case round =>
                    clear HST1 HLK1
                    obtain ⟨j, hj, rfl, HST, HLK⟩ := hrel
                    have hcs := HLK.out.cs
                    by_cases hj2 : j < 32
                    · have hj3 : (j : Int) < 32 := by omega
                      have hj4 : j < s.size := by omega
                      have hj5 : (j : Int) < (s.size : Int) := by omega
                      have hj6 : (j : Int) < 112 := by omega
                      have hcl := HLK.out.cl
                      have hcg := HLK.out.cg
                      obtain ⟨h1, -⟩ := HLK.out.hl j (by rw [HSS.out.1]; exact hj2)
                      obtain ⟨h2, -⟩ := HLK.out.hg j (by rw [HSS.out.2]; omega)
                      rw [HB1.out j hj2, Nat.zero_add] at h1
                      rw [HB2.out j hj2, Nat.zero_add] at h2
                      have hw : IntKind.u8.wrap ((s[j].toNat : Int) + 1) = ub ((T p)[j]! + 1) := by rw [HSX.out j hj4]; exact ub_succ _
                      unfold encB at h1 h2
                      generalize ub ((T p)[j]! + 1) = u at h1 h2 hw
                      go_wp2_with fail
                      go_quiet (fail)
                      have HST1 : Hid _ := HST.out.drewN nq
                      have HLK1 : Hid _ := HLK.out.drewN nq
                      clear HST HLK hcs hcg hcl h1 h2 hw
                      generalize wr.drewN nq = w7 at HST1 HLK1 ⊢
                      go_wp2
                      go_roundg (gk - 1)
                      case measure => omega
                      case rel => exact ⟨j + 1, by omega, rfl, HST1, HLK1⟩
                    · have hj3 : ¬ (j : Int) < 32 := by omega
                      go_wp2
                      clear hcs hj3
                      go_loopg [13] 80 (fun gk s13 wr => ∃ j : Nat, j + gk = 80 ∧ s13 = .int .i64 (j : Int) ∧ Hid (Stand w wr B kl i G T (.slice (some ⟨gs, 0, none⟩) i cs) (.slice (some ⟨gg, 0, none⟩) i cg)) ∧ Hid (Look wr kl gs gg p g gx cx s b b3))
                      case atStart => exact ⟨0, Nat.zero_add _, rfl, HST, HLK⟩
                      case round =>
                        clear HST HLK hj hj2
                        obtain ⟨j, hj, rfl, HST, HLK⟩ := hrel
                        by_cases hj2 : j < 80
                        · have hj3 : (j : Int) < 80 := by omega
                          have hcs := HLK.out.cs
                          have hcg := HLK.out.cg
                          obtain ⟨m, hm⟩ : ∃ m, 32 + j = m := ⟨_, rfl⟩
                          have i1 : (32 : Int) + (j : Int) = (m : Int) := by omega
                          have i2 : (m : Int) < 112 := by omega
                          obtain ⟨h2, -⟩ := HLK.out.hg m (by rw [HSS.out.2]; omega)
                          rw [← hm, HB3.out j hj2, hm, Nat.zero_add] at h2
                          have hf := fillB_int p j
                          unfold encB at h2
                          generalize ub (fillB p j) = u at h2 hf
                          go_wp2_with fail
                          go_quiet (fail)
                          have HST1 : Hid _ := HST.out.drewN nq
                          have HLK1 : Hid _ := HLK.out.drewN nq
                          clear HST HLK hcs hcg h2 hf
                          generalize wr.drewN nq = w7 at HST1 HLK1 ⊢
                          go_wp2
                          go_roundg (gk - 1)
                          case measure => omega
                          case rel => exact ⟨j + 1, by omega, rfl, HST1, HLK1⟩
                        · have hj3 : ¬ (j : Int) < 80 := by omega
                          go_wp2
                          go_roundg (i - (p + 1))
                          case measure => omega
                          case rel => exact ⟨p + 1, by omega, rfl, HST⟩
                · have hge : ¬ (p : Int) < (i : Int) := by omega
                  go_wp2
                  go_ret
                  exact ⟨_, rfl, HST.out.bl, by simp⟩
end Go.Proofs.Ytppdcphfphcbbab
