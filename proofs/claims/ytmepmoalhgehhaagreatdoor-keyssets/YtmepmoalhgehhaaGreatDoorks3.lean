import Derived.WalkKit
import Derived.Test.YtmepmoalhgehhaaGreatDoorRows
import Derived.Lib.Mul64
import Derived.Laws.Bits64b
import Derived.Laws.Externs
import Derived.Sort.Row
import Derived.Below
import Derived.Deep.LoopGhost
import Derived.Deep.QuietTactic
import Derived.StillTailTactics
import Derived.BigRegion
import Derived.BigQuiet
import Derived.WalkSpells
import Derived.WalkLawsBesides
import Derived.Deep.Draws
import Derived.Deep.OwnRows
import Derived.Lib.LazyBuf
import Derived.Lib.ConvBytes
import Derived.Laws.MathBits
import Derived.Deep.MidRow
import Derived.OrdersHeld
import Derived.Test.YtmepmoalhgehhaaGreatDoorks2
set_option linter.unusedVariables false
set_option linter.unusedSimpArgs false
namespace Go.Proofs.YtmepmoalhgehhaaGreatDoor.SP
open Go.RowKit Go.Sort Go.Deep
attribute [local go_sem] bits_xor8
theorem holds_one (w : World) (x : UInt8) : Holds encB (w.alloc (.cells #[.int .u8 (ub x)] 5)) w.heap.size 0 #[x] := by
  have h := Holds.new (enc := encB) w 5 #[x]
  have e : Array.map encB #[x] = #[.int .u8 (ub x)] := by simp [encB]
  rw [e] at h
  exact h
/-- The bytes with the ending and k noughts behind them. -/
def padT (l : List UInt8) (e : UInt8) (k : Nat) : List UInt8 := l ++ e :: List.replicate k 0
theorem padT_length (l : List UInt8) (e : UInt8) (k : Nat) : (padT l e k).length = l.length + 1 + k := by
  unfold padT
  rw [List.length_append, List.length_cons, List.length_replicate]
  omega
theorem padT_next (l : List UInt8) (e : UInt8) (k : Nat) : padT l e k ++ [0] = padT l e (k + 1) := by
  unfold padT
  rw [List.append_assoc, List.cons_append, List.replicate_succ']
theorem padT_total (l : List UInt8) (e : UInt8) : (padT l e (135 - l.length % 136)).set (l.length + (135 - l.length % 136)) ((padT l e (135 - l.length % 136))[l.length + (135 - l.length % 136)]! ^^^ 128) = total l e := by
  unfold padT total tailpad
  rw [List.set_append_right _ _ (by omega), Nat.add_sub_cancel_left, list_app_back _ _ _ (by omega) (by rw [List.length_cons, List.length_replicate]; omega), Nat.add_sub_cancel_left]
theorem list_set_at (l : List UInt8) (i j : Nat) (x : UInt8) (hj : j < l.length) : (l.set i x)[j]! = if i = j then x else l[j]! := by
  rw [getElem!_pos (l.set i x) j (by rw [List.length_set]; exact hj), List.getElem_set, getElem!_pos l j hj]
theorem total_at (l : List UInt8) (e : UInt8) (cur : Bs) (L k : Nat) (hk : k = 135 - l.length % 136) (hL : L = l.length + 1 + k) (hc : L ≤ cur.size) (hT : ∀ j, j < L → cur[j]! = (padT l e k)[j]!) :
    ∀ j, j < L → (cur.setIfInBounds (L - 1) (cur[L - 1]! ^^^ 128))[j]! = (total l e)[j]! := by
  intro j hj
  have hpl := padT_length l e k
  rw [← padT_total, ← hk, list_set_at _ _ _ _ (by omega), show l.length + k = L - 1 by omega]
  by_cases h : j = L - 1
  · rw [if_pos h.symm, h, getElem!_set_same _ _ _ (by omega), hT _ (by omega)]
  · rw [if_neg (by omega), getElem!_set_other _ _ _ _ h, hT _ hj]
theorem stream_bytes (o : ByteArray) (d : St) (n m : Nat) (ho : o.size = 136 * m) (hnm : n ≤ 136 * m) (h : ∀ j, j < 136 * m → o.data[j]! = streamAt d j) : o.extract 0 n = ⟨streamL d n⟩ := by
  apply ByteArray.ext
  have hd : (o.extract 0 n).data = o.data.extract 0 n := ByteArray.data_extract
  have hs : o.data.size = 136 * m := ho
  rw [hd]
  refine bs_ext _ _ n (by rw [Array.size_extract, hs]; omega) (streamL_size _ _) (fun j hj => ?_)
  have h1 : j < (o.data.extract 0 n).size := by rw [Array.size_extract, hs]; omega
  have h2 : j < o.data.size := by omega
  have h3 := h j (by omega)
  rw [getElem!_pos o.data j h2] at h3
  rw [streamL_at _ _ _ hj, ← h3, getElem!_pos (o.data.extract 0 n) j h1, Array.getElem_extract]
  simp only [Nat.zero_add]
theorem out_next (o : ByteArray) (d : St) (m : Nat) (p : Bs) (hp : p.size = 136) (hpa : ∀ j, j < 136 → p[j]! = byteOf (permN d m) j) (ho : o.size = 136 * m) (h : ∀ j, j < 136 * m → o.data[j]! = streamAt d j) :
    (o ++ ⟨p⟩).size = 136 * (m + 1) ∧ ∀ j, j < 136 * (m + 1) → (o ++ (⟨p⟩ : ByteArray)).data[j]! = streamAt d j := by
  have hd : (o ++ (⟨p⟩ : ByteArray)).data = o.data ++ p := ByteArray.data_append
  have hs : o.data.size = 136 * m := ho
  refine ⟨?_, fun j hj => ?_⟩
  · show (o ++ (⟨p⟩ : ByteArray)).data.size = _
    rw [hd, Array.size_append, hp, hs]
    omega
  · rw [hd]
    by_cases h1 : j < 136 * m
    · have h2 : j < o.data.size := by omega
      have h3 := h j h1
      rw [getElem!_pos o.data j h2] at h3
      rw [app_front _ _ j h2, h3]
    · rw [app_back _ _ j (by omega) (by omega), hs, hpa _ (by omega)]
      unfold streamAt
      rw [show j / 136 = m by omega, show j % 136 = j - 136 * m by omega]
theorem conv200 (w : World) (p : Bs) (h : p.size = 200) :
    ∃ sc w', (convert 9 24 (.string ⟨p⟩)).run Tryz.prog w = .ok (.slice (some ⟨w.heap.size, 0, none⟩) 200 sc) w' ∧ 200 ≤ sc ∧ Holds encB w' w.heap.size 0 p ∧ Below w.heap.size w w' := by
  obtain ⟨v, w', hcv, own, hb, hv⟩ := conv_bytes (w := w) (B := 0) ⟨p⟩ (Nat.zero_le _)
  have hps : (ByteArray.mk p).size = 200 := h
  have hpl : (ByteArray.mk p).data.toList.length = 200 := by rw [Array.length_toList]; exact h
  rw [hv] at hcv own
  rw [hps] at hcv own
  obtain ⟨_, _, hle, hH⟩ := own.holds
  exact ⟨_, _, hcv, by omega, by simpa using hH, hb⟩
theorem front_front (d : St) : Array.size (front d 136) ≤ Array.size (front d 200) ∧ ∀ j, j < (front d 136).size → (front d 136)[j]! = (front d 200)[j]! := by
  refine ⟨by rw [front_size, front_size]; omega, fun j hj => ?_⟩
  rw [front_size] at hj
  rw [front_at _ _ _ hj, front_at _ _ _ (by omega)]
set_option maxHeartbeats 2000000 in
set_option maxRecDepth 100000 in
theorem refSponge_any (s : ByteArray) (e : UInt8) (n : Nat) (w : World) (hs : s.size ≤ 1048576) (hn : n ≤ 16384) :
    Calls Tryz.prog 59 #[.string s, .int .u8 (ub e), .int .i64 (n : Int)] w fun r w' => r = .returned (.string ⟨streamL (absorb s.data.toList e) n⟩) ∧ Below w.heap.size w w' := by
  obtain ⟨v0, w0, hcv, own0, hb0, hv0⟩ := conv_bytes (w := w) (B := w.heap.size) s (Nat.le_refl _)
  rw [hv0] at hcv own0
  have hsz0 : w.heap.size ≤ w0.heap.size := hb0.size
  have hX := holds_one w0 e
  have hbx : Below w0.heap.size w0 (w0.alloc (.cells #[.int .u8 (ub e)] 5)) := (Below.refl _ _).alloc (Nat.le_refl _) _
  have hl : s.data.toList.length = s.size := Array.length_toList
  obtain ⟨v1, w1, hap, own1, hb1⟩ := append_own (c := 1) (own0.below hbx) hX (by rw [World.size_alloc]; omega) (by rw [hl]; simp; omega) 1 rfl
  have hbb1 : Below w.heap.size w w1 := (hb0.trans (hbx.mono hsz0)).trans hb1
  have own1' : Own w.heap.size w1 v1 (padT s.data.toList e 0) := own1
  clear hv0 own0 hX own1 hb1 hbx
  have hmk200 : ∀ w : World, (Instr.makeSlice 24 (.int .i64 200) (.int .i64 200)).run Tryz.prog w = .ok (.slice (some ⟨w.heap.size, 0, none⟩) 200 200) (w.alloc (.cells (madeCells #[.int .u8 0] 200) 5)) :=
    run_make_row' (P := Tryz.prog) 24 5 (.int .u8 0) 1 slice22 info5 rfl .i64 .i64 200 (by omega) (by omega)
  have HM200 : Hid _ := hmk200
  clear hmk200
  go_enter Tryz.func59, Tryz.ntmps59
  go_wp2_with (at_builtin; refine Lib.wpList_append_run _ rfl _ _ 24 24 rfl _ _ rfl rfl _ _ hap ?_)
  clear hap hcv hb0
  obtain ⟨h, hh⟩ : ∃ h, s.data.toList.length % 136 = h := ⟨_, rfl⟩
  have h136 : h < 136 := by rw [← hh]; exact Nat.mod_lt _ (by decide)
  have Hh : Hid (s.data.toList.length % 136 = h) := hh
  clear hh
  go_loopg [7] (135 - h) (fun g s7 wr => ∃ k, k + g = 135 - h ∧ Own w.heap.size wr s7 (padT s.data.toList e k) ∧ Below w.heap.size w wr)
  case atStart => exact ⟨0, by omega, own1', hbb1⟩
  case round =>
    clear own1' hbb1
    obtain ⟨k, hk, own, hb⟩ := hrel
    have own' := own
    obtain ⟨g, cap, cur, rfl, hg, hgl, hcs, hlc, hH, hT⟩ := own'
    have hL := padT_length s.data.toList e k
    generalize hLL : (padT s.data.toList e k).length = L at *
    have hL' : L = s.size + 1 + k := by rw [hL, hl]
    have HL' : Hid (L = s.size + 1 + k) := hL'
    have hLb : L ≤ 1048900 := by omega
    have hL0 : 1 ≤ L := by omega
    have tm : (L : Int).tmod 136 = (L : Int) % 136 := Int.tmod_eq_emod_of_nonneg (by omega)
    by_cases hlt : k < 135 - h
    · have hb2 : ((L : Int) % 136 != 0) = true := by rw [bne_iff_ne]; have := Hh.out; rw [hl] at this; omega
      have hX := holds_one wr 0
      have hbx : Below wr.heap.size wr (wr.alloc (.cells #[.int .u8 (ub 0)] 5)) := (Below.refl _ _).alloc (Nat.le_refl _) _
      obtain ⟨v2, w2, hap, own2, hbb⟩ := append_own (c := 1) (own.below hbx) hX (by rw [World.size_alloc]; have := hb.size; omega) (by rw [hLL]; simp; omega) 1 rfl
      have own3 : Own w.heap.size w2 v2 (padT s.data.toList e (k + 1)) := by rw [← padT_next]; exact own2
      have hb3 : Below w.heap.size w w2 := (hb.trans (hbx.mono hb.size)).trans hbb
      clear hL hL' hLL own own2 hX hbb hbx hH hT
      go_wp2_with (at_builtin; refine Lib.wpList_append_run _ rfl _ _ 24 24 rfl _ _ rfl rfl _ _ hap ?_)
      go_roundg (gk - 1)
      case measure => omega
      case rel => exact ⟨k + 1, by omega, own3, hb3⟩
    · have hb2 : ((L : Int) % 136 != 0) = false := by
        rw [bne_eq_false_iff_eq]; have := Hh.out; rw [hl] at this; omega
      have hk0 : k = 135 - s.data.toList.length % 136 := by have := Hh.out; omega
      obtain ⟨x, hx⟩ : ∃ x, cur[L - 1]! = x := ⟨_, rfl⟩
      obtain ⟨c0, f0⟩ := at_byte hH (L - 1) (by omega) hx
      rw [Nat.zero_add] at c0 f0
      have hx80 := xor80 x
      have hTot := total_at s.data.toList e cur L k hk0 hL (by omega) hT
      rw [hx] at hTot
      have hH2 := Holds.set hH (i := L - 1) (by omega) (x ^^^ 128)
      rw [Nat.zero_add] at hH2
      have htl : (total s.data.toList e).length = L := by rw [total_length]; omega
      have hTA : Holds encB (wr.setCell ⟨g, L - 1, none⟩ (.int .u8 (ub (x ^^^ 128)))) g 0 (total s.data.toList e).toArray :=
        Holds.front hH2 (by rw [Array.size_setIfInBounds, List.size_toArray, htl]; omega) (fun j hj => by rw [list_arr_at]; exact (hTot j (by simpa [htl] using hj)).symm)
      have hb4 : Below w.heap.size w (wr.setCell ⟨g, L - 1, none⟩ (.int .u8 (ub (x ^^^ 128)))) := hb.setCell (p := ⟨g, L - 1, none⟩) hg _
      have hg4 : g < (wr.setCell ⟨g, L - 1, none⟩ (.int .u8 (ub (x ^^^ 128)))).heap.size := by rw [World.size_setCell]; exact hgl
      obtain ⟨M, hM⟩ : ∃ M, s.data.toList.length / 136 + 1 = M := ⟨_, rfl⟩
      have hLM : L = 136 * M := by have := Hh.out; omega
      have HLM : Hid (L = 136 * M) := hLM
      have HM : Hid (s.data.toList.length / 136 + 1 = M) := hM
      have z1 : (0 : Int) ≤ (L : Int) - 1 := by omega
      have z2 : (L : Int) - 1 < (L : Int) := by omega
      have z3 : ((L : Int) - 1).toNat = L - 1 := by omega
      have hmk := HM200.out
      clear hM hLM hTot hH2 hH hT hx hL hL' hLL own hk0
      go_wp2
      clear hmk c0 f0 hb2 tm hx80
      have hW2 : (wr.setCell ⟨g, L - 1, none⟩ (.int .u8 (ub (x ^^^ 128)))).heap.size = wr.heap.size := by rw [World.size_setCell]
      generalize wr.setCell ⟨g, L - 1, none⟩ (.int .u8 (ub (x ^^^ 128))) = W2 at hTA hb4 hg4 hW2 ⊢
      have hS0 : Holds encB (W2.alloc (.cells (madeCells #[.int .u8 0] 200) 5)) W2.heap.size 0 (refSt (total s.data.toList e) 0) := Holds.made (enc := encB) W2 5 200 0
      have hb5' : Below W2.heap.size W2 (W2.alloc (.cells (madeCells #[.int .u8 0] 200) 5)) := (Below.refl _ _).alloc (Nat.le_refl _) _
      have hs5 : W2.heap.size < (W2.alloc (.cells (madeCells #[.int .u8 0] 200) 5)).heap.size := by simp
      have hTA5 := Holds.below hTA hb5' hg4
      have hb5 := hb4.trans (hb5'.mono hb4.size)
      have hz4 := hb4.size
      rw [hW2] at hS0 hs5 hg4 hz4
      generalize hSG : wr.heap.size = SG at *
      generalize (W2.alloc _) = W3 at hS0 hb5 hs5 hTA5 ⊢
      clear hTA hb4 hb5' hSG hW2
      go_loopg [8, 9] M (fun g2 s8 s9 wr => ∃ (i sg sc : Nat), i + g2 = M ∧ s9 = .int .i64 ((136 * i : Nat) : Int) ∧ s8 = .slice (some ⟨sg, 0, none⟩) 200 sc ∧ 200 ≤ sc ∧ w.heap.size ≤ sg ∧ sg ≠ g ∧ Holds encB wr sg 0 (refSt (total s.data.toList e) i) ∧ Holds encB wr g 0 (total s.data.toList e).toArray ∧ Below w.heap.size w wr)
      case atStart => exact ⟨0, SG, 200, by omega, rfl, rfl, Nat.le_refl _, by omega, by omega, hS0, hTA5, hb5⟩
      case round =>
        clear hS0 hTA5 hb5 hs5
        obtain ⟨i, sg, sc, hi, rfl, rfl, hsc, hsg, hne, hS, hTA, hb⟩ := hrel
        have hrs : (refSt (total s.data.toList e) i).size = 200 := by
          cases i with
          | zero => rw [refSt, Array.size_replicate]
          | succ i => rw [refSt, permB, front_size]
        have hgz : g < wr.heap.size := Holds.lt hTA (by rw [List.size_toArray, htl]; omega)
        by_cases hlt : i < M
        · have hlt' : ((136 * i : Nat) : Int) < (L : Int) := by have := HLM.out; omega
          have hii : 136 * i + 136 ≤ L := by have := HLM.out; omega
          generalize hI : 136 * i = I at *
          have HI : Hid (136 * i = I) := hI
          clear hI
          go_wp2
          have hD0 : Holds encB wr sg 0 (xorB (refSt (total s.data.toList e) i) (total s.data.toList e) I 0) := hS
          generalize hR : refSt (total s.data.toList e) i = R at *
          have HR : Hid (R = refSt (total s.data.toList e) i) := hR.symm
          clear hR
          go_loopg [10] 136 (fun g3 s10 wq => ∃ (k : Nat) (st : Bs), k + g3 = 136 ∧ s10 = .int .i64 k ∧ Holds encB wq sg 0 st ∧ Only sg 0 200 wr wq ∧ Hid (st = xorB R (total s.data.toList e) I k))
          case atStart => exact ⟨0, _, rfl, rfl, hD0, Only.refl _ _ _ _, rfl⟩
          case round =>
            clear hD0
            obtain ⟨k, st, hk, rfl, hSt, hO, HE⟩ := hrel
            have hsts : st.size = 200 := by rw [HE.out, xorB_size]; exact hrs
            have hTq := Holds.other hTA hO (Ne.symm hne) (by rw [List.size_toArray, htl]; omega)
            by_cases hltk : k < 136
            · obtain ⟨y, hy⟩ : ∃ y, (total s.data.toList e)[I + k]! = y := ⟨_, rfl⟩
              obtain ⟨c0, f0⟩ := at_byte (x := y) hTq (I + k) (by rw [List.size_toArray, htl]; omega) (by rw [list_arr_at]; exact hy)
              obtain ⟨z, hz⟩ : ∃ z, st[k]! = z := ⟨_, rfl⟩
              obtain ⟨c1, f1⟩ := at_byte hSt k (by omega) hz
              rw [Nat.zero_add] at c0 c1 f1
              have HY : Hid ((total s.data.toList e)[I + k]! = y) := hy
              have HZ : Hid (st[k]! = z) := hz
              have k136 : (k : Int) < 136 := by omega
              have k200 : (k : Int) < 200 := by omega
              have ik0 : (0 : Int) ≤ (I : Int) + (k : Int) := by omega
              have ik1 : (I : Int) + (k : Int) < (L : Int) := by omega
              have ik2 : ((I : Int) + (k : Int)).toNat = I + k := by omega
              have ik3 : IntKind.i64.wrap ((I : Int) + (k : Int)) = (I : Int) + (k : Int) := IntWalk.i64_in _ (by omega)
              clear hy hz f0 hTq
              go_wp2_with fail
              go_still_tail 14, mixed
              go_wp2
              go_roundg (gk - 1)
              case measure => omega
              case rel =>
                refine ⟨k + 1, st.setIfInBounds k (z ^^^ y), by omega, by go_num, ?_, ?_, ?_⟩
                · have := Holds.set hSt (i := k) (by omega) (z ^^^ y)
                  rw [Nat.zero_add] at this
                  exact Holds.drew this
                · exact (hO.setCell (o := k) (by omega) (by omega) _).drew
                · show _ = (xorB R (total s.data.toList e) I k).setIfInBounds k ((xorB R (total s.data.toList e) I k)[k]! ^^^ (total s.data.toList e)[I + k]!)
                  rw [← HE.out, HZ.out, HY.out]
            · have hk136 : k = 136 := by omega
              subst hk136
              have hgz2 := Holds.lt hSt (by omega)
              have kc := conv_str Tryz.prog 24 9 5 slice22 int5 str9 _ sg 0 200 sc st hSt hsts
              have hbq := hb.trans (hO.below hb.size hsg)
              obtain ⟨PB, hPB⟩ : ∃ x, permB st = x := ⟨_, rfl⟩
              have hps : PB.size = 200 := by rw [← hPB, permB, front_size]
              have HE2 : Hid (PB = refSt (total s.data.toList e) (i + 1)) := by
                show PB = permB (xorB (refSt (total s.data.toList e) i) (total s.data.toList e) (136 * i) 136)
                rw [← HR.out, HI.out, ← HE.out, hPB]
              have HPB : Hid (PB = permB st) := hPB.symm
              clear hPB HE
              go_wp2_with fail
              refine (refPermute_any ⟨st⟩ _ hsts).mono ?_
              rintro r w5 ⟨rfl, hb5⟩
              have e5 : (ByteArray.mk (permB (ByteArray.mk st).data)) = ByteArray.mk PB := congrArg ByteArray.mk HPB.out.symm
              rw [e5]
              clear e5
              obtain ⟨sc6, w6, hcv6, hle6, hH6, hb6⟩ := conv200 w5 PB hps
              have hgq := Holds.lt hTq (by rw [List.size_toArray, htl]; omega)
              have hg5 : g < w5.heap.size := Nat.lt_of_lt_of_le hgq hb5.size
              have hT6 := Holds.below (Holds.below hTq hb5 hgq) hb6 hg5
              have hb8 : Below w.heap.size w w6 := (hbq.trans (hb5.mono hbq.size)).trans (hb6.mono (by have := hb5.size; have := hbq.size; omega))
              rw [HE2.out] at hH6
              have hz5 : w.heap.size ≤ w5.heap.size := by have := hb5.size; have := hbq.size; omega
              go_wp2
              go_roundg (M - (i + 1))
              case measure => omega
              case rel => exact ⟨i + 1, w5.heap.size, sc6, by omega, by rw [← HI.out]; go_num, rfl, hle6, hz5, by omega, hH6, hT6, hb8⟩
        · have hiM : i = M := by omega
          have hge : (L : Int) ≤ ((136 * i : Nat) : Int) := by have := HLM.out; omega
          obtain ⟨d, hd⟩ : ∃ d, absorb s.data.toList e = d := ⟨_, rfl⟩
          obtain ⟨F, hF⟩ : ∃ F, front (permN d 0) 200 = F := ⟨_, rfl⟩
          have hSf : Holds encB wr sg 0 F := by
            have := refSt_total s.data.toList e
            rw [HM.out, ← hiM, hd] at this
            rw [this] at hS
            rw [← hF, permN]
            exact hS
          have hab : d.size = 25 := by rw [← hd]; exact absorb_size s.data.toList e
          have HDD : Hid (d = absorb s.data.toList e) := hd.symm
          have HFF : Hid (F = front (permN d 0) 200) := hF.symm
          clear hS hrs hTA hgz hiM hlt hi hd hF
          generalize hI : 136 * i = I at *
          clear hI
          have hdec : decide ((I : Int) < (L : Int)) = false := decide_eq_false (by omega)
          have hdec2 : decide (I < L) = false := decide_eq_false (by omega)
          go_wp2
          go_loopg [8, 11] (n + 136) (fun g4 s8 s11 wq => ∃ (m sg sc : Nat) (o : ByteArray) (Fm : Bs), 136 * m + g4 = n + 136 ∧ 1 ≤ g4 ∧ s11 = .string o ∧ o.size = 136 * m ∧ s8 = .slice (some ⟨sg, 0, none⟩) 200 sc ∧ 200 ≤ sc ∧ Holds encB wq sg 0 Fm ∧ Fm.size = 200 ∧ Below w.heap.size w wq ∧ Hid (Fm = front (permN d m) 200) ∧ Hid (∀ j, j < 136 * m → o.data[j]! = streamAt d j))
          case atStart => exact ⟨0, sg, sc, ByteArray.empty, F, by omega, by omega, rfl, rfl, rfl, hsc, hSf, by rw [HFF.out, front_size], hb, HFF, fun j hj => by omega⟩
          case round =>
            clear hSf HFF hsc
            obtain ⟨m, sg, sc, o, Fm, hg4, hg41, rfl, ho, rfl, hsc, hF, hFs, hb, HF, HO⟩ := hrel
            have Ho : Hid (o.size = 136 * m) := ho
            have hob : o.size ≤ n + 136 := by omega
            by_cases hlt : o.size < n
            · have hlt' : (o.size : Int) < (n : Int) := by omega
              obtain ⟨Q, hQ⟩ : ∃ Q, front (permN d m) 136 = Q := ⟨_, rfl⟩
              have hQs : Q.size = 136 := by rw [← hQ, front_size]
              have hQa : ∀ j, j < 136 → Q[j]! = byteOf (permN d m) j := fun j hj => by rw [← hQ, front_at _ _ _ hj]
              have hHQ : Holds encB wr sg 0 Q := by
                have h1 := front_front (permN d m)
                rw [← HF.out, hQ] at h1
                exact Holds.front hF h1.1 h1.2
              have hnx := out_next o d m Q hQs hQa ho HO
              have HNX : Hid ((o ++ ⟨Q⟩).size = 136 * (m + 1) ∧ ∀ j, j < 136 * (m + 1) → (o ++ (⟨Q⟩ : ByteArray)).data[j]! = streamAt d j) := hnx
              obtain ⟨PB, hPB⟩ : ∃ x, permB Fm = x := ⟨_, rfl⟩
              have hps : PB.size = 200 := by rw [← hPB, permB, front_size]
              have HN : Hid (PB = front (permN d (m + 1)) 200) := by
                show PB = front (perm (permN d m)) 200
                rw [← hPB, HF.out, permB_front _ (permN_size d hab m)]
              have HPB : Hid (PB = permB Fm) := hPB.symm
              have kc1 := conv_str Tryz.prog 24 9 5 slice22 int5 str9 wr sg 0 136 sc Q hHQ hQs
              have kc2 := conv_str Tryz.prog 24 9 5 slice22 int5 str9 wr sg 0 200 sc Fm hF hFs
              have hsc0 : (sc = 0) = False := eq_false (by omega)
              have hsc1 : (136 : Int) ≤ (sc : Int) := by omega
              clear hQ hQa hHQ hnx hPB HO ho
              go_wp2_with fail
              refine (refPermute_any ⟨Fm⟩ _ hFs).mono ?_
              rintro r w5 ⟨rfl, hb5⟩
              have e5 : (ByteArray.mk (permB (ByteArray.mk Fm).data)) = ByteArray.mk PB := congrArg ByteArray.mk HPB.out.symm
              rw [e5]
              clear e5
              obtain ⟨sc6, w6, hcv6, hle6, hH6, hb6⟩ := conv200 w5 PB hps
              have hb8 : Below w.heap.size w w6 := (hb.trans (hb5.mono hb.size)).trans (hb6.mono (by have := hb5.size; have := hb.size; omega))
              go_wp2
              go_roundg (gk - 136)
              case measure => have := Ho.out; omega
              case rel => exact ⟨m + 1, w5.heap.size, sc6, o ++ (ByteArray.mk Q), PB, by have := Ho.out; omega, by have := Ho.out; omega, rfl, HNX.out.1, rfl, hle6, hH6, hps, hb8, HN, HNX.out.2⟩
            · have hge : (n : Int) ≤ (o.size : Int) := by omega
              have hex := stream_bytes o d n m ho (by omega) HO
              have HEX : Hid (o.extract 0 n = ⟨streamL d n⟩) := hex
              clear hex ho HO
              go_wp2
              go_ret
              rw [← HDD.out, ← HEX.out]
              exact ⟨rfl, hb⟩
end Go.Proofs.YtmepmoalhgehhaaGreatDoor.SP
namespace Go.Proofs.YtmepmoalhgehhaaGreatDoor.SP
open Go.RowKit Go.Sort Go.Deep
/-- What is at the front is held. -/
theorem Holds.prefix {α : Type} [Inhabited α] {f : α → Value} {w : World} {b o : Nat} {d e : Array α} (h : Holds f w b o d) (hs : e.size ≤ d.size) (he : ∀ j, j < e.size → e[j]! = d[j]!) : Holds f w b o e := by
  intro j hj
  rw [he j hj]
  exact h j (by omega)
theorem lentTo_front (s : ByteArray) (k j : Nat) (hj : j < s.data.size) : (lentTo s k)[j]! = s.data[j]! := by
  induction k with
  | zero => rw [lent_front s j hj, getElem!_pos s.data j hj]
  | succ k ih =>
    show ((lentTo s k).setIfInBounds (s.size + k) (fill (s.size + k)))[j]! = _
    have : s.data.size = s.size := rfl
    rw [getElem!_set_other _ _ _ _ (by omega), ih]
theorem holds_text {w : World} {b : Nat} (s : ByteArray) (h : Holds encB w b 0 (lent s)) : Holds encB w b 0 s.data := by
  have : s.data.size = s.size := rfl
  exact Holds.prefix h (by rw [lent_size]; omega) (fun j hj => (lentTo_front s 160 j hj).symm)
end Go.Proofs.YtmepmoalhgehhaaGreatDoor.SP
namespace Go.Proofs.YtmepmoalhgehhaaGreatDoor.SP
open Go.RowKit Go.Sort Go.Deep
set_option maxHeartbeats 1000000 in
theorem refHash_any (s : ByteArray) (w : World) (hs : s.size ≤ 1048576) :
    Calls Tryz.prog 49 #[.string s] w fun r w' => r = .returned (.string ⟨hashL s.data.toList⟩) ∧ Below w.heap.size w w' := by
  go_enter Tryz.func49, Tryz.ntmps49
  go_wp2_with fail
  refine (refSponge_any s 6 32 _ hs (by decide)).mono ?_
  rintro r w1 ⟨rfl, hb⟩
  rw [← hash_stream]
  go_wp2
  go_ret
  exact ⟨rfl, hb⟩
set_option maxHeartbeats 1000000 in
theorem refStream_any (s : ByteArray) (n : Nat) (w : World) (hs : s.size ≤ 1048576) (hn : n ≤ 16384) :
    Calls Tryz.prog 32 #[.string s, .int .i64 (n : Int)] w fun r w' => r = .returned (.string ⟨strmL s.data.toList n⟩) ∧ Below w.heap.size w w' := by
  go_enter Tryz.func32, Tryz.ntmps32
  go_wp2_with fail
  refine (refSponge_any s 31 n _ hs hn).mono ?_
  rintro r w1 ⟨rfl, hb⟩
  go_wp2
  go_ret
  exact ⟨rfl, hb⟩
theorem strmL_size (l : List UInt8) (n : Nat) : (strmL l n).size = n := by rw [strmL, streamL_size]
end Go.Proofs.YtmepmoalhgehhaaGreatDoor.SP
namespace Go.Proofs.YtmepmoalhgehhaaGreatDoor.SP
open Go.RowKit Go.Sort Go.Deep
set_option maxHeartbeats 2000000 in
set_option maxRecDepth 100000 in
theorem refTag_any (label : ByteArray) (pa : Option Addr) (pcap : Nat) (ps : List ByteArray) (w : World) (hlab : label.size ≤ 1048576) (hpl : ps.length ≤ 1048576)
    (hP : ps.length = 0 ∨ ∃ pb po, pa = some ⟨pb, po, none⟩ ∧ ∀ j, j < ps.length → w.cell? ⟨pb, po + j, none⟩ = some (.string ps[j]!)) (hsz : ∀ j, j < ps.length → (ps[j]!).size ≤ 1048576)
    (htot : (framesL label.data.toList (ps.map fun s => s.data.toList)).length ≤ 1048576) :
    Calls Tryz.prog 25 #[.string label, .slice pa ps.length pcap] w fun e w' => e = .returned (.string ⟨tagL label.data.toList (ps.map fun s => s.data.toList)⟩) ∧ Below w.heap.size w w' := by
  obtain ⟨n, hn⟩ : ∃ n, ps.length = n := ⟨_, rfl⟩
  rw [hn]
  have Hn : Hid (ps.length = n) := hn
  have hn20 : n ≤ 1048576 := by omega
  clear hn
  go_enter Tryz.func25, Tryz.ntmps25
  go_wp2_with fail
  refine (Frame_any label _ hlab).mono ?_
  rintro e w1 ⟨o1, rfl, ho1, hb1⟩
  go_wp2
  go_loopg [5, 6] n (fun g s5 s6 wr => ∃ (k : Nat) (o : ByteArray), k + g = n ∧ s6 = .int .i64 k ∧ s5 = .string o ∧ Below w.heap.size w wr ∧ Hid (o.data.toList = framesL label.data.toList ((ps.map fun s => s.data.toList).take k)))
  case atStart =>
    refine ⟨0, o1, by omega, rfl, rfl, hb1, ?_⟩
    rw [List.take_zero]
    unfold framesL
    rw [List.flatMap_nil, List.append_nil]
    exact ho1
  case round =>
    clear ho1 hb1
    obtain ⟨k, o, hk, rfl, rfl, hb, HE⟩ := hrel
    by_cases hlt : k < n
    · obtain ⟨pb, po, rfl, hPj⟩ : ∃ pb po, pa = some ⟨pb, po, none⟩ ∧ ∀ j, j < ps.length → w.cell? ⟨pb, po + j, none⟩ = some (.string ps[j]!) := by
        rcases hP with h | h
        · have := Hn.out; omega
        · exact h
      have hvc := hPj k (by have := Hn.out; omega)
      have hszk := hsz k (by have := Hn.out; omega)
      obtain ⟨s, hs⟩ : ∃ s, ps[k]! = s := ⟨_, rfl⟩
      rw [hs] at hvc hszk
      have HS : Hid (s = ps[k]!) := hs.symm
      have hvc' : wr.cell? ⟨pb, po + k, none⟩ = some (.string s) := by rw [hb.cell (p := ⟨pb, po + k, none⟩) (World.block_lt_of_cell? _ _ hvc)]; exact hvc
      have l1 : (k : Int) < (n : Int) := by omega
      clear hs hvc hPj
      go_wp2_with fail
      refine (Frame_any s _ hszk).mono ?_
      rintro e w2 ⟨o2, rfl, ho2, hb2⟩
      have HO2 : Hid (o2.data.toList = frameL s.data.toList) := ho2
      have hos : o.size ≤ 1048576 := by
        have h1 : o.data.toList.length = o.size := Array.length_toList
        rw [HE.out] at h1
        have := framesL_take label.data.toList (ps.map fun s => s.data.toList) k
        omega
      have ho2s : o2.size ≤ 1048580 := by
        have h1 : o2.data.toList.length = o2.size := Array.length_toList
        have h2 : s.data.toList.length = s.size := Array.length_toList
        rw [ho2, frameL_length] at h1
        omega
      clear ho2
      go_wp2
      go_roundg (gk - 1)
      case measure => omega
      case rel =>
        refine ⟨k + 1, o ++ o2, by omega, by go_num, rfl, hb.trans (hb2.mono hb.size), ?_⟩
        have hkl : k < (ps.map fun s => s.data.toList).length := by rw [List.length_map]; have := Hn.out; omega
        have hkl2 : k < ps.length := by have := Hn.out; omega
        rw [take_snoc_getD _ k hkl, framesL_snoc, ByteArray.data_append, Array.toList_append, HE.out, HO2.out, getElem!_pos (ps.map fun s => s.data.toList) k hkl, List.getElem_map, HS.out, getElem!_pos ps k hkl2]
        rfl
    · have l1 : (n : Int) ≤ (k : Int) := by omega
      have HE2 : Hid (o.data.toList = framesL label.data.toList (ps.map fun s => s.data.toList)) := by
        have e1 : (ps.map fun s => s.data.toList).take k = ps.map fun s => s.data.toList := List.take_of_length_le (by rw [List.length_map]; have := Hn.out; omega)
        rw [e1] at HE
        exact HE
      have hos : o.size ≤ 1048576 := by
        have h1 : o.data.toList.length = o.size := Array.length_toList
        rw [HE2.out] at h1
        omega
      clear HE
      go_wp2_with fail
      refine (refHash_any o _ hos).mono ?_
      rintro e w3 ⟨rfl, hb3⟩
      rw [HE2.out]
      go_wp2
      go_ret
      exact ⟨rfl, hb.trans (hb3.mono hb.size)⟩
end Go.Proofs.YtmepmoalhgehhaaGreatDoor.SP
namespace Go.Proofs.YtmepmoalhgehhaaGreatDoor
open Go.RowKit
/-- Four words, the lowest first. -/
def val (a b c d : Nat) : Nat := a + 18446744073709551616 * b + 340282366920938463463374607431768211456 * c + 6277101735386680763835789423207666416102355444464034512896 * d
def ag (a b c d : Nat) : Value := .agg #[.int .u64 (a : Int), .int .u64 (b : Int), .int .u64 (c : Int), .int .u64 (d : Int)]
/-- A value of four words is the number n. -/
def Four (v : Value) (n : Nat) : Prop := ∃ a b c d : Nat, v = .agg #[.int .u64 (a : Int), .int .u64 (b : Int), .int .u64 (c : Int), .int .u64 (d : Int)] ∧
  a < 18446744073709551616 ∧ b < 18446744073709551616 ∧ c < 18446744073709551616 ∧ d < 18446744073709551616 ∧ n = val a b c d
def top : Nat := 115792089237316195423570985008687907853269984665640564039457584007913129639936
theorem val_lt {a b c d : Nat} (ha : a < 18446744073709551616) (hb : b < 18446744073709551616) (hc : c < 18446744073709551616) (hd : d < 18446744073709551616) : val a b c d < top := by
  unfold val top; omega
theorem Four.lt {v : Value} {n : Nat} (h : Four v n) : n < top := by
  obtain ⟨a, b, c, d, -, ha, hb, hc, hd, rfl⟩ := h
  exact val_lt ha hb hc hd
theorem val_inj {a b c d p q r s : Nat} (ha : a < 18446744073709551616) (hb : b < 18446744073709551616) (hc : c < 18446744073709551616)
    (hp : p < 18446744073709551616) (hq : q < 18446744073709551616) (hr : r < 18446744073709551616) (h : val a b c d = val p q r s) : a = p ∧ b = q ∧ c = r ∧ d = s := by
  unfold val at h; omega
theorem Four.inj {v v' : Value} {n : Nat} (h : Four v n) (h' : Four v' n) : v = v' := by
  obtain ⟨a, b, c, d, rfl, ha, hb, hc, hd, e⟩ := h
  obtain ⟨p, q, r, s, rfl, hp, hq, hr, hs, e'⟩ := h'
  obtain ⟨rfl, rfl, rfl, rfl⟩ := val_inj ha hb hc hp hq hr (e.symm.trans e')
  rfl
theorem Four.num {v : Value} {n m : Nat} (h : Four v n) (h' : Four v m) : n = m := by
  obtain ⟨a, b, c, d, rfl, ha, hb, hc, hd, rfl⟩ := h
  obtain ⟨p, q, r, s, e, hp, hq, hr, hs, rfl⟩ := h'
  simp only [Value.agg.injEq, Array.mk.injEq, List.cons.injEq, Value.int.injEq, true_and, and_true, Int.ofNat_inj] at e
  obtain ⟨rfl, rfl, rfl, rfl⟩ := e
  rfl
theorem Four.mk {a b c d n : Nat} (ha : a < 18446744073709551616) (hb : b < 18446744073709551616) (hc : c < 18446744073709551616) (hd : d < 18446744073709551616) (hn : n = val a b c d) :
    Four (.agg #[.int .u64 (a : Int), .int .u64 (b : Int), .int .u64 (c : Int), .int .u64 (d : Int)]) n := ⟨a, b, c, d, rfl, ha, hb, hc, hd, hn⟩
theorem ret_int {k : IntKind} {a b : Int} (h : a = b) : Ending.returned (.int k a) = .returned (.int k b) := by rw [h]
/-- What Mul64 answers, as words. -/
theorem mul_parts (x y : Nat) : x * y / 18446744073709551616 * 18446744073709551616 + x * y % 18446744073709551616 = x * y := by
  omega
end Go.Proofs.YtmepmoalhgehhaaGreatDoor
namespace Go.Proofs.YtmepmoalhgehhaaGreatDoor
open Go.RowKit Go.Sort
theorem mixed : Tryz.prog.follows .mixedOrders = true := by kernel_rfl
theorem add64 (x y c : Nat) (hx : x < 18446744073709551616) (hy : y < 18446744073709551616) (hc : c ≤ 1) :
    ∃ s k : Nat, (∀ w, (callFunc 83 #[.int .u64 (x : Int), .int .u64 (y : Int), .int .u64 (c : Int)]).run Tryz.prog w = .ok (.value (.tuple #[.int .u64 (s : Int), .int .u64 (k : Int)])) w) ∧
      s < 18446744073709551616 ∧ k ≤ 1 ∧ s + 18446744073709551616 * k = x + y + c := by
  refine ⟨(x + y + c) % 18446744073709551616, (x + y + c) / 18446744073709551616, fun w => ?_, by omega, by omega, by omega⟩
  rw [run_callFunc_extern Tryz.func83 (by kernel_rfl) (by kernel_rfl) (by kernel_rfl) (e := add64Entry) (by kernel_rfl), run_add64 x y c (by omega) (by omega) (by omega) (by omega)]
  simp only [Result.andThen]
  congr 5 <;> omega
theorem sub64 (x y c : Nat) (hx : x < 18446744073709551616) (hy : y < 18446744073709551616) (hc : c ≤ 1) :
    ∃ s k : Nat, (∀ w, (callFunc 81 #[.int .u64 (x : Int), .int .u64 (y : Int), .int .u64 (c : Int)]).run Tryz.prog w = .ok (.value (.tuple #[.int .u64 (s : Int), .int .u64 (k : Int)])) w) ∧
      s < 18446744073709551616 ∧ k ≤ 1 ∧ s + y + c = x + 18446744073709551616 * k := by
  refine ⟨(x + 18446744073709551616 - y - c) % 18446744073709551616, if x < y + c then 1 else 0, fun w => ?_, by omega, by split <;> omega, by split <;> omega⟩
  rw [run_callFunc_extern Tryz.func81 (by kernel_rfl) (by kernel_rfl) (by kernel_rfl) (e := (Extern.MathBitsCarry.rows[1]).2) (by kernel_rfl)]
  have : c = 0 ∨ c = 1 := by omega
  rcases this with rfl | rfl <;> rfl
theorem add64z (x y : Nat) (hx : x < 18446744073709551616) (hy : y < 18446744073709551616) :
    ∃ s k : Nat, (∀ w, (callFunc 83 #[.int .u64 (x : Int), .int .u64 (y : Int), .int .u64 0]).run Tryz.prog w = .ok (.value (.tuple #[.int .u64 (s : Int), .int .u64 (k : Int)])) w) ∧
      s < 18446744073709551616 ∧ k ≤ 1 ∧ s + 18446744073709551616 * k = x + y := add64 x y 0 hx hy (Nat.zero_le 1)
theorem sub64z (x y : Nat) (hx : x < 18446744073709551616) (hy : y < 18446744073709551616) :
    ∃ s k : Nat, (∀ w, (callFunc 81 #[.int .u64 (x : Int), .int .u64 (y : Int), .int .u64 0]).run Tryz.prog w = .ok (.value (.tuple #[.int .u64 (s : Int), .int .u64 (k : Int)])) w) ∧
      s < 18446744073709551616 ∧ k ≤ 1 ∧ s + y = x + 18446744073709551616 * k := sub64 x y 0 hx hy (Nat.zero_le 1)
theorem maskN (a : Nat) (ha : a < 18446744073709551616) : bits .and .u64 (a : Int) 4294967295 = ((a % 4294967296 : Nat) : Int) := by
  have h := bits_and_u64_nat a 4294967295 ha (by omega)
  rw [show a &&& 4294967295 = a % 4294967296 from Nat.and_two_pow_sub_one_eq_mod a 32] at h
  exact h
theorem divN (a : Nat) : (a : Int) / 4294967296 = ((a / 4294967296 : Nat) : Int) := by omega
theorem mulN (a b : Nat) : (a : Int) * (b : Int) = ((a * b : Nat) : Int) := (Int.natCast_mul a b).symm
theorem addN (a b : Nat) : (a : Int) + (b : Int) = ((a + b : Nat) : Int) := (Int.natCast_add a b).symm
theorem wrapN (a : Nat) (ha : a < 18446744073709551616) : IntKind.u64.wrap (a : Int) = (a : Int) := by rw [IntKind.wrap_u64]; omega
theorem wrapM (a : Nat) : IntKind.u64.wrap (a : Int) = ((a % 18446744073709551616 : Nat) : Int) := by rw [IntKind.wrap_u64]; omega
set_option maxHeartbeats 1000000 in
theorem mul64e (x y : Nat) (hx : x < 18446744073709551616) (hy : y < 18446744073709551616) (w : World) :
    Calls Tryz.prog 82 #[.int .u64 (x : Int), .int .u64 (y : Int)] w fun e w' => e = .returned (.tuple #[.int .u64 ((x * y / 18446744073709551616 : Nat) : Int), .int .u64 ((x * y % 18446744073709551616 : Nat) : Int)]) ∧ w' = w := by
  obtain ⟨bd, bt, bw, hhi⟩ := Lib.mul64_hi x y hx hy
  have ba := Lib.half_mul_le (a := x / 4294967296) (b := y / 4294967296) (by omega) (by omega)
  have bb := Lib.half_mul_le (a := x / 4294967296) (b := y % 4294967296) (by omega) (by omega)
  have bc := Lib.half_mul_le (a := x % 4294967296) (b := y / 4294967296) (by omega) (by omega)
  have b1 : x / 4294967296 * (y / 4294967296) < 18446744073709551616 := by omega
  have b2 : x / 4294967296 * (y % 4294967296) < 18446744073709551616 := by omega
  have b3 : x % 4294967296 * (y / 4294967296) < 18446744073709551616 := by omega
  have bh1 : x / 4294967296 * (y / 4294967296) + (x / 4294967296 * (y % 4294967296) + x % 4294967296 * (y % 4294967296) / 4294967296) / 4294967296 < 18446744073709551616 := by omega
  have bh : x / 4294967296 * (y / 4294967296) + (x / 4294967296 * (y % 4294967296) + x % 4294967296 * (y % 4294967296) / 4294967296) / 4294967296 + ((x / 4294967296 * (y % 4294967296) + x % 4294967296 * (y % 4294967296) / 4294967296) % 4294967296 + x % 4294967296 * (y / 4294967296)) / 4294967296 < 18446744073709551616 := by omega
  go_enter Tryz.func82, Tryz.ntmps82
  go_wp2
  simp only [maskN x hx, maskN y hy, divN, mulN, addN, wrapN _ bd, wrapN _ b2, wrapN _ bt, maskN _ bt, wrapN _ b3, wrapN _ bw, wrapN _ b1, wrapN _ bh1, wrapN _ bh, wrapM (x * y)]
  rw [hhi]
  go_ret2
  exact ⟨rfl, rfl⟩
theorem mul64q (x y : Nat) (hx : x < 18446744073709551616) (hy : y < 18446744073709551616) :
    ∃ h l : Nat, (∀ w, Calls Tryz.prog 82 #[.int .u64 (x : Int), .int .u64 (y : Int)] w fun e w' => e = .returned (.tuple #[.int .u64 (h : Int), .int .u64 (l : Int)]) ∧ w' = w) ∧
      h < 18446744073709551616 ∧ l < 18446744073709551616 ∧ l + 18446744073709551616 * h = x * y := by
  have hxy : x * y ≤ 18446744073709551615 * 18446744073709551615 := Nat.mul_le_mul (by omega) (by omega)
  exact ⟨_, _, fun w => mul64e x y hx hy w, by omega, by omega, by omega⟩
theorem mul64 (x y : Nat) (hx : x < 18446744073709551616) (hy : y < 18446744073709551616) (w : World) :
    Calls Tryz.prog 82 #[.int .u64 (x : Int), .int .u64 (y : Int)] w fun e w' => w' = w ∧ ∃ h l : Nat, e = .returned (.tuple #[.int .u64 (h : Int), .int .u64 (l : Int)]) ∧
      h < 18446744073709551616 ∧ l < 18446744073709551616 ∧ l + 18446744073709551616 * h = x * y := by
  obtain ⟨h, l, hc, h1, h2, h3⟩ := mul64q x y hx hy
  exact (hc w).mono fun e w' he => ⟨he.2, h, l, he.1, h1, h2, h3⟩
/-- One step of a product: a product of two words, on top of what stands there and what is carried. -/
theorem mulstep (x y o c : Nat) (hx : x < 18446744073709551616) (hy : y < 18446744073709551616) (ho : o < 18446744073709551616) (hc : c < 18446744073709551616) :
    ∃ h l s1 k1 s2 k2 g cy : Nat, (∀ w, Calls Tryz.prog 82 #[.int .u64 (x : Int), .int .u64 (y : Int)] w fun e w' => e = .returned (.tuple #[.int .u64 (h : Int), .int .u64 (l : Int)]) ∧ w' = w) ∧
      (∀ w, (callFunc 83 #[.int .u64 (l : Int), .int .u64 (c : Int), .int .u64 0]).run Tryz.prog w = .ok (.value (.tuple #[.int .u64 (s1 : Int), .int .u64 (k1 : Int)])) w) ∧
      (∀ w, (callFunc 83 #[.int .u64 (o : Int), .int .u64 (s1 : Int), .int .u64 0]).run Tryz.prog w = .ok (.value (.tuple #[.int .u64 (s2 : Int), .int .u64 (k2 : Int)])) w) ∧
      IntKind.u64.wrap ((h : Int) + (k1 : Int)) = (g : Int) ∧ IntKind.u64.wrap ((g : Int) + (k2 : Int)) = (cy : Int) ∧
      s2 < 18446744073709551616 ∧ cy < 18446744073709551616 ∧ s2 + 18446744073709551616 * cy = x * y + o + c := by
  have hxy : x * y ≤ 18446744073709551615 * 18446744073709551615 := Nat.mul_le_mul (by omega) (by omega)
  obtain ⟨h, l, hm, hh, hl, e1⟩ := mul64q x y hx hy
  obtain ⟨s1, k1, a1, hs1, hk1, e2⟩ := add64z l c hl hc
  obtain ⟨s2, k2, a2, hs2, hk2, e3⟩ := add64z o s1 ho hs1
  refine ⟨h, l, s1, k1, s2, k2, h + k1, h + k1 + k2, hm, a1, a2, ?_, ?_, hs2, by omega, by omega⟩
  · rw [addN]; exact wrapN _ (by omega)
  · rw [addN]; exact wrapN _ (by omega)
set_option maxHeartbeats 1000000 in
theorem cell_any (x y o c : Nat) (hx : x < 18446744073709551616) (hy : y < 18446744073709551616) (ho : o < 18446744073709551616) (hc : c < 18446744073709551616) (w : World) :
    Calls Tryz.prog 150 #[.int .u64 (x : Int), .int .u64 (y : Int), .int .u64 (o : Int), .int .u64 (c : Int)] w fun e w' => w' = w ∧ ∃ l h : Nat, e = .returned (.tuple #[.int .u64 (l : Int), .int .u64 (h : Int)]) ∧
      h < 18446744073709551616 ∧ l < 18446744073709551616 ∧ l + 18446744073709551616 * h = x * y + o + c := by
  have hxy : x * y ≤ 18446744073709551615 * 18446744073709551615 := Nat.mul_le_mul (by omega) (by omega)
  go_enter Tryz.func150, Tryz.ntmps150
  go_wp2_with fail
  refine (mul64 x y hx hy _).mono ?_
  rintro e w1 ⟨rfl, h, l, rfl, hh, hl, e1⟩
  obtain ⟨s1, k1, a1, hs1, hk1, e2⟩ := add64z l o hl ho
  obtain ⟨s2, k2, a2, hs2, hk2, e3⟩ := add64z s1 c hs1 hc
  have w1 : IntKind.u64.wrap ((h : Int) + (k1 : Int)) = ((h + k1 : Nat) : Int) := by rw [addN]; exact wrapN _ (by omega)
  have w2 : IntKind.u64.wrap (((h + k1 : Nat) : Int) + (k2 : Int)) = ((h + k1 + k2 : Nat) : Int) := by rw [addN]; exact wrapN _ (by omega)
  go_wp2
  go_ret2
  refine ⟨rfl, s2, h + k1 + k2, ?_, by omega, by omega, by omega⟩
  rfl
end Go.Proofs.YtmepmoalhgehhaaGreatDoor
namespace Go.Proofs.YtmepmoalhgehhaaGreatDoor
open Go.RowKit Go.Sort
/-- It returned a value, of which something holds. -/
def Ret (Q : Value → World → Prop) (e : Ending) (w : World) : Prop := ∃ v, e = .returned v ∧ Q v w
theorem below1 (w : World) (o1 : Obj) : Below w.heap.size w (w.alloc o1) := (Below.refl _ _).alloc (Nat.le_refl _) o1
theorem below2 (w : World) (o1 o2 : Obj) : Below w.heap.size w ((w.alloc o1).alloc o2) := (below1 w o1).alloc (by simp) o2
theorem below3 (w : World) (o1 o2 o3 : Obj) : Below w.heap.size w (((w.alloc o1).alloc o2).alloc o3) := (below2 w o1 o2).alloc (by simp; omega) o3
theorem below4 (w : World) (o1 o2 o3 o4 : Obj) : Below w.heap.size w ((((w.alloc o1).alloc o2).alloc o3).alloc o4) := (below3 w o1 o2 o3).alloc (by simp; omega) o4
set_option maxHeartbeats 1000000 in
theorem plus_any (x y : Value) (m n : Nat) (hx : Four x m) (hy : Four y n) (w : World) :
    Calls Tryz.prog 112 #[x, y] w (Ret fun e w' => Below w.heap.size w w' ∧ ∃ (v : Value) (s k : Nat), e = .tuple #[v, .int .u64 (k : Int)] ∧ Four v s ∧ k ≤ 1 ∧ s + top * k = m + n) := by
  obtain ⟨a, b, c, d, rfl, ha, hb, hc, hd, em⟩ := hx
  obtain ⟨p, q, r, s, rfl, hp, hq, hr, hs, en⟩ := hy
  obtain ⟨s0, k0, a0, hs0, hk0, e0⟩ := add64z a p ha hp
  obtain ⟨s1, k1, a1, hs1, hk1, e1⟩ := add64 b q k0 hb hq hk0
  obtain ⟨s2, k2, a2, hs2, hk2, e2⟩ := add64 c r k1 hc hr hk1
  obtain ⟨s3, k3, a3, hs3, hk3, e3⟩ := add64 d s k2 hd hs hk2
  have hv : val s0 s1 s2 s3 + top * k3 = m + n := by rw [em, en]; unfold val top; omega
  clear e0 e1 e2 e3 em en
  go_enter Tryz.func112, Tryz.ntmps112
  go_wp2_with (first | simp only [a0] | simp only [a1] | simp only [a2] | simp only [a3])
  refine bodyPost_ret (v := ?v) ?hr rfl ?hR
  case hr => simp [results, Tryz.results112, go_sem]; rfl
  exact ⟨_, rfl, below3 _ _ _ _, _, _, k3, rfl, Four.mk hs0 hs1 hs2 hs3 rfl, hk3, hv⟩
set_option maxHeartbeats 1000000 in
theorem minus_any (x y : Value) (m n : Nat) (hx : Four x m) (hy : Four y n) (w : World) :
    Calls Tryz.prog 149 #[x, y] w (Ret fun e w' => Below w.heap.size w w' ∧ ∃ (v : Value) (s k : Nat), e = .tuple #[v, .int .u64 (k : Int)] ∧ Four v s ∧ k ≤ 1 ∧ s + n = m + top * k) := by
  obtain ⟨a, b, c, d, rfl, ha, hb, hc, hd, em⟩ := hx
  obtain ⟨p, q, r, s, rfl, hp, hq, hr, hs, en⟩ := hy
  obtain ⟨s0, k0, a0, hs0, hk0, e0⟩ := sub64z a p ha hp
  obtain ⟨s1, k1, a1, hs1, hk1, e1⟩ := sub64 b q k0 hb hq hk0
  obtain ⟨s2, k2, a2, hs2, hk2, e2⟩ := sub64 c r k1 hc hr hk1
  obtain ⟨s3, k3, a3, hs3, hk3, e3⟩ := sub64 d s k2 hd hs hk2
  have hv : val s0 s1 s2 s3 + n = m + top * k3 := by rw [em, en]; unfold val top; omega
  clear e0 e1 e2 e3 em en
  go_enter Tryz.func149, Tryz.ntmps149
  go_wp2_with (first | simp only [a0] | simp only [a1] | simp only [a2] | simp only [a3])
  refine bodyPost_ret (v := ?v) ?hr rfl ?hR
  case hr => simp [results, Tryz.results149, go_sem]; rfl
  exact ⟨_, rfl, below3 _ _ _ _, _, _, k3, rfl, Four.mk hs0 hs1 hs2 hs3 rfl, hk3, hv⟩
theorem four_any (x : Value) (m : Nat) (hx : Four x m) (w : World) :
    Calls Tryz.prog 109 #[x] w (Ret fun e w' => Below w.heap.size w w' ∧ e = x) := by
  obtain ⟨a, b, c, d, rfl, ha, hb, hc, hd, em⟩ := hx
  clear em
  go_enter Tryz.func109, Tryz.ntmps109
  go_wp2
  refine bodyPost_ret (v := ?v) ?hr rfl ?hR
  case hr => simp [results, Tryz.results109, go_sem]; rfl
  exact ⟨_, rfl, below2 _ _ _, rfl⟩
theorem number_any (x : Value) (m : Nat) (hx : Four x m) (w : World) :
    Calls Tryz.prog 110 #[x] w (Ret fun e w' => Below w.heap.size w w' ∧ e = x) := by
  obtain ⟨a, b, c, d, rfl, ha, hb, hc, hd, em⟩ := hx
  clear em
  go_enter Tryz.func110, Tryz.ntmps110
  go_wp2
  refine bodyPost_ret (v := ?v) ?hr rfl ?hR
  case hr => simp [results, Tryz.results110, go_sem]; rfl
  exact ⟨_, rfl, below2 _ _ _, rfl⟩
theorem mul_val (x a b c d : Nat) : x * val a b c d = val (x * a) (x * b) (x * c) (x * d) := by
  unfold val
  rw [Nat.mul_add, Nat.mul_add, Nat.mul_add, Nat.mul_left_comm x _ b, Nat.mul_left_comm x _ c, Nat.mul_left_comm x _ d]
theorem row_sum {x a b c d p q r s l0 l1 l2 l3 h0 h1 h2 h3 m n : Nat} (em : m = val a b c d) (en : n = val p q r s)
    (e0 : l0 + 18446744073709551616 * h0 = x * a + p + 0) (e1 : l1 + 18446744073709551616 * h1 = x * b + q + h0)
    (e2 : l2 + 18446744073709551616 * h2 = x * c + r + h1) (e3 : l3 + 18446744073709551616 * h3 = x * d + s + h2) :
    l0 + 18446744073709551616 * val l1 l2 l3 h3 = x * m + n := by
  rw [em, en, mul_val x a b c d]
  generalize x * a = xa at *
  generalize x * b = xb at *
  generalize x * c = xc at *
  generalize x * d = xd at *
  unfold val
  omega
set_option maxHeartbeats 1000000 in
theorem row_any (x : Nat) (y z : Value) (m n : Nat) (hx : x < 18446744073709551616) (hy : Four y m) (hz : Four z n) (w : World) :
    Calls Tryz.prog 147 #[.int .u64 (x : Int), y, z] w (Ret fun e w' => Below w.heap.size w w' ∧ ∃ (l : Nat) (v : Value) (s : Nat), e = .tuple #[.int .u64 (l : Int), v] ∧ l < 18446744073709551616 ∧ Four v s ∧ l + 18446744073709551616 * s = x * m + n) := by
  obtain ⟨a, b, c, d, rfl, ha, hb, hc, hd, em⟩ := hy
  obtain ⟨p, q, r, s, rfl, hp, hq, hr, hs, en⟩ := hz
  go_enter Tryz.func147, Tryz.ntmps147
  go_wp2_with fail
  refine (cell_any x a p 0 hx ha hp (by decide) _).mono ?_
  rintro e w1 ⟨rfl, l0, h0, rfl, hh0, hl0, e0⟩
  go_wp2_with fail
  refine (cell_any x b q h0 hx hb hq hh0 _).mono ?_
  rintro e w1 ⟨rfl, l1, h1, rfl, hh1, hl1, e1⟩
  go_wp2_with fail
  refine (cell_any x c r h1 hx hc hr hh1 _).mono ?_
  rintro e w1 ⟨rfl, l2, h2, rfl, hh2, hl2, e2⟩
  go_wp2_with fail
  refine (cell_any x d s h2 hx hd hs hh2 _).mono ?_
  rintro e w1 ⟨rfl, l3, h3, rfl, hh3, hl3, e3⟩
  go_wp2
  refine bodyPost_ret (v := ?v) ?hr rfl ?hR
  case hr => simp [results, Tryz.results147, go_sem]; rfl
  exact ⟨_, rfl, below3 _ _ _ _, l0, _, _, rfl, hl0, Four.mk hl1 hl2 hl3 hh3 rfl, row_sum em en e0 e1 e2 e3⟩
end Go.Proofs.YtmepmoalhgehhaaGreatDoor
namespace Go.Proofs.YtmepmoalhgehhaaGreatDoor
open Go.RowKit Go.Sort
/-- Four words lie in a block of their own. -/
structure At4 (w : World) (k a b c d : Nat) : Prop where
  c0 : w.cell? ⟨k, 0, none⟩ = some (.int .u64 (a : Int))
  c1 : w.cell? ⟨k, 1, none⟩ = some (.int .u64 (b : Int))
  c2 : w.cell? ⟨k, 2, none⟩ = some (.int .u64 (c : Int))
  c3 : w.cell? ⟨k, 3, none⟩ = some (.int .u64 (d : Int))
  f : ∀ o, w.frozen? ⟨k, o, none⟩ = false
variable {w w1 : World} {k a b c d : Nat}
theorem At4.lt (h : At4 w k a b c d) : k < w.heap.size := World.block_lt_of_cell? _ _ h.c0
theorem At4.below {B : Nat} (h : At4 w k a b c d) (hb : Below B w w1) (hk : k < B) : At4 w1 k a b c d :=
  ⟨by rw [hb.cell (p := ⟨k, 0, none⟩) hk]; exact h.c0, by rw [hb.cell (p := ⟨k, 1, none⟩) hk]; exact h.c1, by rw [hb.cell (p := ⟨k, 2, none⟩) hk]; exact h.c2, by rw [hb.cell (p := ⟨k, 3, none⟩) hk]; exact h.c3,
    fun o => by rw [hb.frozen (p := ⟨k, o, none⟩) hk]; exact h.f o⟩
theorem At4.call (h : At4 w k a b c d) (hb : Below w.heap.size w w1) : At4 w1 k a b c d := h.below hb h.lt
theorem At4.alloc (h : At4 w k a b c d) (o : Obj) : At4 (w.alloc o) k a b c d := h.call (below1 w o)
theorem At4.drewN (h : At4 w k a b c d) (q : Nat) : At4 (w.drewN q) k a b c d := ⟨h.c0, h.c1, h.c2, h.c3, h.f⟩
theorem At4.new (w : World) (t : TypeId) (a b c d : Nat) : At4 (w.alloc (.cells #[.int .u64 (a : Int), .int .u64 (b : Int), .int .u64 (c : Int), .int .u64 (d : Int)] t)) w.heap.size a b c d :=
  ⟨by rw [World.cell?_alloc_new]; rfl, by rw [World.cell?_alloc_new]; rfl, by rw [World.cell?_alloc_new]; rfl, by rw [World.cell?_alloc_new]; rfl, fun o => World.frozen?_alloc_new _ _ _ _⟩
theorem At4.made (w : World) (t : TypeId) (a b c d : Nat) {k : Nat} (hk : w.heap.size = k) : At4 (w.alloc (.cells #[.int .u64 (a : Int), .int .u64 (b : Int), .int .u64 (c : Int), .int .u64 (d : Int)] t)) k a b c d :=
  hk ▸ At4.new w t a b c d
theorem ne_addr {i j : Nat} {o o' : Nat} (h : i ≠ j ∨ o ≠ o') : (⟨i, o, none⟩ : Addr) ≠ ⟨j, o', none⟩ := by
  intro e
  simp only [Addr.mk.injEq, and_true] at e
  omega
theorem At4.other {j o : Nat} (h : At4 w k a b c d) (hj : j ≠ k) (v : Value) : At4 (w.setCell ⟨j, o, none⟩ v) k a b c d :=
  ⟨by rw [World.cell?_setCell_other _ _ _ _ (ne_addr (Or.inl hj))]; exact h.c0, by rw [World.cell?_setCell_other _ _ _ _ (ne_addr (Or.inl hj))]; exact h.c1,
   by rw [World.cell?_setCell_other _ _ _ _ (ne_addr (Or.inl hj))]; exact h.c2, by rw [World.cell?_setCell_other _ _ _ _ (ne_addr (Or.inl hj))]; exact h.c3, fun o => by rw [World.frozen?_setCell]; exact h.f o⟩
theorem At4.set0 (h : At4 w k a b c d) (x : Nat) : At4 (w.setCell ⟨k, 0, none⟩ (.int .u64 (x : Int))) k x b c d :=
  ⟨World.cell?_setCell_same _ _ _ h.c0, by rw [World.cell?_setCell_other _ _ _ _ (ne_addr (Or.inr (by decide)))]; exact h.c1,
   by rw [World.cell?_setCell_other _ _ _ _ (ne_addr (Or.inr (by decide)))]; exact h.c2, by rw [World.cell?_setCell_other _ _ _ _ (ne_addr (Or.inr (by decide)))]; exact h.c3, fun o => by rw [World.frozen?_setCell]; exact h.f o⟩
theorem At4.set1 (h : At4 w k a b c d) (x : Nat) : At4 (w.setCell ⟨k, 1, none⟩ (.int .u64 (x : Int))) k a x c d :=
  ⟨by rw [World.cell?_setCell_other _ _ _ _ (ne_addr (Or.inr (by decide)))]; exact h.c0, World.cell?_setCell_same _ _ _ h.c1,
   by rw [World.cell?_setCell_other _ _ _ _ (ne_addr (Or.inr (by decide)))]; exact h.c2, by rw [World.cell?_setCell_other _ _ _ _ (ne_addr (Or.inr (by decide)))]; exact h.c3, fun o => by rw [World.frozen?_setCell]; exact h.f o⟩
theorem At4.set2 (h : At4 w k a b c d) (x : Nat) : At4 (w.setCell ⟨k, 2, none⟩ (.int .u64 (x : Int))) k a b x d :=
  ⟨by rw [World.cell?_setCell_other _ _ _ _ (ne_addr (Or.inr (by decide)))]; exact h.c0, by rw [World.cell?_setCell_other _ _ _ _ (ne_addr (Or.inr (by decide)))]; exact h.c1,
   World.cell?_setCell_same _ _ _ h.c2, by rw [World.cell?_setCell_other _ _ _ _ (ne_addr (Or.inr (by decide)))]; exact h.c3, fun o => by rw [World.frozen?_setCell]; exact h.f o⟩
theorem At4.set3 (h : At4 w k a b c d) (x : Nat) : At4 (w.setCell ⟨k, 3, none⟩ (.int .u64 (x : Int))) k a b c x :=
  ⟨by rw [World.cell?_setCell_other _ _ _ _ (ne_addr (Or.inr (by decide)))]; exact h.c0, by rw [World.cell?_setCell_other _ _ _ _ (ne_addr (Or.inr (by decide)))]; exact h.c1,
   by rw [World.cell?_setCell_other _ _ _ _ (ne_addr (Or.inr (by decide)))]; exact h.c2, World.cell?_setCell_same _ _ _ h.c3, fun o => by rw [World.frozen?_setCell]; exact h.f o⟩
theorem At4.drew (h : At4 w k a b c d) : At4 w.drew k a b c d := ⟨h.c0, h.c1, h.c2, h.c3, h.f⟩
/-- Four cells of a block, written one behind the other. -/
def set4 (w : World) (k : Nat) (x y z t : Value) : World := (((w.setCell ⟨k, 0, none⟩ x).setCell ⟨k, 1, none⟩ y).setCell ⟨k, 2, none⟩ z).setCell ⟨k, 3, none⟩ t
theorem At4.self4 (h : At4 w k a b c d) (x y z t : Nat) : At4 (set4 w k (.int .u64 (x : Int)) (.int .u64 (y : Int)) (.int .u64 (z : Int)) (.int .u64 (t : Int))) k x y z t := (((h.set0 x).set1 y).set2 z).set3 t
theorem At4.other4 {j : Nat} (h : At4 w k a b c d) (hj : j ≠ k) (x y z t : Value) : At4 (set4 w j x y z t) k a b c d := (((h.other hj x).other hj y).other hj z).other hj t
theorem below_set4 {B j : Nat} {w0 : World} (h : Below B w0 w) (hj : B ≤ j) (x y z t : Value) : Below B w0 (set4 w j x y z t) :=
  (((h.setCell (p := ⟨j, 0, none⟩) hj x).setCell (p := ⟨j, 1, none⟩) hj y).setCell (p := ⟨j, 2, none⟩) hj z).setCell (p := ⟨j, 3, none⟩) hj t
theorem size_set4 (w : World) (j : Nat) (x y z t : Value) : (set4 w j x y z t).heap.size = w.heap.size := by simp [set4]
/-- A prime: 2^256 less its gap, which has three words. -/
def PrimeV (p : Value) (g0 g1 g2 : Nat) : Prop := p = .agg #[.agg #[.int .u64 (g0 : Int), .int .u64 (g1 : Int), .int .u64 (g2 : Int), .int .u64 0]]
end Go.Proofs.YtmepmoalhgehhaaGreatDoor
namespace Go.Proofs.YtmepmoalhgehhaaGreatDoor
open Go.RowKit Go.Sort Go.Deep
abbrev Bs := Array UInt8
/-- A byte's number; a byte as the model holds it. -/
def ub (x : UInt8) : Int := (x.toNat : Int)
def encB (x : UInt8) : Value := .int .u8 (ub x)
theorem ub_lt (x : UInt8) : ub x < 256 := by
  have := x.toNat_lt
  unfold ub
  omega
theorem ub_nonneg (x : UInt8) : 0 ≤ ub x := Int.natCast_nonneg _
/-- Of all that was there, only the cells off .. off + n - 1 of block b may have turned; no block has gone. -/
structure Only (b off n : Nat) (w w' : World) : Prop where
  os : w'.os = w.os
  tape : w'.tape = w.tape
  output : w'.output = w.output
  size : w.heap.size ≤ w'.heap.size
  block : ∀ k, k < w.heap.size → k ≠ b → w'.heap[k]? = w.heap[k]?
  cell : ∀ o, (o < off ∨ off + n ≤ o) → w'.cell? ⟨b, o, none⟩ = w.cell? ⟨b, o, none⟩
  froz : ∀ o, w'.frozen? ⟨b, o, none⟩ = w.frozen? ⟨b, o, none⟩
variable {b off n : Nat} {w w1 w2 : World}
theorem Only.refl (b off n : Nat) (w : World) : Only b off n w w := ⟨rfl, rfl, rfl, Nat.le_refl _, fun _ _ _ => rfl, fun _ _ => rfl, fun _ => rfl⟩
theorem Only.trans (h : Only b off n w w1) (k : Only b off n w1 w2) : Only b off n w w2 :=
  ⟨k.os.trans h.os, k.tape.trans h.tape, k.output.trans h.output, Nat.le_trans h.size k.size,
    fun i hi hn => (k.block i (Nat.lt_of_lt_of_le hi h.size) hn).trans (h.block i hi hn),
    fun o ho => (k.cell o ho).trans (h.cell o ho), fun o => (k.froz o).trans (h.froz o)⟩
theorem Only.drewN (h : Only b off n w w1) (q : Nat) : Only b off n w (w1.drewN q) := ⟨h.os, h.tape, h.output, h.size, h.block, h.cell, h.froz⟩
theorem Only.drew (h : Only b off n w w1) : Only b off n w w1.drew := ⟨h.os, h.tape, h.output, h.size, h.block, h.cell, h.froz⟩
theorem Only.setCell (h : Only b off n w w1) {o : Nat} (h1 : off ≤ o) (h2 : o < off + n) (v : Value) : Only b off n w (w1.setCell ⟨b, o, none⟩ v) := by
  refine h.trans ⟨rfl, rfl, rfl, by simp, fun k _ hn => Below.heap_setCell _ _ _ _ hn, fun o' ho => ?_, fun o' => by simp⟩
  exact World.cell?_setCell_other _ _ _ _ (by intro e; simp only [Addr.mk.injEq, and_true, true_and] at e; omega)
theorem Only.alloc (h : Only b off n w w1) (hb : b < w1.heap.size) (o : Obj) : Only b off n w (w1.alloc o) := by
  refine h.trans ⟨rfl, rfl, rfl, by simp, fun k hk _ => Below.heap_alloc _ _ _ hk, fun o' _ => ?_, fun o' => ?_⟩
  · exact World.cell?_alloc_lt _ _ _ hb
  · exact World.frozen?_alloc_old _ _ _ (by show b ≠ _; omega)
theorem Only.below (h : Only b off n w w1) {B : Nat} (hB : B ≤ w.heap.size) (hb : B ≤ b) : Below B w w1 :=
  ⟨h.os, h.tape, h.output, h.size, fun k hk => h.block k (by omega) (by omega)⟩
/-- What only makes memory turns nothing of the row. -/
theorem Only.of_below {B : Nat} (h : Below B w w1) (hB : B = w.heap.size) (hb : b < B) : Only b off n w w1 :=
  ⟨h.os, h.tape, h.output, h.size, fun k hk _ => h.block k (by omega), fun o _ => h.cell (p := ⟨b, o, none⟩) hb, fun o => h.frozen (p := ⟨b, o, none⟩) hb⟩
theorem Only.other (h : Only b off n w w1) {c o : Nat} (hc : c ≠ b) (hs : c < w.heap.size) : w1.cell? ⟨c, o, none⟩ = w.cell? ⟨c, o, none⟩ ∧ w1.frozen? ⟨c, o, none⟩ = w.frozen? ⟨c, o, none⟩ :=
  ⟨World.cell?_of_block (w := w) (h.block c hs hc), World.frozen?_of_block (w := w) (h.block c hs hc)⟩
/-- What was done to a block of one's own, just made, turned nothing that was there. -/
theorem Only.fresh {o m : Nat} {x : Obj} (h : Only w.heap.size o m (w.alloc x) w1) : Below w.heap.size w w1 :=
  ((Below.refl _ _).alloc (Nat.le_refl _) x).trans (h.below (by simp) (Nat.le_refl _))
section
variable {α : Type} [Inhabited α] {enc : α → Value} {d : Array α}
theorem Holds.lt (h : Holds enc w b off d) (hd : 0 < d.size) : b < w.heap.size := World.block_lt_of_cell? _ _ (h 0 hd).1
theorem Holds.other {c o : Nat} (h : Holds enc w c o d) (k : Only b off n w w1) (hc : c ≠ b) (hd : 0 < d.size) : Holds enc w1 c o d := by
  intro j hj
  have := h j hj
  have := k.other (o := o + j) hc (Holds.lt h hd)
  rw [this.1, this.2]
  exact h j hj
theorem Holds.same {o : Nat} (h : Holds enc w b o d) (k : Only b off n w w1) (hd : o + d.size ≤ off ∨ off + n ≤ o) : Holds enc w1 b o d := by
  intro j hj
  rw [k.cell _ (by omega), k.froz]
  exact h j hj
theorem Holds.below {B : Nat} (h : Holds enc w b off d) (k : Below B w w1) (hb : b < B) : Holds enc w1 b off d := by
  intro j hj
  rw [k.cell (p := ⟨b, off + j, none⟩) hb, k.frozen (p := ⟨b, off + j, none⟩) hb]
  exact h j hj
theorem Holds.drewN (h : Holds enc w b off d) (q : Nat) : Holds enc (w.drewN q) b off d := h
theorem Holds.drew (h : Holds enc w b off d) : Holds enc w.drew b off d := h
theorem Holds.set (h : Holds enc w b off d) {i : Nat} (hi : i < d.size) (x : α) : Holds enc (w.setCell ⟨b, off + i, none⟩ (enc x)) b off (d.setIfInBounds i x) := by
  intro j hj
  rw [Array.size_setIfInBounds] at hj
  rw [World.frozen?_setCell]
  by_cases e : j = i
  · subst e
    rw [getElem!_set_same d j x hi]
    exact ⟨World.cell?_setCell_same _ _ _ (h j hj).1, (h j hj).2⟩
  · rw [getElem!_set_other d i j x e, World.cell?_setCell_other _ _ _ _ (by intro e'; simp only [Addr.mk.injEq, and_true, true_and] at e'; omega)]
    exact h j hj
/-- A block of one's own, just made. -/
theorem Holds.new (w : World) (t : TypeId) (d : Array α) : Holds enc (w.alloc (.cells (d.map enc) t)) w.heap.size 0 d := by
  intro j hj
  rw [World.cell?_alloc_new, World.frozen?_alloc_new]
  refine ⟨?_, rfl⟩
  simp only [Nat.zero_add, Array.getElem?_map, Array.getElem?_eq_getElem hj, Option.map_some, getElem!_pos d j hj]
/-- A block of one's own, made by 'make'. -/
theorem Holds.made (w : World) (t : TypeId) (n : Nat) (x : α) : Holds enc (w.alloc (.cells (madeCells #[enc x] n) t)) w.heap.size 0 (Array.replicate n x) := by
  intro j hj
  rw [Array.size_replicate] at hj
  rw [World.cell?_alloc_new, World.frozen?_alloc_new]
  refine ⟨?_, rfl⟩
  rw [getElem!_pos _ j (by simpa using hj), Array.getElem_replicate]
  simp [madeCells, hj, Nat.mod_one]
end
section
/-- What Lent lays at place i behind the text. -/
def fill (i : Nat) : UInt8 := UInt8.ofNat (i % 251) ^^^ 165
theorem fill_int (i : Nat) : bits .xor .u8 ((i : Int) % 251) 165 = ub (fill i) := by
  have H : ∀ j : Fin 251, bits .xor .u8 (j.val : Int) 165 = ub (UInt8.ofNat j.val ^^^ 165) := by decide +kernel
  have := H ⟨i % 251, Nat.mod_lt _ (by decide)⟩
  simpa [fill] using this
def lentTo (s : ByteArray) : Nat → Bs
  | 0 => s.data ++ Array.replicate 160 0
  | k + 1 => (lentTo s k).setIfInBounds (s.size + k) (fill (s.size + k))
def lent (s : ByteArray) : Bs := lentTo s 160
theorem lentTo_size (s : ByteArray) (k : Nat) : (lentTo s k).size = s.size + 160 := by
  induction k with
  | zero => simp [lentTo]
  | succ k ih => simp [lentTo, ih]
theorem lent_size (s : ByteArray) : (lent s).size = s.size + 160 := lentTo_size s 160
variable {w w1 : World} {b o n : Nat}
theorem heap_setCells (b : Nat) {k : Nat} (hk : k ≠ b) : ∀ (vs : List Value) (p : Nat) (w : World), (w.setCells b p vs).heap[k]? = w.heap[k]?
  | [], _, _ => rfl
  | v :: r, p, w => by rw [World.setCells, heap_setCells b hk r (p + 1) _, Below.heap_setCell _ _ _ _ hk]
theorem Only.setCells (h : Only b o n w w1) (vs : List Value) (p : Nat) (hp : o ≤ p) (hn : p + vs.length ≤ o + n) : Only b o n w (w1.setCells b p vs) := by
  have h0 := below_setCells (B := 0) (b := b) (Nat.zero_le _) vs p w1 (Below.refl 0 w1)
  exact h.trans ⟨h0.os, h0.tape, h0.output, h0.size, fun k _ hk => heap_setCells b hk vs p w1,
    fun q hq => World.cell?_setCells_out b vs p w1 ⟨b, q, none⟩ (fun _ _ => by simp only; omega), fun q => World.frozen?_setCells b vs p w1 _⟩
/-- A row behind 'copy': what was copied stands at its place, all else as it stood. -/
theorem Holds.setCells {bs r : Bs} (h : Holds encB w b o bs) (vs : List Value) (p : Nat) (hr : r.size = bs.size) (hp : p + vs.length ≤ bs.size)
    (h1 : ∀ j (hj : j < vs.length), vs[j] = encB r[p + j]!) (h2 : ∀ j, j < bs.size → j < p ∨ p + vs.length ≤ j → r[j]! = bs[j]!) : Holds encB (w.setCells b (o + p) vs) b o r := by
  intro j hj
  rw [hr] at hj
  rw [World.frozen?_setCells]
  refine ⟨?_, (h j hj).2⟩
  by_cases hin : j < p ∨ p + vs.length ≤ j
  · rw [World.cell?_setCells_out b vs (o + p) w ⟨b, o + j, none⟩ (fun _ _ => by simp only; omega), h2 j hj hin]
    exact (h j hj).1
  · have hj2 : j - p < vs.length := by omega
    have := World.cell?_setCells_in b vs (o + p) w (fun i hi => by
      have := (h (p + i) (by omega)).1
      rw [← Nat.add_assoc] at this
      rw [this]; rfl) (j - p) hj2
    rw [show o + p + (j - p) = o + j by omega] at this
    rw [this, h1 (j - p) hj2, show p + (j - p) = j by omega]
theorem app_front (a r : Bs) (j : Nat) (hj : j < a.size) : (a ++ r)[j]! = a[j] := by
  have h : j < (a ++ r).size := by rw [Array.size_append]; omega
  rw [getElem!_pos (a ++ r) j h, Array.getElem_append_left hj]
theorem app_back (a r : Bs) (j : Nat) (h1 : a.size ≤ j) (h2 : j < a.size + r.size) : (a ++ r)[j]! = r[j - a.size]! := by
  have h : j < (a ++ r).size := by rw [Array.size_append]; omega
  have h3 : j - a.size < r.size := by omega
  rw [getElem!_pos (a ++ r) j h, Array.getElem_append_right h1, getElem!_pos r (j - a.size) h3]
theorem rep_at (n j : Nat) (h : j < n) : (Array.replicate n (0 : UInt8))[j]! = 0 := by
  have h' : j < (Array.replicate n (0 : UInt8)).size := by rw [Array.size_replicate]; exact h
  rw [getElem!_pos (Array.replicate n (0 : UInt8)) j h', Array.getElem_replicate]
theorem lent_front (s : ByteArray) (j : Nat) (hj : j < s.data.size) : (lentTo s 0)[j]! = s.data[j] := app_front _ _ j hj
theorem lent_back (s : ByteArray) (j : Nat) (h1 : s.data.size ≤ j) (h2 : j < s.data.size + 160) : (lentTo s 0)[j]! = 0 := by
  rw [lentTo, app_back _ _ j h1 (by rw [Array.size_replicate]; exact h2), rep_at _ _ (by omega)]
theorem holds_lent0 (s : ByteArray) (n : Nat) (hn : s.size + 160 = n) (h : Holds encB w b 0 (Array.replicate n (0 : UInt8))) :
    Holds encB (w.setCells b 0 (s.data.toList.map fun x => Value.int .u8 (x.toNat : Int))) b 0 (lentTo s 0) := by
  have hl : s.data.size = s.size := rfl
  refine Holds.setCells (o := 0) (p := 0) h _ (by rw [lentTo_size, Array.size_replicate, hn]) (by rw [List.length_map, Array.length_toList, Array.size_replicate]; omega) (fun j hj => ?_) (fun j hj hout => ?_)
  · rw [List.length_map, Array.length_toList] at hj
    rw [Nat.zero_add, lent_front s j hj, List.getElem_map, Array.getElem_toList]
    rfl
  · rw [Array.size_replicate] at hj
    rw [List.length_map, Array.length_toList] at hout
    rw [lent_back s j (by omega) (by omega), rep_at n j hj]
theorem size_of5 (P : Program) (e : TypeId) (h : (P.info? e).map (·.size) = some 1) : ∀ w, (Go.sizeOf e).run P w = .ok 1 w := by
  intro w
  cases hq : P.info? e with
  | none => simp [hq] at h
  | some i =>
    simp [hq] at h
    simp [Go.sizeOf, typeInfo, hq, h]
theorem conv_str (P : Program) (src dst e : TypeId) (hs : P.underlying src = some (.slice e)) (he : P.underlying e = some (.int .u8)) (hd : P.underlying dst = some .string)
    (w : World) (b o n cap : Nat) (bs : Bs) (hB : Holds encB w b o bs) (hn : bs.size = n) : (convert src dst (.slice (some ⟨b, o, none⟩) n cap)).run P w = .ok (.string ⟨bs⟩) w := by
  have h := run_convert_bytes_back (P := P) w src dst e ⟨b, o, none⟩ cap bs.toList hs he hd (fun j hj => by
    have hj' : j < bs.size := by simpa using hj
    have hc := (hB j hj').1
    rw [getElem!_pos bs j hj'] at hc
    have e1 : (⟨b, o, none⟩ : Addr).add j = ⟨b, o + j, none⟩ := by
      unfold Addr.add
      by_cases h0 : j = 0
      · subst h0; rfl
      · rw [if_neg h0]
    rw [e1, hc]
    simp [encB, ub])
  simpa [hn] using h
end
section
theorem slice22 : Tryz.prog.underlying 24 = some (.slice 5) := by kernel_rfl
theorem info5 : (Tryz.prog.info? 5).map (fun i => (i.zero, i.size, i.bytes)) = some (some (.int .u8 0), 1, 1) := by kernel_rfl
theorem int5 : Tryz.prog.underlying 5 = some (.int .u8) := by kernel_rfl
theorem str9 : Tryz.prog.underlying 9 = some .string := by kernel_rfl
theorem size5 : ∀ w, (Go.sizeOf 5).run Tryz.prog w = .ok 1 w := size_of5 Tryz.prog 5 (by kernel_rfl)
theorem lent_step (s : ByteArray) (k : Nat) : lentTo s (k + 1) = (lentTo s k).setIfInBounds (s.size + k) (fill (s.size + k)) := rfl
end
end Go.Proofs.YtmepmoalhgehhaaGreatDoor
namespace Go.Proofs.YtmepmoalhgehhaaGreatDoor
open Go.RowKit Go.Sort Go.Deep
/-- A text as bytes of one's own. -/
theorem conv_of (s : ByteArray) (w : World) :
    ∃ cap w', (convert 9 24 (.string s)).run Tryz.prog w = .ok (.slice (some ⟨w.heap.size, 0, none⟩) s.size cap) w' ∧ s.size ≤ cap ∧ Below w.heap.size w w' ∧ Holds encB w' w.heap.size 0 s.data ∧ w.heap.size < w'.heap.size := by
  have h := Lib.run_convert_string_bytes (P := Tryz.prog) w 9 24 5 s str9 slice22 int5
  have hcap : s.size ≤ grownCap w s.size 0 5 := by
    unfold grownCap Question.cut
    exact Nat.le_add_right _ _
  have hl : s.data.size = s.size := rfl
  refine ⟨_, _, h, hcap, ?_, ?_, by rw [Lib.bytesWorld_size]; omega⟩
  · refine ⟨?_, ?_, ?_, ?_, fun k hk => Lib.bytesWorld_at_old w 5 s k hk⟩
    · unfold Lib.bytesWorld World.freeze
      rw [if_neg (by decide)]
      rfl
    · unfold Lib.bytesWorld World.freeze
      rw [if_neg (by decide)]
      rfl
    · unfold Lib.bytesWorld World.freeze
      rw [if_neg (by decide)]
      rfl
    · rw [Lib.bytesWorld_size]; omega
  · intro j hj
    have hb := Lib.bytesWorld_at_new w 5 s
    have hsz : (Lib.bytesCells w 5 s).size = grownCap w s.size 0 5 := by
      unfold Lib.bytesCells
      rw [Array.size_append, Array.size_map, Array.size_replicate]
      omega
    have hc : (Lib.bytesCells w 5 s) = (s.data ++ Array.replicate (grownCap w s.size 0 5 - s.size) 0).map encB := by
      unfold Lib.bytesCells
      rw [Array.map_append, Array.map_replicate]
      rfl
    have hj2 : j < (s.data ++ Array.replicate (grownCap w s.size 0 5 - s.size) 0).size := by rw [Array.size_append, Array.size_replicate]; omega
    have hget : (s.data ++ Array.replicate (grownCap w s.size 0 5 - s.size) 0)[j] = s.data[j]! := by
      rw [Array.getElem_append_left hj, getElem!_pos s.data j hj]
    constructor
    · unfold World.cell?
      rw [hb]
      simp only [Nat.zero_add]
      rw [if_neg (by decide), hc, Array.getElem?_map, Array.getElem?_eq_getElem hj2, Option.map_some, hget]
    · unfold World.frozen?
      rw [hb]
      simp only [Nat.zero_add, hsz]
      simp
      omega
end Go.Proofs.YtmepmoalhgehhaaGreatDoor
namespace Go.Proofs.YtmepmoalhgehhaaGreatDoor
open Go.RowKit Go.Sort Go.Deep
/-- The greatest power of two below n. -/
def hf (n : Nat) : Nat := 2 ^ Nat.log2 (n - 1)
theorem hf_lt {n : Nat} (h : 2 ≤ n) : 1 ≤ hf n ∧ hf n < n ∧ n ≤ 2 * hf n := by
  unfold hf
  have h0 : n - 1 ≠ 0 := by omega
  have h1 := Nat.log2_self_le h0
  have h2 := Nat.lt_log2_self (n := n - 1)
  rw [Nat.pow_succ] at h2
  have h3 := Nat.two_pow_pos (Nat.log2 (n - 1))
  omega
def leafH (b : Bs) : Bs := SP.tagL [108, 101, 97, 102] [b.toList]
def nodeH (x y : Bs) : Bs := SP.tagL [110, 111, 100, 101] [x.toList, y.toList]
/-- What a path leads to; the path's last entry first. -/
def lead (leaf : Bs) : List Bs → Nat → Nat → Bs × Bool
  | [], n, _ => if n = 1 then (leafH leaf, true) else (#[], false)
  | e :: r, n, i => if n = 1 then (leafH leaf, false) else
    if hf n ≤ i then (nodeH e (lead leaf r (n - hf n) (i - hf n)).1, (lead leaf r (n - hf n) (i - hf n)).2) else (nodeH (lead leaf r (hf n) i).1 e, (lead leaf r (hf n) i).2)
theorem lead_hi {lb e : Bs} {r : List Bs} {n i : Nat} (h1 : ¬ n = 1) (hk : hf n ≤ i) : lead lb (e :: r) n i = (nodeH e (lead lb r (n - hf n) (i - hf n)).1, (lead lb r (n - hf n) (i - hf n)).2) := by
  rw [lead, if_neg h1, if_pos hk]
theorem lead_lo {lb e : Bs} {r : List Bs} {n i : Nat} (h1 : ¬ n = 1) (hk : ¬ hf n ≤ i) : lead lb (e :: r) n i = (nodeH (lead lb r (hf n) i).1 e, (lead lb r (hf n) i).2) := by
  rw [lead, if_neg h1, if_neg hk]
section
variable {P : Program} {ops : Array Oper} {rest : List Oper} {op : Oper} {a : Act} {w : World} {Q : Exit → Act → World → Prop}
theorem wpList_idx (v : Value) (hgd : op.guard = none) (c : Value) (t : Tmp) (T : TypeId) (ho : op.op = .index T (.const c) (.tmp t)) (hr : (Instr.index T c (a.eval (.tmp t))).run P w = .ok v w) (h : wpList P ops Q rest (a.put op.dst v) w) : wpList P ops Q (op :: rest) a w :=
  wpList_plain hgd fun K hK => by
    unfold Oper.wp
    have : (execOp a.eval op).run P w = .ok (.value v) w := by
      unfold execOp
      rw [ho]
      show ((Instr.index T c (a.eval (.tmp t))) >>= fun v => pure (Next.value v)).run P w = _
      rw [Sem.run_bind, hr]
      rfl
    rw [this]
    exact hK _ _ h
end
theorem idx_run (s : ByteArray) (y n : Nat) (hy : y < s.size) (hn : ((s[y]'hy).toNat) = n) (w : World) : (Instr.index 9 (.string s) (.int .u8 (y : Int))).run Tryz.prog w = .ok (.int .u8 (n : Int)) w := by
  rw [run_index_string (t := 9) (s := s) (k := .u8) (i := (y : Int)) (h := str9)]
  subst hn
  simp [hy]
end Go.Proofs.YtmepmoalhgehhaaGreatDoor
set_option linter.unusedVariables false
set_option linter.unusedSimpArgs false
namespace Go.Proofs.YtmepmoalhgehhaaGreatDoor.RG
open Go Go.RowKit
/-- A value, or the address of one of the call's own blocks. -/
inductive SV where
  | v (x : Value)
  | p (b o : Nat)
  | s (b n c : Nat)
  | t (b n c : Nat) (y : Value)
def SV.at (μ : Nat → Nat) : SV → Value
  | .v x => x
  | .p b o => .pointer (some ⟨μ b, o, none⟩)
  | .s b n c => .slice (some ⟨μ b, 0, none⟩) n c
  | .t b n c y => .tuple #[.slice (some ⟨μ b, 0, none⟩) n c, y]
def SV.blk : SV → Option Nat
  | .v _ => none
  | .p b _ => some b
  | .s b _ _ => some b
  | .t b _ _ _ => some b
theorem SV.at_congr {μ ν : Nat → Nat} {s : SV} (h : ∀ b, s.blk = some b → μ b = ν b) : s.at μ = s.at ν := by
  cases s with
  | v x => rfl
  | p b o => show Value.pointer (some ⟨μ b, o, none⟩) = .pointer (some ⟨ν b, o, none⟩); rw [h b rfl]
  | s b n c => show Value.slice (some ⟨μ b, 0, none⟩) n c = .slice (some ⟨ν b, 0, none⟩) n c; rw [h b rfl]
  | t b n c y => show Value.tuple #[.slice (some ⟨μ b, 0, none⟩) n c, y] = .tuple #[.slice (some ⟨ν b, 0, none⟩) n c, y]; rw [h b rfl]
inductive Kind where
  | stay
  | pass
  | call
  | make (b : Nat)
  | put (b : Nat)
/-- What an operation of a region does; 'need': slots, and the operations that fill them. -/
structure It where
  dst : Option Tmp
  need : List (Tmp × Nat)
  out : SV
  kind : Kind
/-- A block: what lies in it, what is stored into it, which operation makes it and which stores into it. -/
structure Bl where
  before : List Value
  after : List Value
  al : Option Nat
  st : Option Nat
def on (L : Array Bool) (i : Nat) : Bool := L.getD i false
def Bl.live (e : Bl) (L : Array Bool) : Bool := (e.al.map (on L)).getD true
def Bl.put (e : Bl) (L : Array Bool) : Bool := (e.st.map (on L)).getD false
def Bl.now (e : Bl) (L : Array Bool) : List Value := if e.put L = true then e.after else e.before
theorem on_set {L : Array Bool} {i j : Nat} (h : i < L.size) : on (L.setIfInBounds i true) j = (on L j || i == j) := by
  unfold on
  simp only [Array.getD_eq_getD_getElem?, Array.getElem?_setIfInBounds]
  by_cases hij : i = j
  · subst hij; simp [h]
  · simp [hij]
theorem live_set {e : Bl} {L : Array Bool} {i : Nat} (h : i < L.size) : e.live (L.setIfInBounds i true) = (e.live L || e.al == some i) := by
  unfold Bl.live
  cases ha : e.al with
  | none => rfl
  | some j =>
    show on _ j = (on L j || _)
    rw [on_set h]
    by_cases hij : i = j
    · subst hij; simp
    · have h1 : (i == j) = false := by simpa using hij
      have h2 : (some j == some i) = false := by simpa using fun h => hij h.symm
      rw [h1, h2]
theorem put_set {e : Bl} {L : Array Bool} {i : Nat} (h : i < L.size) : e.put (L.setIfInBounds i true) = (e.put L || e.st == some i) := by
  unfold Bl.put
  cases ha : e.st with
  | none => rfl
  | some j =>
    show on _ j = (on L j || _)
    rw [on_set h]
    by_cases hij : i = j
    · subst hij; simp
    · have h1 : (i == j) = false := by simpa using hij
      have h2 : (some j == some i) = false := by simpa using fun h => hij h.symm
      rw [h1, h2]
theorem range_below {B k o : Nat} {w w' : World} {cs : List Value} (h : w.rangeAt k o cs) (hb : Below B w w') (hk : k < B) : w'.rangeAt k o cs := fun j v hv => by
  rw [hb.cell (p := ⟨k, o + j, none⟩) hk]; exact h j v hv
theorem there_below {B k o n : Nat} {w w' : World} (h : w.there k o n) (hb : Below B w w') (hk : k < B) : w'.there k o n := fun j hj => by
  rw [hb.cell (p := ⟨k, o + j, none⟩) hk, hb.frozen (p := ⟨k, o + j, none⟩) hk]; exact h j hj
theorem below_setCells {B k : Nat} {w0 : World} (hk : B ≤ k) : ∀ (vs : List Value) (o : Nat) (w : World), Below B w0 w → Below B w0 (w.setCells k o vs)
  | [], _, _, h => h
  | v :: r, o, w, h => below_setCells hk r (o + 1) _ (h.setCell (p := ⟨k, o, none⟩) hk v)
theorem setCells_size (k : Nat) : ∀ (vs : List Value) (o : Nat) (w : World), (w.setCells k o vs).heap.size = w.heap.size
  | [], _, _ => rfl
  | v :: r, o, w => by
    rw [World.setCells, setCells_size k r (o + 1)]
    simp [World.setCell]
theorem there_setCells {k b o n : Nat} : ∀ (vs : List Value) (i : Nat) (w : World), w.there b o n → (w.setCells k i vs).there b o n
  | [], _, _, h => h
  | v :: r, i, w, h => there_setCells r (i + 1) _ fun j hj => ⟨World.isSome_setCells k [v] i w _ (h j hj).1, by rw [World.frozen?_setCell]; exact (h j hj).2⟩
/-- Nothing below k0 was turned, but for the blocks of X. -/
structure BelX (k0 : Nat) (X : List Nat) (w w' : World) : Prop where
  os : w'.os = w.os
  tape : w'.tape = w.tape
  output : w'.output = w.output
  size : w.heap.size ≤ w'.heap.size
  block : ∀ j, j < k0 → j ∉ X → w'.heap[j]? = w.heap[j]?
theorem BelX.below {k0 : Nat} {w w' : World} (h : BelX k0 [] w w') : Below k0 w w' := ⟨h.os, h.tape, h.output, h.size, fun j hj => h.block j hj List.not_mem_nil⟩
theorem BelX.drew {k0 : Nat} {X : List Nat} {w w' : World} (h : BelX k0 X w w') : BelX k0 X w w'.drew := ⟨h.os, h.tape, h.output, h.size, h.block⟩
theorem BelX.refl (k0 : Nat) (X : List Nat) (w : World) : BelX k0 X w w := ⟨rfl, rfl, rfl, Nat.le_refl _, fun _ _ _ => rfl⟩
theorem BelX.trans {k0 : Nat} {X : List Nat} {a b c : World} (h : BelX k0 X a b) (k : BelX k0 X b c) : BelX k0 X a c :=
  ⟨k.os.trans h.os, k.tape.trans h.tape, k.output.trans h.output, Nat.le_trans h.size k.size, fun i hi hx => (k.block i hi hx).trans (h.block i hi hx)⟩
/-- What is known of the world, where the operations of L are done. -/
structure Wd (w0 : World) (k0 : Nat) (X : List Nat) (bl : List Bl) (L : Array Bool) (μ : Nat → Nat) (w : World) : Prop where
  bel : BelX k0 X w0 w
  le : k0 ≤ w.heap.size
  has : ∀ (b : Nat) (e : Bl), bl[b]? = some e → e.live L = true → w.rangeAt (μ b) 0 (e.now L) ∧ w.there (μ b) 0 e.before.length ∧ μ b < w.heap.size ∧ (k0 ≤ μ b ∨ μ b ∈ X)
  inj : ∀ (b c : Nat) (e f : Bl), bl[b]? = some e → bl[c]? = some f → e.live L = true → f.live L = true → b ≠ c → μ b ≠ μ c
variable {w0 w w' : World} {k0 : Nat} {X : List Nat} {bl : List Bl} {L : Array Bool} {μ : Nat → Nat}
theorem Wd.drew (h : Wd w0 k0 X bl L μ w) : Wd w0 k0 X bl L μ w.drew := ⟨h.bel.drew, h.le, h.has, h.inj⟩
theorem Wd.same {L' : Array Bool} (h : Wd w0 k0 X bl L μ w) (hl : ∀ (b : Nat) (e : Bl), bl[b]? = some e → e.live L' = e.live L ∧ e.put L' = e.put L) : Wd w0 k0 X bl L' μ w := by
  refine ⟨h.bel, h.le, fun b e hb hv => ?_, fun b c e f hb hc he hf => h.inj b c e f hb hc ((hl b e hb).1 ▸ he) ((hl c f hc).1 ▸ hf)⟩
  have := h.has b e hb ((hl b e hb).1 ▸ hv)
  unfold Bl.now at this ⊢
  rw [(hl b e hb).2]
  exact this
theorem Wd.call (h : Wd w0 k0 X bl L μ w) (hb : Below w.heap.size w w') : Wd w0 k0 X bl L μ w' := by
  refine ⟨h.bel.trans ⟨hb.os, hb.tape, hb.output, hb.size, fun k hk _ => hb.block k (Nat.lt_of_lt_of_le hk h.le)⟩, Nat.le_trans h.le hb.size, fun b e hbe hv => ?_, h.inj⟩
  obtain ⟨h1, h2, h3, h4⟩ := h.has b e hbe hv
  exact ⟨range_below h1 hb h3, there_below h2 hb h3, Nat.lt_of_lt_of_le h3 hb.size, h4⟩
def upd (μ : Nat → Nat) (b k : Nat) : Nat → Nat := fun c => if c = b then k else μ c
/-- A new block k; there lies c; nothing that was there was turned. -/
structure Made (w : World) (k : Nat) (c : List Value) (w' : World) : Prop where
  bel : Below w.heap.size w w'
  le : w.heap.size ≤ k
  lt : k < w'.heap.size
  range : w'.rangeAt k 0 c
  there : w'.there k 0 c.length
theorem Made.alloc (w : World) (c : List Value) (t : TypeId) : Made w w.heap.size c (w.alloc (.cells c.toArray t)) := by
  refine ⟨below1 w _, Nat.le_refl _, by rw [World.size_alloc]; omega, fun j v hj => ?_, fun j hj => ⟨?_, World.frozen?_alloc_new _ _ _ _⟩⟩
  · rw [Nat.zero_add, World.cell?_alloc_new]
    simpa using hj
  · rw [Nat.zero_add, World.cell?_alloc_new]
    simp [hj]
theorem Wd.make {i b k : Nat} {e : Bl} (h : Wd w0 k0 X bl L μ w) (hi : i < L.size) (hb : bl[b]? = some e) (ha : e.al = some i) (hne : ∀ (c : Nat) (f : Bl), bl[c]? = some f → c ≠ b → f.al ≠ some i)
    (hst : ∀ (c : Nat) (f : Bl), bl[c]? = some f → f.st ≠ some i) (hp : e.put L = false) (hm : Made w k e.before w') :
    Wd w0 k0 X bl (L.setIfInBounds i true) (upd μ b k) w' := by
  have hput : ∀ (c : Nat) (f : Bl), bl[c]? = some f → f.put (L.setIfInBounds i true) = f.put L := fun c f hc => by
    rw [put_set hi, show (f.st == some i) = false by simpa using hst c f hc, Bool.or_false]
  have hliv : ∀ (c : Nat) (f : Bl), bl[c]? = some f → c ≠ b → f.live (L.setIfInBounds i true) = f.live L := fun c f hc hcb => by
    rw [live_set hi, show (f.al == some i) = false by simpa using hne c f hc hcb, Bool.or_false]
  have hold : ∀ (c : Nat) (f : Bl), bl[c]? = some f → c ≠ b → f.live (L.setIfInBounds i true) = true → μ c < w.heap.size := fun c f hc hcb hv => (h.has c f hc (hliv c f hc hcb ▸ hv)).2.2.1
  have hal := hm.bel
  have hmk := hm.le
  refine ⟨h.bel.trans ⟨hal.os, hal.tape, hal.output, hal.size, fun k hk _ => hal.block k (Nat.lt_of_lt_of_le hk h.le)⟩, Nat.le_trans h.le hal.size, fun c f hc hv => ?_, fun c d f g hc hd hf hg hcd => ?_⟩
  · by_cases hcb : c = b
    · subst hcb
      rw [hb] at hc
      obtain rfl : e = f := Option.some.inj hc
      have hn : e.now (L.setIfInBounds i true) = e.before := by unfold Bl.now; rw [hput c e hb, hp]; rfl
      rw [hn]
      unfold upd
      rw [if_pos rfl]
      exact ⟨hm.range, hm.there, hm.lt, Or.inl (Nat.le_trans h.le hmk)⟩
    · obtain ⟨h1, h2, h3, h4⟩ := h.has c f hc (hliv c f hc hcb ▸ hv)
      unfold upd
      rw [if_neg hcb]
      have hn : f.now (L.setIfInBounds i true) = f.now L := by unfold Bl.now; rw [hput c f hc]
      rw [hn]
      exact ⟨range_below h1 hal h3, there_below h2 hal h3, Nat.lt_of_lt_of_le h3 hal.size, h4⟩
  · unfold upd
    by_cases hcb : c = b
    · subst hcb
      rw [if_pos rfl, if_neg (fun h => hcd h.symm)]
      exact Nat.ne_of_gt (Nat.lt_of_lt_of_le (hold d g hd (fun h => hcd h.symm) hg) hmk)
    · by_cases hdb : d = b
      · subst hdb
        rw [if_pos rfl, if_neg hcb]
        exact Nat.ne_of_lt (Nat.lt_of_lt_of_le (hold c f hc hcb hf) hmk)
      · rw [if_neg hcb, if_neg hdb]
        exact h.inj c d f g hc hd (hliv c f hc hcb ▸ hf) (hliv d g hd hdb ▸ hg) hcd
/-- Of what was there, block k alone was written; there lies cs now. -/
structure PutTo (k n : Nat) (cs : List Value) (w w' : World) : Prop where
  os : w'.os = w.os
  tape : w'.tape = w.tape
  output : w'.output = w.output
  size : w.heap.size ≤ w'.heap.size
  block : ∀ j, j < w.heap.size → j ≠ k → w'.heap[j]? = w.heap[j]?
  range : w'.rangeAt k 0 cs
  there : w'.there k 0 n
theorem setCells_other (k : Nat) : ∀ (vs : List Value) (o : Nat) (w : World) (j : Nat), j ≠ k → (w.setCells k o vs).heap[j]? = w.heap[j]?
  | [], _, _, _, _ => rfl
  | v :: r, o, w, j, h => by
    rw [World.setCells, setCells_other k r (o + 1) _ j h, Below.heap_setCell _ _ _ _ h]
theorem setCells_os (k : Nat) : ∀ (vs : List Value) (o : Nat) (w : World), (w.setCells k o vs).os = w.os ∧ (w.setCells k o vs).tape = w.tape ∧ (w.setCells k o vs).output = w.output
  | [], _, _ => ⟨rfl, rfl, rfl⟩
  | v :: r, o, w => by rw [World.setCells]; exact setCells_os k r (o + 1) _
/-- A store of some cells into a block. -/
theorem PutTo.store {k n o : Nat} {before after vs : List Value} (ht : w.there k 0 n) (hr : w.rangeAt k 0 before) (hl : o + vs.length ≤ n) (ha : ∀ j, after[j]? = if o ≤ j ∧ j < o + vs.length then vs[j - o]? else before[j]?) : PutTo k n after w (w.setCells k o vs) := by
  obtain ⟨h1, h2, h3⟩ := setCells_os k vs o w
  refine ⟨h1, h2, h3, by rw [setCells_size]; exact Nat.le_refl _, fun j _ hj => setCells_other k vs o w j hj, fun j v hv => ?_, there_setCells _ _ _ ht⟩
  have hto : w.there k o vs.length := fun j hj => by have := ht (o + j) (by omega); rwa [Nat.zero_add] at this
  rw [ha j] at hv
  rw [Nat.zero_add]
  by_cases hj : o ≤ j ∧ j < o + vs.length
  · rw [if_pos hj] at hv
    have := World.rangeAt_setCells_same w k o vs hto (j - o) v hv
    rwa [show o + (j - o) = j by omega] at this
  · rw [if_neg hj] at hv
    have h5 : w.rangeAt k j [v] := fun i u hu => by
      cases i with
      | zero =>
        obtain rfl : v = u := by simpa using hu
        have := hr j v hv
        rwa [Nat.zero_add] at this
      | succ i => simp at hu
    have h6 := World.rangeAt_setCells_apart h5 k o vs (Or.inr (by simp only [List.length_cons, List.length_nil]; omega))
    have := h6 0 v rfl
    exact this
theorem PutTo.whole {k : Nat} {before after : List Value} (ht : w.there k 0 before.length) (hr : w.rangeAt k 0 before) (hl : after.length = before.length) : PutTo k before.length after w (w.setCells k 0 after) :=
  PutTo.store ht hr (by omega) (fun j => by
    by_cases hj : 0 ≤ j ∧ j < 0 + after.length
    · rw [if_pos hj]; rfl
    · rw [if_neg hj, List.getElem?_eq_none (by omega), List.getElem?_eq_none (by omega)])
theorem Wd.put {i b : Nat} {e : Bl} (h : Wd w0 k0 X bl L μ w) (hi : i < L.size) (hb : bl[b]? = some e) (hs : e.st = some i) (hv : e.live L = true) (hp : PutTo (μ b) e.before.length e.after w w')
    (hne : ∀ (c : Nat) (f : Bl), bl[c]? = some f → c ≠ b → f.st ≠ some i) (hal : ∀ (c : Nat) (f : Bl), bl[c]? = some f → f.al ≠ some i) :
    Wd w0 k0 X bl (L.setIfInBounds i true) μ w' := by
  have hliv : ∀ (c : Nat) (f : Bl), bl[c]? = some f → f.live (L.setIfInBounds i true) = f.live L := fun c f hc => by
    rw [live_set hi, show (f.al == some i) = false by simpa using hal c f hc, Bool.or_false]
  obtain ⟨g1, g2, g3, g4⟩ := h.has b e hb hv
  have hle := h.le
  refine ⟨h.bel.trans ⟨hp.os, hp.tape, hp.output, hp.size, fun j hj hx => hp.block j (by omega) (fun e => g4.elim (fun h => by omega) (fun h => hx (e ▸ h)))⟩, Nat.le_trans h.le hp.size, fun c f hc hvc => ?_, fun c d f g hc hd hf hg => h.inj c d f g hc hd (hliv c f hc ▸ hf) (hliv d g hd ▸ hg)⟩
  rw [hliv c f hc] at hvc
  obtain ⟨h1, h2, h3, h4⟩ := h.has c f hc hvc
  by_cases hcb : c = b
  · subst hcb
    rw [hb] at hc
    obtain rfl : e = f := Option.some.inj hc
    have hn : e.now (L.setIfInBounds i true) = e.after := by
      unfold Bl.now
      rw [put_set hi, hs]
      simp
    rw [hn]
    exact ⟨hp.range, hp.there, Nat.lt_of_lt_of_le h3 hp.size, h4⟩
  · have hn : f.now (L.setIfInBounds i true) = f.now L := by
      unfold Bl.now
      rw [put_set hi, show (f.st == some i) = false by simpa using hne c f hc hcb, Bool.or_false]
    rw [hn]
    have hsame := hp.block (μ c) h3 (h.inj c b f e hc hb hvc hv hcb)
    refine ⟨fun j v hj => ?_, fun j hj => ?_, Nat.lt_of_lt_of_le h3 hp.size, h4⟩
    · rw [World.cell?_of_block (w := w) (a := ⟨μ c, 0 + j, none⟩) hsame]; exact h1 j v hj
    · rw [World.cell?_of_block (w := w) (a := ⟨μ c, 0 + j, none⟩) hsame, World.frozen?_of_block (w := w) (a := ⟨μ c, 0 + j, none⟩) hsame]; exact h2 j hj
end Go.Proofs.YtmepmoalhgehhaaGreatDoor.RG
namespace Go.Proofs.YtmepmoalhgehhaaGreatDoor
open Go.RowKit Go.Sort Go.Deep
theorem part_tag {w : World} {r : Nat} {l : List UInt8} {ps : List (List UInt8)} (h : Holds encB w r 0 (SP.tagL l ps)) : SP.PartOk w (.slice (some ⟨r, 0, none⟩) 32 32) (SP.tagL l ps).toList :=
  ⟨_, r, 0, 32, SP.tagL l ps, by rw [SP.tagL_size], rfl, by rw [SP.tagL_size]; exact Nat.le_refl _, by rw [SP.tagL_size]; decide, Or.inr ⟨rfl, h⟩⟩
theorem results_ttt2 {P : Program} {w : World} {fn : Func} {a : Act} (t u x : Tmp) (hr : fn.results = #[.tmp t, .tmp u, .tmp x]) (v v' v'' : Value) (ht : a.tmps[t]? = some v) (hu : a.tmps[u]? = some v') (hx : a.tmps[x]? = some v'') : (results fn a.tmps).run P w = .ok (.tuple #[v, v', v'']) w := by
  have h2 : a.tmps.getD t undef = v := by rw [Array.getD_eq_getD_getElem?, ht]; rfl
  have h3 : a.tmps.getD u undef = v' := by rw [Array.getD_eq_getD_getElem?, hu]; rfl
  have h4 : a.tmps.getD x undef = v'' := by rw [Array.getD_eq_getD_getElem?, hx]; rfl
  unfold results
  rw [hr]
  simp only [Array.mapM_eq_mapM_toList, List.mapM_cons, List.mapM_nil, h2, h3, h4]
  simp [Sem.run_bind]
/-- Bytes that are answered: in a slice. -/
def PartS (w : World) (v : Value) (b : List UInt8) : Prop := (∃ q n c, v = .slice q n c) ∧ SP.PartOk w v b
/-- Lists of bytes in a row of cells. -/
def Lists (w : World) (q : Option Addr) (n : Nat) (S : Nat → Bs) : Prop := 0 < n → ∃ gg oo, q = some ⟨gg, oo, none⟩ ∧ gg < w.heap.size ∧ ∀ j, j < n → ∃ v, w.cell? ⟨gg, oo + j, none⟩ = some v ∧ PartS w v (S j).toList
theorem Lists.below {w w1 : World} {q : Option Addr} {n : Nat} {S : Nat → Bs} (h : Lists w q n S) (hb : Below w.heap.size w w1) : Lists w1 q n S := fun hn => by
  obtain ⟨gg, oo, h1, h2, h3⟩ := h hn
  refine ⟨gg, oo, h1, Nat.lt_of_lt_of_le h2 hb.size, fun j hj => ?_⟩
  obtain ⟨v, h4, h5⟩ := h3 j hj
  exact ⟨v, by rw [hb.cell (p := ⟨gg, oo + j, none⟩) h2]; exact h4, h5.1, h5.2.below hb⟩
theorem Lists.less {w : World} {q : Option Addr} {n m : Nat} {S : Nat → Bs} (h : Lists w q n S) (hm : m ≤ n) : Lists w q m S := fun hn => by
  obtain ⟨gg, oo, h1, h2, h3⟩ := h (by omega)
  exact ⟨gg, oo, h1, h2, fun j hj => h3 j (by omega)⟩
/-- The first m entries, the last first. -/
def revL (S : Nat → Bs) : Nat → List Bs
  | 0 => []
  | m + 1 => S m :: revL S m
theorem Hid.mk2 {p : Prop} (h : p) : Hid p := h
theorem part_nil2 (w : World) : SP.PartOk w (.slice none 0 0) (#[] : Bs).toList := ⟨none, 0, 0, 0, #[], rfl, rfl, Nat.le_refl _, by decide, Or.inl rfl⟩
theorem wr64 {n : Int} (h0 : 0 ≤ n) (h1 : n < 9223372036854775808) : wrap64 n = n := by unfold wrap64; omega
end Go.Proofs.YtmepmoalhgehhaaGreatDoor
namespace Go.Proofs.YtmepmoalhgehhaaGreatDoor
open Go.RowKit Go.Sort Go.Deep
/-- A number as four bytes. -/
def num4 (n : Nat) : Bs := #[SP.lenB n 16777216, SP.lenB n 65536, SP.lenB n 256, SP.lenB n 1]
def childH (k : Bs) (n : Nat) : Bs := SP.tagL [99, 104, 105, 108, 100] [k.toList, (num4 n).toList]
def keyH (k : Bs) (l : List UInt8) : Bs := SP.tagL [107, 101, 121] [k.toList, l]
/-- What is derived from a seed, number by number. -/
def downH (S : Nat → Nat) (k : Bs) : Nat → Bs
  | 0 => k
  | j + 1 => childH (downH S k j) (S j)
theorem downH_size (S : Nat → Nat) (k : Bs) (h : k.size = 32) : ∀ j, (downH S k j).size = 32
  | 0 => h
  | j + 1 => by rw [downH]; exact SP.tagL_size _ _
def derH (S : Nat → Nat) (k : Bs) (n : Nat) (l : List UInt8) : Bs := keyH (downH S k n) l
set_option maxHeartbeats 1000000 in
theorem numeral_c (n : Nat) (hn : n < 4294967296) (w : World) : Calls Tryz.prog 52 #[.int .u32 (n : Int)] w (Ret fun e w' => Below w.heap.size w w' ∧ ∃ r, e = .slice (some ⟨r, 0, none⟩) 4 4 ∧ Holds encB w' r 0 (num4 n)) := by
  have b00 : (n : Int) / 16777216 % 256 = SP.ub (SP.lenB n 16777216) := SP.lenB_int n 16777216
  have b0 : (n : Int) / 16777216 = SP.ub (SP.lenB n 16777216) := by omega
  clear b00
  have b1 : (n : Int) / 65536 % 256 = SP.ub (SP.lenB n 65536) := SP.lenB_int n 65536
  have b2 : (n : Int) / 256 % 256 = SP.ub (SP.lenB n 256) := SP.lenB_int n 256
  have b3 : (n : Int) % 256 = SP.ub (SP.lenB n 1) := SP.lenB_one n
  have h4 := SP.holds_four w (SP.lenB n 16777216) (SP.lenB n 65536) (SP.lenB n 256) (SP.lenB n 1)
  have HN : Hid (num4 n = #[SP.lenB n 16777216, SP.lenB n 65536, SP.lenB n 256, SP.lenB n 1]) := rfl
  generalize SP.lenB n 16777216 = x0 at *
  generalize SP.lenB n 65536 = x1 at *
  generalize SP.lenB n 256 = x2 at *
  generalize SP.lenB n 1 = x3 at *
  have hb0 : Below w.heap.size w (w.alloc (.cells #[.int .u8 (SP.ub x0), .int .u8 (SP.ub x1), .int .u8 (SP.ub x2), .int .u8 (SP.ub x3)] 5)) := (Below.refl _ _).alloc (Nat.le_refl _) _
  go_enter Tryz.func52, Tryz.ntmps52
  go_wp2
  go_ret
  refine ⟨_, rfl, hb0, _, rfl, ?_⟩
  rw [HN.out]
  exact h4
/-- Numbers in a row of cells. -/
def NumsK (w : World) (q : Option Addr) (n : Nat) (S : Nat → Nat) : Prop := (∀ j, j < n → S j < 4294967296) ∧ (0 < n → ∃ gg oo, q = some ⟨gg, oo, none⟩ ∧ gg < w.heap.size ∧ ∀ j, j < n → w.cell? ⟨gg, oo + j, none⟩ = some (.int .u32 (S j : Int)))
theorem NumsK.below {w w1 : World} {q : Option Addr} {n : Nat} {S : Nat → Nat} (h : NumsK w q n S) (hb : Below w.heap.size w w1) : NumsK w1 q n S := ⟨h.1, fun hn => by
  obtain ⟨gg, oo, h1, h2, h3⟩ := h.2 hn
  exact ⟨gg, oo, h1, Nat.lt_of_lt_of_le h2 hb.size, fun j hj => by rw [hb.cell (p := ⟨gg, oo + j, none⟩) h2]; exact h3 j hj⟩⟩
theorem part_4 {w : World} {r n : Nat} (h : Holds encB w r 0 (num4 n)) : SP.PartOk w (.slice (some ⟨r, 0, none⟩) 4 4) (num4 n).toList :=
  ⟨_, r, 0, 4, num4 n, rfl, rfl, Nat.le_refl _, Nat.le_of_ble_eq_true rfl, Or.inr ⟨rfl, h⟩⟩
/-- Tag of two parts that lie in a new row. -/
theorem tag2 (lab : ByteArray) (hlab : lab.size ≤ 1048576) (q q' : Option Addr) (n c n' c' : Nat) (x y : List UInt8) (w : World) (hv : SP.PartOk w (.slice q n c) x) (hv' : SP.PartOk w (.slice q' n' c') y) :
    Calls Tryz.prog 21 #[.string lab, .slice (some ⟨w.heap.size, 0, none⟩) 2 2] (w.alloc (.cells #[.slice q n c, .slice q' n' c'] 24)) fun e w' => ∃ r, e = .returned (.slice (some ⟨r, 0, none⟩) 32 32) ∧ w.heap.size ≤ r ∧ Below w.heap.size w w' ∧ Holds encB w' r 0 (SP.tagL lab.data.toList [x, y]) := by
  have hM := RG.Made.alloc w [.slice q n c, .slice q' n' c'] 24
  refine (SP.Tag_any lab (some ⟨w.heap.size, 0, none⟩) 2 [x, y] _ hlab (Nat.le_of_ble_eq_true rfl) (Or.inr ⟨_, _, rfl, fun j hj => ?_⟩)).mono ?_
  · have hj2 : j = 0 ∨ j = 1 := by simp at hj; omega
    rcases hj2 with rfl | rfl
    · exact ⟨_, hM.range 0 _ rfl, hv.below hM.bel⟩
    · exact ⟨_, hM.range 1 _ rfl, hv'.below hM.bel⟩
  · rintro e w2 ⟨r, rfl, hr, hb, hH⟩
    have hs := hM.bel.size
    exact ⟨r, rfl, Nat.le_trans hs hr, hM.bel.trans (hb.mono hs), hH⟩
set_option maxHeartbeats 2000000 in
theorem derived_c (sq : Option Addr) (sn sc : Nat) (k : Bs) (lab : ByteArray) (hlab : lab.size ≤ 65536) (q : Option Addr) (n c : Nat) (S : Nat → Nat) (w : World) (hn : n ≤ 1048576) (hk : SP.PartOk w (.slice sq sn sc) k.toList) (hN : NumsK w q n S) :
    Calls Tryz.prog 27 #[.slice sq sn sc, .string lab, .slice q n c] w (Ret fun e w' => Below w.heap.size w w' ∧ ∃ r, e = .slice (some ⟨r, 0, none⟩) 32 32 ∧ w.heap.size ≤ r ∧ Holds encB w' r 0 (derH S k n lab.data.toList)) := by
  have HN : Hid (NumsK w q n S) := hN
  have HK : Hid (PartS w (.slice sq sn sc) (downH S k 0).toList) := ⟨⟨_, _, _, rfl⟩, hk⟩
  clear hN hk
  go_enter Tryz.func27, Tryz.ntmps27
  go_wp2
  go_loopg [7, 13] n (fun g s7 s13 W => ∃ (i : Nat) (v : Value), i + g = n ∧ v = s7 ∧ s13 = .int .i64 (i : Int) ∧ Hid (Below w.heap.size w W ∧ PartS W v (downH S k i).toList))
  case atStart => exact ⟨0, _, by omega, rfl, rfl, Below.refl _ _, HK.out⟩
  case round =>
    obtain ⟨i, v, him, rfl, rfl, HB⟩ := hrel
    obtain ⟨vq, vn, vc, rfl⟩ := HB.out.2.1
    by_cases hi : i < n
    · have hi' : (i : Int) < (n : Int) := by omega
      obtain ⟨gg, oo, rfl, hgg, hc⟩ := HN.out.2 (by omega)
      have hv : wr.cell? ⟨gg, oo + i, none⟩ = some (.int .u32 (S i : Int)) := by rw [HB.out.1.cell (p := ⟨gg, oo + i, none⟩) hgg]; exact hc i hi
      have hix : ∀ w : World, (Instr.indexAt 68 (.slice (some ⟨gg, oo, none⟩) n c) (.int .i64 (i : Int))).run Tryz.prog w = .ok (.pointer (some ⟨gg, oo + i, none⟩)) w := fun w => by
        have h1 : ¬ (i : Int) < 0 := by omega
        have h2 : (i : Int) < (n : Int) := by omega
        go_simp
      have hnu := numeral_c (S i) (HN.out.1 i hi) wr
      have HD : Hid (childH (downH S k i) (S i) = downH S k (i + 1)) := rfl
      clear hc hgg
      generalize S i = x at hv hnu HD
      go_wp2_with fail
      refine hnu.mono ?_
      rintro e w2 ⟨v2, rfl, hb2, r2, rfl, hH2⟩
      have hT := tag2 ⟨#[99, 104, 105, 108, 100]⟩ (by decide) vq (some ⟨r2, 0, none⟩) vn vc 4 4 _ _ w2 (HB.out.2.2.below hb2) (part_4 hH2)
      have K2 : Hid (Below w.heap.size w w2) := HB.out.1.trans (hb2.mono HB.out.1.size)
      clear hb2 hH2 hnu
      go_wp2_with fail
      refine hT.mono ?_
      rintro e w3 ⟨r3, rfl, hr3, hb3, hH3⟩
      have K3 : Hid (Below w.heap.size w w3 ∧ PartS w3 (.slice (some ⟨r3, 0, none⟩) 32 32) (downH S k (i + 1)).toList) := by
        refine ⟨K2.out.trans (hb3.mono K2.out.size), ⟨_, _, _, rfl⟩, ?_⟩
        rw [← HD.out]
        exact part_tag hH3
      clear hr3 hb3 hH3 hT K2 HB
      go_wp2
      go_roundg (gk - 1)
      case measure => omega
      case rel => exact ⟨i + 1, _, by omega, rfl, rfl, K3.out⟩
    · have hi' : ¬ (i : Int) < (n : Int) := by omega
      obtain rfl : i = n := by omega
      obtain ⟨cap1, w1, hc1, hcc1, hb1, hH1, hlt1⟩ := conv_of lab wr
      have hp : SP.PartOk w1 (.slice (some ⟨wr.heap.size, 0, none⟩) lab.size cap1) lab.data.toList := ⟨_, wr.heap.size, 0, cap1, lab.data, rfl, rfl, hcc1, Nat.le_trans hlab (by decide), Or.inr ⟨rfl, hH1⟩⟩
      have hT := tag2 ⟨#[107, 101, 121]⟩ (by decide) vq _ vn vc _ _ _ _ w1 (HB.out.2.2.below hb1) hp
      have K1 : Hid (Below w.heap.size w w1) := HB.out.1.trans (hb1.mono HB.out.1.size)
      clear hb1 hH1 hlt1 hcc1 hp HB
      go_wp2_with fail
      refine hT.mono ?_
      rintro e w3 ⟨r3, rfl, hr3, hb3, hH3⟩
      have K3 : Hid (Below w.heap.size w w3 ∧ w.heap.size ≤ r3 ∧ Holds encB w3 r3 0 (derH S k i lab.data.toList)) := ⟨K1.out.trans (hb3.mono K1.out.size), Nat.le_trans K1.out.size hr3, hH3⟩
      clear hr3 hb3 hH3 hT K1
      go_wp2
      go_ret
      exact ⟨_, rfl, K3.out.1, _, rfl, K3.out.2.1, K3.out.2.2⟩
theorem derH_size (S : Nat → Nat) (k : Bs) (n : Nat) (l : List UInt8) : (derH S k n l).size = 32 := by unfold derH keyH; exact SP.tagL_size _ _
theorem isSeed_c (q : Option Addr) (n c : Nat) (w : World) : Calls Tryz.prog 11 #[.slice q n c] w fun e w' => e = .returned (.bool (decide (n = 32))) ∧ w' = w := by
  by_cases h : n = 32
  · subst h
    go_enter Tryz.func11, Tryz.ntmps11
    go_wp2
    go_ret
    exact ⟨rfl, rfl⟩
  · have g1 : ¬ (n : Int) = 32 := by omega
    have g0 : ((n : Int) == 32) = false := by simpa using g1
    rw [decide_eq_false h]
    go_enter Tryz.func11, Tryz.ntmps11
    go_wp2
    go_ret
    exact ⟨rfl, rfl⟩
/-- What Derive answers: bytes and errno. -/
def kdB (S : Nat → Nat) (k : Bs) (n : Nat) (l : List UInt8) : Bs := if k.size = 32 then (if n ≤ 16 then derH S k n l else #[]) else #[]
def kdE (k : Bs) (n : Nat) : Nat := if k.size = 32 then (if n ≤ 16 then 0 else 1) else 2
end Go.Proofs.YtmepmoalhgehhaaGreatDoor
