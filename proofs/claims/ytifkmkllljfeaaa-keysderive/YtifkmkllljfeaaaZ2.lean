import Derived.WalkKit
import Derived.Test.YtifkmkllljfeaaaRows
import Derived.Lib.Mul64
import Derived.Laws.Bits64b
import Derived.Laws.Externs
import Derived.Sort.Row
import Derived.Below
import Derived.Deep.LoopGhost
import Derived.Deep.QuietTactic
import Derived.StillTailTactics
import Derived.BigRegion
import Derived.BigQuiet
import Derived.WalkSpells
import Derived.WalkLawsBesides
import Derived.Deep.Draws
import Derived.Deep.OwnRows
import Derived.Lib.LazyBuf
import Derived.Lib.ConvBytes
import Derived.Laws.MathBits
import Derived.Deep.MidRow
import Derived.OrdersHeld
import Derived.Test.YtifkmkllljfeaaaZ1
set_option linter.unusedVariables false
set_option linter.unusedSimpArgs false
namespace Go.Proofs.Ytifkmkllljfeaaa.SP
open Go.RowKit Go.Sort Go.Deep
attribute [local go_sem] bits_xor8
theorem holds_one (w : World) (x : UInt8) : Holds encB (w.alloc (.cells #[.int .u8 (ub x)] 5)) w.heap.size 0 #[x] := by
  have h := Holds.new (enc := encB) w 5 #[x]
  have e : Array.map encB #[x] = #[.int .u8 (ub x)] := by simp [encB]
  rw [e] at h
  exact h
/-- The bytes with the ending and k noughts behind them. -/
def padT (l : List UInt8) (e : UInt8) (k : Nat) : List UInt8 := l ++ e :: List.replicate k 0
theorem padT_length (l : List UInt8) (e : UInt8) (k : Nat) : (padT l e k).length = l.length + 1 + k := by
  unfold padT
  rw [List.length_append, List.length_cons, List.length_replicate]
  omega
theorem padT_next (l : List UInt8) (e : UInt8) (k : Nat) : padT l e k ++ [0] = padT l e (k + 1) := by
  unfold padT
  rw [List.append_assoc, List.cons_append, List.replicate_succ']
theorem padT_total (l : List UInt8) (e : UInt8) : (padT l e (135 - l.length % 136)).set (l.length + (135 - l.length % 136)) ((padT l e (135 - l.length % 136))[l.length + (135 - l.length % 136)]! ^^^ 128) = total l e := by
  unfold padT total tailpad
  rw [List.set_append_right _ _ (by omega), Nat.add_sub_cancel_left, list_app_back _ _ _ (by omega) (by rw [List.length_cons, List.length_replicate]; omega), Nat.add_sub_cancel_left]
theorem list_set_at (l : List UInt8) (i j : Nat) (x : UInt8) (hj : j < l.length) : (l.set i x)[j]! = if i = j then x else l[j]! := by
  rw [getElem!_pos (l.set i x) j (by rw [List.length_set]; exact hj), List.getElem_set, getElem!_pos l j hj]
theorem total_at (l : List UInt8) (e : UInt8) (cur : Bs) (L k : Nat) (hk : k = 135 - l.length % 136) (hL : L = l.length + 1 + k) (hc : L ≤ cur.size) (hT : ∀ j, j < L → cur[j]! = (padT l e k)[j]!) :
    ∀ j, j < L → (cur.setIfInBounds (L - 1) (cur[L - 1]! ^^^ 128))[j]! = (total l e)[j]! := by
  intro j hj
  have hpl := padT_length l e k
  rw [← padT_total, ← hk, list_set_at _ _ _ _ (by omega), show l.length + k = L - 1 by omega]
  by_cases h : j = L - 1
  · rw [if_pos h.symm, h, getElem!_set_same _ _ _ (by omega), hT _ (by omega)]
  · rw [if_neg (by omega), getElem!_set_other _ _ _ _ h, hT _ hj]
theorem stream_bytes (o : ByteArray) (d : St) (n m : Nat) (ho : o.size = 136 * m) (hnm : n ≤ 136 * m) (h : ∀ j, j < 136 * m → o.data[j]! = streamAt d j) : o.extract 0 n = ⟨streamL d n⟩ := by
  apply ByteArray.ext
  have hd : (o.extract 0 n).data = o.data.extract 0 n := ByteArray.data_extract
  have hs : o.data.size = 136 * m := ho
  rw [hd]
  refine bs_ext _ _ n (by rw [Array.size_extract, hs]; omega) (streamL_size _ _) (fun j hj => ?_)
  have h1 : j < (o.data.extract 0 n).size := by rw [Array.size_extract, hs]; omega
  have h2 : j < o.data.size := by omega
  have h3 := h j (by omega)
  rw [getElem!_pos o.data j h2] at h3
  rw [streamL_at _ _ _ hj, ← h3, getElem!_pos (o.data.extract 0 n) j h1, Array.getElem_extract]
  simp only [Nat.zero_add]
theorem out_next (o : ByteArray) (d : St) (m : Nat) (p : Bs) (hp : p.size = 136) (hpa : ∀ j, j < 136 → p[j]! = byteOf (permN d m) j) (ho : o.size = 136 * m) (h : ∀ j, j < 136 * m → o.data[j]! = streamAt d j) :
    (o ++ ⟨p⟩).size = 136 * (m + 1) ∧ ∀ j, j < 136 * (m + 1) → (o ++ (⟨p⟩ : ByteArray)).data[j]! = streamAt d j := by
  have hd : (o ++ (⟨p⟩ : ByteArray)).data = o.data ++ p := ByteArray.data_append
  have hs : o.data.size = 136 * m := ho
  refine ⟨?_, fun j hj => ?_⟩
  · show (o ++ (⟨p⟩ : ByteArray)).data.size = _
    rw [hd, Array.size_append, hp, hs]
    omega
  · rw [hd]
    by_cases h1 : j < 136 * m
    · have h2 : j < o.data.size := by omega
      have h3 := h j h1
      rw [getElem!_pos o.data j h2] at h3
      rw [app_front _ _ j h2, h3]
    · rw [app_back _ _ j (by omega) (by omega), hs, hpa _ (by omega)]
      unfold streamAt
      rw [show j / 136 = m by omega, show j % 136 = j - 136 * m by omega]
theorem conv200 (w : World) (p : Bs) (h : p.size = 200) :
    ∃ sc w', (convert 9 23 (.string ⟨p⟩)).run Try.prog w = .ok (.slice (some ⟨w.heap.size, 0, none⟩) 200 sc) w' ∧ 200 ≤ sc ∧ Holds encB w' w.heap.size 0 p ∧ Below w.heap.size w w' := by
  obtain ⟨v, w', hcv, own, hb, hv⟩ := conv_bytes (w := w) (B := 0) ⟨p⟩ (Nat.zero_le _)
  have hps : (ByteArray.mk p).size = 200 := h
  have hpl : (ByteArray.mk p).data.toList.length = 200 := by rw [Array.length_toList]; exact h
  rw [hv] at hcv own
  rw [hps] at hcv own
  obtain ⟨_, _, hle, hH⟩ := own.holds
  exact ⟨_, _, hcv, by omega, by simpa using hH, hb⟩
theorem front_front (d : St) : Array.size (front d 136) ≤ Array.size (front d 200) ∧ ∀ j, j < (front d 136).size → (front d 136)[j]! = (front d 200)[j]! := by
  refine ⟨by rw [front_size, front_size]; omega, fun j hj => ?_⟩
  rw [front_size] at hj
  rw [front_at _ _ _ hj, front_at _ _ _ (by omega)]
set_option maxHeartbeats 2000000 in
set_option maxRecDepth 100000 in
theorem refSponge_any (s : ByteArray) (e : UInt8) (n : Nat) (w : World) (hs : s.size ≤ 1048576) (hn : n ≤ 16384) :
    Calls Try.prog 32 #[.string s, .int .u8 (ub e), .int .i64 (n : Int)] w fun r w' => r = .returned (.string ⟨streamL (absorb s.data.toList e) n⟩) ∧ Below w.heap.size w w' := by
  obtain ⟨v0, w0, hcv, own0, hb0, hv0⟩ := conv_bytes (w := w) (B := w.heap.size) s (Nat.le_refl _)
  rw [hv0] at hcv own0
  have hsz0 : w.heap.size ≤ w0.heap.size := hb0.size
  have hX := holds_one w0 e
  have hbx : Below w0.heap.size w0 (w0.alloc (.cells #[.int .u8 (ub e)] 5)) := (Below.refl _ _).alloc (Nat.le_refl _) _
  have hl : s.data.toList.length = s.size := Array.length_toList
  obtain ⟨v1, w1, hap, own1, hb1⟩ := append_own (c := 1) (own0.below hbx) hX (by rw [World.size_alloc]; omega) (by rw [hl]; simp; omega) 1 rfl
  have hbb1 : Below w.heap.size w w1 := (hb0.trans (hbx.mono hsz0)).trans hb1
  have own1' : Own w.heap.size w1 v1 (padT s.data.toList e 0) := own1
  clear hv0 own0 hX own1 hb1 hbx
  have hmk200 : ∀ w : World, (Instr.makeSlice 23 (.int .i64 200) (.int .i64 200)).run Try.prog w = .ok (.slice (some ⟨w.heap.size, 0, none⟩) 200 200) (w.alloc (.cells (madeCells #[.int .u8 0] 200) 5)) :=
    run_make_row' (P := Try.prog) 23 5 (.int .u8 0) 1 slice22 info5 rfl .i64 .i64 200 (by omega) (by omega)
  have HM200 : Hid _ := hmk200
  clear hmk200
  go_enter Try.func32, Try.ntmps32
  go_wp2_with (at_builtin; refine Lib.wpList_append_run _ rfl _ _ 23 23 rfl _ _ rfl rfl _ _ hap ?_)
  clear hap hcv hb0
  obtain ⟨h, hh⟩ : ∃ h, s.data.toList.length % 136 = h := ⟨_, rfl⟩
  have h136 : h < 136 := by rw [← hh]; exact Nat.mod_lt _ (by decide)
  have Hh : Hid (s.data.toList.length % 136 = h) := hh
  clear hh
  go_loopg [7] (135 - h) (fun g s7 wr => ∃ k, k + g = 135 - h ∧ Own w.heap.size wr s7 (padT s.data.toList e k) ∧ Below w.heap.size w wr)
  case atStart => exact ⟨0, by omega, own1', hbb1⟩
  case round =>
    clear own1' hbb1
    obtain ⟨k, hk, own, hb⟩ := hrel
    have own' := own
    obtain ⟨g, cap, cur, rfl, hg, hgl, hcs, hlc, hH, hT⟩ := own'
    have hL := padT_length s.data.toList e k
    generalize hLL : (padT s.data.toList e k).length = L at *
    have hL' : L = s.size + 1 + k := by rw [hL, hl]
    have HL' : Hid (L = s.size + 1 + k) := hL'
    have hLb : L ≤ 1048900 := by omega
    have hL0 : 1 ≤ L := by omega
    have tm : (L : Int).tmod 136 = (L : Int) % 136 := Int.tmod_eq_emod_of_nonneg (by omega)
    by_cases hlt : k < 135 - h
    · have hb2 : ((L : Int) % 136 != 0) = true := by rw [bne_iff_ne]; have := Hh.out; rw [hl] at this; omega
      have hX := holds_one wr 0
      have hbx : Below wr.heap.size wr (wr.alloc (.cells #[.int .u8 (ub 0)] 5)) := (Below.refl _ _).alloc (Nat.le_refl _) _
      obtain ⟨v2, w2, hap, own2, hbb⟩ := append_own (c := 1) (own.below hbx) hX (by rw [World.size_alloc]; have := hb.size; omega) (by rw [hLL]; simp; omega) 1 rfl
      have own3 : Own w.heap.size w2 v2 (padT s.data.toList e (k + 1)) := by rw [← padT_next]; exact own2
      have hb3 : Below w.heap.size w w2 := (hb.trans (hbx.mono hb.size)).trans hbb
      clear hL hL' hLL own own2 hX hbb hbx hH hT
      go_wp2_with (at_builtin; refine Lib.wpList_append_run _ rfl _ _ 23 23 rfl _ _ rfl rfl _ _ hap ?_)
      go_roundg (gk - 1)
      case measure => omega
      case rel => exact ⟨k + 1, by omega, own3, hb3⟩
    · have hb2 : ((L : Int) % 136 != 0) = false := by
        rw [bne_eq_false_iff_eq]; have := Hh.out; rw [hl] at this; omega
      have hk0 : k = 135 - s.data.toList.length % 136 := by have := Hh.out; omega
      obtain ⟨x, hx⟩ : ∃ x, cur[L - 1]! = x := ⟨_, rfl⟩
      obtain ⟨c0, f0⟩ := at_byte hH (L - 1) (by omega) hx
      rw [Nat.zero_add] at c0 f0
      have hx80 := xor80 x
      have hTot := total_at s.data.toList e cur L k hk0 hL (by omega) hT
      rw [hx] at hTot
      have hH2 := Holds.set hH (i := L - 1) (by omega) (x ^^^ 128)
      rw [Nat.zero_add] at hH2
      have htl : (total s.data.toList e).length = L := by rw [total_length]; omega
      have hTA : Holds encB (wr.setCell ⟨g, L - 1, none⟩ (.int .u8 (ub (x ^^^ 128)))) g 0 (total s.data.toList e).toArray :=
        Holds.front hH2 (by rw [Array.size_setIfInBounds, List.size_toArray, htl]; omega) (fun j hj => by rw [list_arr_at]; exact (hTot j (by simpa [htl] using hj)).symm)
      have hb4 : Below w.heap.size w (wr.setCell ⟨g, L - 1, none⟩ (.int .u8 (ub (x ^^^ 128)))) := hb.setCell (p := ⟨g, L - 1, none⟩) hg _
      have hg4 : g < (wr.setCell ⟨g, L - 1, none⟩ (.int .u8 (ub (x ^^^ 128)))).heap.size := by rw [World.size_setCell]; exact hgl
      obtain ⟨M, hM⟩ : ∃ M, s.data.toList.length / 136 + 1 = M := ⟨_, rfl⟩
      have hLM : L = 136 * M := by have := Hh.out; omega
      have HLM : Hid (L = 136 * M) := hLM
      have HM : Hid (s.data.toList.length / 136 + 1 = M) := hM
      have z1 : (0 : Int) ≤ (L : Int) - 1 := by omega
      have z2 : (L : Int) - 1 < (L : Int) := by omega
      have z3 : ((L : Int) - 1).toNat = L - 1 := by omega
      have hmk := HM200.out
      clear hM hLM hTot hH2 hH hT hx hL hL' hLL own hk0
      go_wp2
      clear hmk c0 f0 hb2 tm hx80
      have hW2 : (wr.setCell ⟨g, L - 1, none⟩ (.int .u8 (ub (x ^^^ 128)))).heap.size = wr.heap.size := by rw [World.size_setCell]
      generalize wr.setCell ⟨g, L - 1, none⟩ (.int .u8 (ub (x ^^^ 128))) = W2 at hTA hb4 hg4 hW2 ⊢
      have hS0 : Holds encB (W2.alloc (.cells (madeCells #[.int .u8 0] 200) 5)) W2.heap.size 0 (refSt (total s.data.toList e) 0) := Holds.made (enc := encB) W2 5 200 0
      have hb5' : Below W2.heap.size W2 (W2.alloc (.cells (madeCells #[.int .u8 0] 200) 5)) := (Below.refl _ _).alloc (Nat.le_refl _) _
      have hs5 : W2.heap.size < (W2.alloc (.cells (madeCells #[.int .u8 0] 200) 5)).heap.size := by simp
      have hTA5 := Holds.below hTA hb5' hg4
      have hb5 := hb4.trans (hb5'.mono hb4.size)
      have hz4 := hb4.size
      rw [hW2] at hS0 hs5 hg4 hz4
      generalize hSG : wr.heap.size = SG at *
      generalize (W2.alloc _) = W3 at hS0 hb5 hs5 hTA5 ⊢
      clear hTA hb4 hb5' hSG hW2
      go_loopg [8, 9] M (fun g2 s8 s9 wr => ∃ (i sg sc : Nat), i + g2 = M ∧ s9 = .int .i64 ((136 * i : Nat) : Int) ∧ s8 = .slice (some ⟨sg, 0, none⟩) 200 sc ∧ 200 ≤ sc ∧ w.heap.size ≤ sg ∧ sg ≠ g ∧ Holds encB wr sg 0 (refSt (total s.data.toList e) i) ∧ Holds encB wr g 0 (total s.data.toList e).toArray ∧ Below w.heap.size w wr)
      case atStart => exact ⟨0, SG, 200, by omega, rfl, rfl, Nat.le_refl _, by omega, by omega, hS0, hTA5, hb5⟩
      case round =>
        clear hS0 hTA5 hb5 hs5
        obtain ⟨i, sg, sc, hi, rfl, rfl, hsc, hsg, hne, hS, hTA, hb⟩ := hrel
        have hrs : (refSt (total s.data.toList e) i).size = 200 := by
          cases i with
          | zero => rw [refSt, Array.size_replicate]
          | succ i => rw [refSt, permB, front_size]
        have hgz : g < wr.heap.size := Holds.lt hTA (by rw [List.size_toArray, htl]; omega)
        by_cases hlt : i < M
        · have hlt' : ((136 * i : Nat) : Int) < (L : Int) := by have := HLM.out; omega
          have hii : 136 * i + 136 ≤ L := by have := HLM.out; omega
          generalize hI : 136 * i = I at *
          have HI : Hid (136 * i = I) := hI
          clear hI
          go_wp2
          have hD0 : Holds encB wr sg 0 (xorB (refSt (total s.data.toList e) i) (total s.data.toList e) I 0) := hS
          generalize hR : refSt (total s.data.toList e) i = R at *
          have HR : Hid (R = refSt (total s.data.toList e) i) := hR.symm
          clear hR
          go_loopg [10] 136 (fun g3 s10 wq => ∃ (k : Nat) (st : Bs), k + g3 = 136 ∧ s10 = .int .i64 k ∧ Holds encB wq sg 0 st ∧ Only sg 0 200 wr wq ∧ Hid (st = xorB R (total s.data.toList e) I k))
          case atStart => exact ⟨0, _, rfl, rfl, hD0, Only.refl _ _ _ _, rfl⟩
          case round =>
            clear hD0
            obtain ⟨k, st, hk, rfl, hSt, hO, HE⟩ := hrel
            have hsts : st.size = 200 := by rw [HE.out, xorB_size]; exact hrs
            have hTq := Holds.other hTA hO (Ne.symm hne) (by rw [List.size_toArray, htl]; omega)
            by_cases hltk : k < 136
            · obtain ⟨y, hy⟩ : ∃ y, (total s.data.toList e)[I + k]! = y := ⟨_, rfl⟩
              obtain ⟨c0, f0⟩ := at_byte (x := y) hTq (I + k) (by rw [List.size_toArray, htl]; omega) (by rw [list_arr_at]; exact hy)
              obtain ⟨z, hz⟩ : ∃ z, st[k]! = z := ⟨_, rfl⟩
              obtain ⟨c1, f1⟩ := at_byte hSt k (by omega) hz
              rw [Nat.zero_add] at c0 c1 f1
              have HY : Hid ((total s.data.toList e)[I + k]! = y) := hy
              have HZ : Hid (st[k]! = z) := hz
              have k136 : (k : Int) < 136 := by omega
              have k200 : (k : Int) < 200 := by omega
              have ik0 : (0 : Int) ≤ (I : Int) + (k : Int) := by omega
              have ik1 : (I : Int) + (k : Int) < (L : Int) := by omega
              have ik2 : ((I : Int) + (k : Int)).toNat = I + k := by omega
              have ik3 : IntKind.i64.wrap ((I : Int) + (k : Int)) = (I : Int) + (k : Int) := IntWalk.i64_in _ (by omega)
              clear hy hz f0 hTq
              go_wp2_with fail
              go_still_tail 14, mixed
              go_wp2
              go_roundg (gk - 1)
              case measure => omega
              case rel =>
                refine ⟨k + 1, st.setIfInBounds k (z ^^^ y), by omega, by go_num, ?_, ?_, ?_⟩
                · have := Holds.set hSt (i := k) (by omega) (z ^^^ y)
                  rw [Nat.zero_add] at this
                  exact Holds.drew this
                · exact (hO.setCell (o := k) (by omega) (by omega) _).drew
                · show _ = (xorB R (total s.data.toList e) I k).setIfInBounds k ((xorB R (total s.data.toList e) I k)[k]! ^^^ (total s.data.toList e)[I + k]!)
                  rw [← HE.out, HZ.out, HY.out]
            · have hk136 : k = 136 := by omega
              subst hk136
              have hgz2 := Holds.lt hSt (by omega)
              have kc := conv_str Try.prog 23 9 5 slice22 int5 str9 _ sg 0 200 sc st hSt hsts
              have hbq := hb.trans (hO.below hb.size hsg)
              obtain ⟨PB, hPB⟩ : ∃ x, permB st = x := ⟨_, rfl⟩
              have hps : PB.size = 200 := by rw [← hPB, permB, front_size]
              have HE2 : Hid (PB = refSt (total s.data.toList e) (i + 1)) := by
                show PB = permB (xorB (refSt (total s.data.toList e) i) (total s.data.toList e) (136 * i) 136)
                rw [← HR.out, HI.out, ← HE.out, hPB]
              have HPB : Hid (PB = permB st) := hPB.symm
              clear hPB HE
              go_wp2_with fail
              refine (refPermute_any ⟨st⟩ _ hsts).mono ?_
              rintro r w5 ⟨rfl, hb5⟩
              have e5 : (ByteArray.mk (permB (ByteArray.mk st).data)) = ByteArray.mk PB := congrArg ByteArray.mk HPB.out.symm
              rw [e5]
              clear e5
              obtain ⟨sc6, w6, hcv6, hle6, hH6, hb6⟩ := conv200 w5 PB hps
              have hgq := Holds.lt hTq (by rw [List.size_toArray, htl]; omega)
              have hg5 : g < w5.heap.size := Nat.lt_of_lt_of_le hgq hb5.size
              have hT6 := Holds.below (Holds.below hTq hb5 hgq) hb6 hg5
              have hb8 : Below w.heap.size w w6 := (hbq.trans (hb5.mono hbq.size)).trans (hb6.mono (by have := hb5.size; have := hbq.size; omega))
              rw [HE2.out] at hH6
              have hz5 : w.heap.size ≤ w5.heap.size := by have := hb5.size; have := hbq.size; omega
              go_wp2
              go_roundg (M - (i + 1))
              case measure => omega
              case rel => exact ⟨i + 1, w5.heap.size, sc6, by omega, by rw [← HI.out]; go_num, rfl, hle6, hz5, by omega, hH6, hT6, hb8⟩
        · have hiM : i = M := by omega
          have hge : (L : Int) ≤ ((136 * i : Nat) : Int) := by have := HLM.out; omega
          obtain ⟨d, hd⟩ : ∃ d, absorb s.data.toList e = d := ⟨_, rfl⟩
          obtain ⟨F, hF⟩ : ∃ F, front (permN d 0) 200 = F := ⟨_, rfl⟩
          have hSf : Holds encB wr sg 0 F := by
            have := refSt_total s.data.toList e
            rw [HM.out, ← hiM, hd] at this
            rw [this] at hS
            rw [← hF, permN]
            exact hS
          have hab : d.size = 25 := by rw [← hd]; exact absorb_size s.data.toList e
          have HDD : Hid (d = absorb s.data.toList e) := hd.symm
          have HFF : Hid (F = front (permN d 0) 200) := hF.symm
          clear hS hrs hTA hgz hiM hlt hi hd hF
          generalize hI : 136 * i = I at *
          clear hI
          have hdec : decide ((I : Int) < (L : Int)) = false := decide_eq_false (by omega)
          have hdec2 : decide (I < L) = false := decide_eq_false (by omega)
          go_wp2
          go_loopg [8, 11] (n + 136) (fun g4 s8 s11 wq => ∃ (m sg sc : Nat) (o : ByteArray) (Fm : Bs), 136 * m + g4 = n + 136 ∧ 1 ≤ g4 ∧ s11 = .string o ∧ o.size = 136 * m ∧ s8 = .slice (some ⟨sg, 0, none⟩) 200 sc ∧ 200 ≤ sc ∧ Holds encB wq sg 0 Fm ∧ Fm.size = 200 ∧ Below w.heap.size w wq ∧ Hid (Fm = front (permN d m) 200) ∧ Hid (∀ j, j < 136 * m → o.data[j]! = streamAt d j))
          case atStart => exact ⟨0, sg, sc, ByteArray.empty, F, by omega, by omega, rfl, rfl, rfl, hsc, hSf, by rw [HFF.out, front_size], hb, HFF, fun j hj => by omega⟩
          case round =>
            clear hSf HFF hsc
            obtain ⟨m, sg, sc, o, Fm, hg4, hg41, rfl, ho, rfl, hsc, hF, hFs, hb, HF, HO⟩ := hrel
            have Ho : Hid (o.size = 136 * m) := ho
            have hob : o.size ≤ n + 136 := by omega
            by_cases hlt : o.size < n
            · have hlt' : (o.size : Int) < (n : Int) := by omega
              obtain ⟨Q, hQ⟩ : ∃ Q, front (permN d m) 136 = Q := ⟨_, rfl⟩
              have hQs : Q.size = 136 := by rw [← hQ, front_size]
              have hQa : ∀ j, j < 136 → Q[j]! = byteOf (permN d m) j := fun j hj => by rw [← hQ, front_at _ _ _ hj]
              have hHQ : Holds encB wr sg 0 Q := by
                have h1 := front_front (permN d m)
                rw [← HF.out, hQ] at h1
                exact Holds.front hF h1.1 h1.2
              have hnx := out_next o d m Q hQs hQa ho HO
              have HNX : Hid ((o ++ ⟨Q⟩).size = 136 * (m + 1) ∧ ∀ j, j < 136 * (m + 1) → (o ++ (⟨Q⟩ : ByteArray)).data[j]! = streamAt d j) := hnx
              obtain ⟨PB, hPB⟩ : ∃ x, permB Fm = x := ⟨_, rfl⟩
              have hps : PB.size = 200 := by rw [← hPB, permB, front_size]
              have HN : Hid (PB = front (permN d (m + 1)) 200) := by
                show PB = front (perm (permN d m)) 200
                rw [← hPB, HF.out, permB_front _ (permN_size d hab m)]
              have HPB : Hid (PB = permB Fm) := hPB.symm
              have kc1 := conv_str Try.prog 23 9 5 slice22 int5 str9 wr sg 0 136 sc Q hHQ hQs
              have kc2 := conv_str Try.prog 23 9 5 slice22 int5 str9 wr sg 0 200 sc Fm hF hFs
              have hsc0 : (sc = 0) = False := eq_false (by omega)
              have hsc1 : (136 : Int) ≤ (sc : Int) := by omega
              clear hQ hQa hHQ hnx hPB HO ho
              go_wp2_with fail
              refine (refPermute_any ⟨Fm⟩ _ hFs).mono ?_
              rintro r w5 ⟨rfl, hb5⟩
              have e5 : (ByteArray.mk (permB (ByteArray.mk Fm).data)) = ByteArray.mk PB := congrArg ByteArray.mk HPB.out.symm
              rw [e5]
              clear e5
              obtain ⟨sc6, w6, hcv6, hle6, hH6, hb6⟩ := conv200 w5 PB hps
              have hb8 : Below w.heap.size w w6 := (hb.trans (hb5.mono hb.size)).trans (hb6.mono (by have := hb5.size; have := hb.size; omega))
              go_wp2
              go_roundg (gk - 136)
              case measure => have := Ho.out; omega
              case rel => exact ⟨m + 1, w5.heap.size, sc6, o ++ (ByteArray.mk Q), PB, by have := Ho.out; omega, by have := Ho.out; omega, rfl, HNX.out.1, rfl, hle6, hH6, hps, hb8, HN, HNX.out.2⟩
            · have hge : (n : Int) ≤ (o.size : Int) := by omega
              have hex := stream_bytes o d n m ho (by omega) HO
              have HEX : Hid (o.extract 0 n = ⟨streamL d n⟩) := hex
              clear hex ho HO
              go_wp2
              go_ret
              rw [← HDD.out, ← HEX.out]
              exact ⟨rfl, hb⟩
end Go.Proofs.Ytifkmkllljfeaaa.SP
namespace Go.Proofs.Ytifkmkllljfeaaa.SP
open Go.RowKit Go.Sort Go.Deep
/-- What is at the front is held. -/
theorem Holds.prefix {α : Type} [Inhabited α] {f : α → Value} {w : World} {b o : Nat} {d e : Array α} (h : Holds f w b o d) (hs : e.size ≤ d.size) (he : ∀ j, j < e.size → e[j]! = d[j]!) : Holds f w b o e := by
  intro j hj
  rw [he j hj]
  exact h j (by omega)
theorem lentTo_front (s : ByteArray) (k j : Nat) (hj : j < s.data.size) : (lentTo s k)[j]! = s.data[j]! := by
  induction k with
  | zero => rw [lent_front s j hj, getElem!_pos s.data j hj]
  | succ k ih =>
    show ((lentTo s k).setIfInBounds (s.size + k) (fill (s.size + k)))[j]! = _
    have : s.data.size = s.size := rfl
    rw [getElem!_set_other _ _ _ _ (by omega), ih]
theorem holds_text {w : World} {b : Nat} (s : ByteArray) (h : Holds encB w b 0 (lent s)) : Holds encB w b 0 s.data := by
  have : s.data.size = s.size := rfl
  exact Holds.prefix h (by rw [lent_size]; omega) (fun j hj => (lentTo_front s 160 j hj).symm)
end Go.Proofs.Ytifkmkllljfeaaa.SP
namespace Go.Proofs.Ytifkmkllljfeaaa.SP
open Go.RowKit Go.Sort Go.Deep
set_option maxHeartbeats 1000000 in
theorem refHash_any (s : ByteArray) (w : World) (hs : s.size ≤ 1048576) :
    Calls Try.prog 27 #[.string s] w fun r w' => r = .returned (.string ⟨hashL s.data.toList⟩) ∧ Below w.heap.size w w' := by
  go_enter Try.func27, Try.ntmps27
  go_wp2_with fail
  refine (refSponge_any s 6 32 _ hs (by decide)).mono ?_
  rintro r w1 ⟨rfl, hb⟩
  rw [← hash_stream]
  go_wp2
  go_ret
  exact ⟨rfl, hb⟩
set_option maxHeartbeats 1000000 in
theorem refStream_any (s : ByteArray) (n : Nat) (w : World) (hs : s.size ≤ 1048576) (hn : n ≤ 16384) :
    Calls Try.prog 18 #[.string s, .int .i64 (n : Int)] w fun r w' => r = .returned (.string ⟨strmL s.data.toList n⟩) ∧ Below w.heap.size w w' := by
  go_enter Try.func18, Try.ntmps18
  go_wp2_with fail
  refine (refSponge_any s 31 n _ hs hn).mono ?_
  rintro r w1 ⟨rfl, hb⟩
  go_wp2
  go_ret
  exact ⟨rfl, hb⟩
theorem strmL_size (l : List UInt8) (n : Nat) : (strmL l n).size = n := by rw [strmL, streamL_size]
end Go.Proofs.Ytifkmkllljfeaaa.SP
namespace Go.Proofs.Ytifkmkllljfeaaa.SP
open Go.RowKit Go.Sort Go.Deep
set_option maxHeartbeats 2000000 in
set_option maxRecDepth 100000 in
theorem refTag_any (label : ByteArray) (pa : Option Addr) (pcap : Nat) (ps : List ByteArray) (w : World) (hlab : label.size ≤ 1048576) (hpl : ps.length ≤ 1048576)
    (hP : ps.length = 0 ∨ ∃ pb po, pa = some ⟨pb, po, none⟩ ∧ ∀ j, j < ps.length → w.cell? ⟨pb, po + j, none⟩ = some (.string ps[j]!)) (hsz : ∀ j, j < ps.length → (ps[j]!).size ≤ 1048576)
    (htot : (framesL label.data.toList (ps.map fun s => s.data.toList)).length ≤ 1048576) :
    Calls Try.prog 14 #[.string label, .slice pa ps.length pcap] w fun e w' => e = .returned (.string ⟨tagL label.data.toList (ps.map fun s => s.data.toList)⟩) ∧ Below w.heap.size w w' := by
  obtain ⟨n, hn⟩ : ∃ n, ps.length = n := ⟨_, rfl⟩
  rw [hn]
  have Hn : Hid (ps.length = n) := hn
  have hn20 : n ≤ 1048576 := by omega
  clear hn
  go_enter Try.func14, Try.ntmps14
  go_wp2_with fail
  refine (Frame_any label _ hlab).mono ?_
  rintro e w1 ⟨o1, rfl, ho1, hb1⟩
  go_wp2
  go_loopg [5, 6] n (fun g s5 s6 wr => ∃ (k : Nat) (o : ByteArray), k + g = n ∧ s6 = .int .i64 k ∧ s5 = .string o ∧ Below w.heap.size w wr ∧ Hid (o.data.toList = framesL label.data.toList ((ps.map fun s => s.data.toList).take k)))
  case atStart =>
    refine ⟨0, o1, by omega, rfl, rfl, hb1, ?_⟩
    rw [List.take_zero]
    unfold framesL
    rw [List.flatMap_nil, List.append_nil]
    exact ho1
  case round =>
    clear ho1 hb1
    obtain ⟨k, o, hk, rfl, rfl, hb, HE⟩ := hrel
    by_cases hlt : k < n
    · obtain ⟨pb, po, rfl, hPj⟩ : ∃ pb po, pa = some ⟨pb, po, none⟩ ∧ ∀ j, j < ps.length → w.cell? ⟨pb, po + j, none⟩ = some (.string ps[j]!) := by
        rcases hP with h | h
        · have := Hn.out; omega
        · exact h
      have hvc := hPj k (by have := Hn.out; omega)
      have hszk := hsz k (by have := Hn.out; omega)
      obtain ⟨s, hs⟩ : ∃ s, ps[k]! = s := ⟨_, rfl⟩
      rw [hs] at hvc hszk
      have HS : Hid (s = ps[k]!) := hs.symm
      have hvc' : wr.cell? ⟨pb, po + k, none⟩ = some (.string s) := by rw [hb.cell (p := ⟨pb, po + k, none⟩) (World.block_lt_of_cell? _ _ hvc)]; exact hvc
      have l1 : (k : Int) < (n : Int) := by omega
      clear hs hvc hPj
      go_wp2_with fail
      refine (Frame_any s _ hszk).mono ?_
      rintro e w2 ⟨o2, rfl, ho2, hb2⟩
      have HO2 : Hid (o2.data.toList = frameL s.data.toList) := ho2
      have hos : o.size ≤ 1048576 := by
        have h1 : o.data.toList.length = o.size := Array.length_toList
        rw [HE.out] at h1
        have := framesL_take label.data.toList (ps.map fun s => s.data.toList) k
        omega
      have ho2s : o2.size ≤ 1048580 := by
        have h1 : o2.data.toList.length = o2.size := Array.length_toList
        have h2 : s.data.toList.length = s.size := Array.length_toList
        rw [ho2, frameL_length] at h1
        omega
      clear ho2
      go_wp2
      go_roundg (gk - 1)
      case measure => omega
      case rel =>
        refine ⟨k + 1, o ++ o2, by omega, by go_num, rfl, hb.trans (hb2.mono hb.size), ?_⟩
        have hkl : k < (ps.map fun s => s.data.toList).length := by rw [List.length_map]; have := Hn.out; omega
        have hkl2 : k < ps.length := by have := Hn.out; omega
        rw [take_snoc_getD _ k hkl, framesL_snoc, ByteArray.data_append, Array.toList_append, HE.out, HO2.out, getElem!_pos (ps.map fun s => s.data.toList) k hkl, List.getElem_map, HS.out, getElem!_pos ps k hkl2]
        rfl
    · have l1 : (n : Int) ≤ (k : Int) := by omega
      have HE2 : Hid (o.data.toList = framesL label.data.toList (ps.map fun s => s.data.toList)) := by
        have e1 : (ps.map fun s => s.data.toList).take k = ps.map fun s => s.data.toList := List.take_of_length_le (by rw [List.length_map]; have := Hn.out; omega)
        rw [e1] at HE
        exact HE
      have hos : o.size ≤ 1048576 := by
        have h1 : o.data.toList.length = o.size := Array.length_toList
        rw [HE2.out] at h1
        omega
      clear HE
      go_wp2_with fail
      refine (refHash_any o _ hos).mono ?_
      rintro e w3 ⟨rfl, hb3⟩
      rw [HE2.out]
      go_wp2
      go_ret
      exact ⟨rfl, hb.trans (hb3.mono hb.size)⟩
end Go.Proofs.Ytifkmkllljfeaaa.SP
namespace Go.Proofs.Ytifkmkllljfeaaa
open Go.RowKit
/-- Four words, the lowest first. -/
def val (a b c d : Nat) : Nat := a + 18446744073709551616 * b + 340282366920938463463374607431768211456 * c + 6277101735386680763835789423207666416102355444464034512896 * d
def ag (a b c d : Nat) : Value := .agg #[.int .u64 (a : Int), .int .u64 (b : Int), .int .u64 (c : Int), .int .u64 (d : Int)]
/-- A value of four words is the number n. -/
def Four (v : Value) (n : Nat) : Prop := ∃ a b c d : Nat, v = .agg #[.int .u64 (a : Int), .int .u64 (b : Int), .int .u64 (c : Int), .int .u64 (d : Int)] ∧
  a < 18446744073709551616 ∧ b < 18446744073709551616 ∧ c < 18446744073709551616 ∧ d < 18446744073709551616 ∧ n = val a b c d
def top : Nat := 115792089237316195423570985008687907853269984665640564039457584007913129639936
theorem val_lt {a b c d : Nat} (ha : a < 18446744073709551616) (hb : b < 18446744073709551616) (hc : c < 18446744073709551616) (hd : d < 18446744073709551616) : val a b c d < top := by
  unfold val top; omega
theorem Four.lt {v : Value} {n : Nat} (h : Four v n) : n < top := by
  obtain ⟨a, b, c, d, -, ha, hb, hc, hd, rfl⟩ := h
  exact val_lt ha hb hc hd
theorem val_inj {a b c d p q r s : Nat} (ha : a < 18446744073709551616) (hb : b < 18446744073709551616) (hc : c < 18446744073709551616)
    (hp : p < 18446744073709551616) (hq : q < 18446744073709551616) (hr : r < 18446744073709551616) (h : val a b c d = val p q r s) : a = p ∧ b = q ∧ c = r ∧ d = s := by
  unfold val at h; omega
theorem Four.inj {v v' : Value} {n : Nat} (h : Four v n) (h' : Four v' n) : v = v' := by
  obtain ⟨a, b, c, d, rfl, ha, hb, hc, hd, e⟩ := h
  obtain ⟨p, q, r, s, rfl, hp, hq, hr, hs, e'⟩ := h'
  obtain ⟨rfl, rfl, rfl, rfl⟩ := val_inj ha hb hc hp hq hr (e.symm.trans e')
  rfl
theorem Four.num {v : Value} {n m : Nat} (h : Four v n) (h' : Four v m) : n = m := by
  obtain ⟨a, b, c, d, rfl, ha, hb, hc, hd, rfl⟩ := h
  obtain ⟨p, q, r, s, e, hp, hq, hr, hs, rfl⟩ := h'
  simp only [Value.agg.injEq, Array.mk.injEq, List.cons.injEq, Value.int.injEq, true_and, and_true, Int.ofNat_inj] at e
  obtain ⟨rfl, rfl, rfl, rfl⟩ := e
  rfl
theorem Four.mk {a b c d n : Nat} (ha : a < 18446744073709551616) (hb : b < 18446744073709551616) (hc : c < 18446744073709551616) (hd : d < 18446744073709551616) (hn : n = val a b c d) :
    Four (.agg #[.int .u64 (a : Int), .int .u64 (b : Int), .int .u64 (c : Int), .int .u64 (d : Int)]) n := ⟨a, b, c, d, rfl, ha, hb, hc, hd, hn⟩
theorem ret_int {k : IntKind} {a b : Int} (h : a = b) : Ending.returned (.int k a) = .returned (.int k b) := by rw [h]
/-- What Mul64 answers, as words. -/
theorem mul_parts (x y : Nat) : x * y / 18446744073709551616 * 18446744073709551616 + x * y % 18446744073709551616 = x * y := by
  omega
end Go.Proofs.Ytifkmkllljfeaaa
namespace Go.Proofs.Ytifkmkllljfeaaa
open Go.RowKit Go.Sort
theorem mixed : Try.prog.follows .mixedOrders = true := by kernel_rfl
theorem add64 (x y c : Nat) (hx : x < 18446744073709551616) (hy : y < 18446744073709551616) (hc : c ≤ 1) :
    ∃ s k : Nat, (∀ w, (callFunc 42 #[.int .u64 (x : Int), .int .u64 (y : Int), .int .u64 (c : Int)]).run Try.prog w = .ok (.value (.tuple #[.int .u64 (s : Int), .int .u64 (k : Int)])) w) ∧
      s < 18446744073709551616 ∧ k ≤ 1 ∧ s + 18446744073709551616 * k = x + y + c := by
  refine ⟨(x + y + c) % 18446744073709551616, (x + y + c) / 18446744073709551616, fun w => ?_, by omega, by omega, by omega⟩
  rw [run_callFunc_extern Try.func42 (by kernel_rfl) (by kernel_rfl) (by kernel_rfl) (e := add64Entry) (by kernel_rfl), run_add64 x y c (by omega) (by omega) (by omega) (by omega)]
  simp only [Result.andThen]
  congr 5 <;> omega
theorem sub64 (x y c : Nat) (hx : x < 18446744073709551616) (hy : y < 18446744073709551616) (hc : c ≤ 1) :
    ∃ s k : Nat, (∀ w, (callFunc 40 #[.int .u64 (x : Int), .int .u64 (y : Int), .int .u64 (c : Int)]).run Try.prog w = .ok (.value (.tuple #[.int .u64 (s : Int), .int .u64 (k : Int)])) w) ∧
      s < 18446744073709551616 ∧ k ≤ 1 ∧ s + y + c = x + 18446744073709551616 * k := by
  refine ⟨(x + 18446744073709551616 - y - c) % 18446744073709551616, if x < y + c then 1 else 0, fun w => ?_, by omega, by split <;> omega, by split <;> omega⟩
  rw [run_callFunc_extern Try.func40 (by kernel_rfl) (by kernel_rfl) (by kernel_rfl) (e := (Extern.MathBitsCarry.rows[1]).2) (by kernel_rfl)]
  have : c = 0 ∨ c = 1 := by omega
  rcases this with rfl | rfl <;> rfl
theorem add64z (x y : Nat) (hx : x < 18446744073709551616) (hy : y < 18446744073709551616) :
    ∃ s k : Nat, (∀ w, (callFunc 42 #[.int .u64 (x : Int), .int .u64 (y : Int), .int .u64 0]).run Try.prog w = .ok (.value (.tuple #[.int .u64 (s : Int), .int .u64 (k : Int)])) w) ∧
      s < 18446744073709551616 ∧ k ≤ 1 ∧ s + 18446744073709551616 * k = x + y := add64 x y 0 hx hy (Nat.zero_le 1)
theorem sub64z (x y : Nat) (hx : x < 18446744073709551616) (hy : y < 18446744073709551616) :
    ∃ s k : Nat, (∀ w, (callFunc 40 #[.int .u64 (x : Int), .int .u64 (y : Int), .int .u64 0]).run Try.prog w = .ok (.value (.tuple #[.int .u64 (s : Int), .int .u64 (k : Int)])) w) ∧
      s < 18446744073709551616 ∧ k ≤ 1 ∧ s + y = x + 18446744073709551616 * k := sub64 x y 0 hx hy (Nat.zero_le 1)
theorem maskN (a : Nat) (ha : a < 18446744073709551616) : bits .and .u64 (a : Int) 4294967295 = ((a % 4294967296 : Nat) : Int) := by
  have h := bits_and_u64_nat a 4294967295 ha (by omega)
  rw [show a &&& 4294967295 = a % 4294967296 from Nat.and_two_pow_sub_one_eq_mod a 32] at h
  exact h
theorem divN (a : Nat) : (a : Int) / 4294967296 = ((a / 4294967296 : Nat) : Int) := by omega
theorem mulN (a b : Nat) : (a : Int) * (b : Int) = ((a * b : Nat) : Int) := (Int.natCast_mul a b).symm
theorem addN (a b : Nat) : (a : Int) + (b : Int) = ((a + b : Nat) : Int) := (Int.natCast_add a b).symm
theorem wrapN (a : Nat) (ha : a < 18446744073709551616) : IntKind.u64.wrap (a : Int) = (a : Int) := by rw [IntKind.wrap_u64]; omega
theorem wrapM (a : Nat) : IntKind.u64.wrap (a : Int) = ((a % 18446744073709551616 : Nat) : Int) := by rw [IntKind.wrap_u64]; omega
set_option maxHeartbeats 1000000 in
theorem mul64e (x y : Nat) (hx : x < 18446744073709551616) (hy : y < 18446744073709551616) (w : World) :
    Calls Try.prog 41 #[.int .u64 (x : Int), .int .u64 (y : Int)] w fun e w' => e = .returned (.tuple #[.int .u64 ((x * y / 18446744073709551616 : Nat) : Int), .int .u64 ((x * y % 18446744073709551616 : Nat) : Int)]) ∧ w' = w := by
  obtain ⟨bd, bt, bw, hhi⟩ := Lib.mul64_hi x y hx hy
  have ba := Lib.half_mul_le (a := x / 4294967296) (b := y / 4294967296) (by omega) (by omega)
  have bb := Lib.half_mul_le (a := x / 4294967296) (b := y % 4294967296) (by omega) (by omega)
  have bc := Lib.half_mul_le (a := x % 4294967296) (b := y / 4294967296) (by omega) (by omega)
  have b1 : x / 4294967296 * (y / 4294967296) < 18446744073709551616 := by omega
  have b2 : x / 4294967296 * (y % 4294967296) < 18446744073709551616 := by omega
  have b3 : x % 4294967296 * (y / 4294967296) < 18446744073709551616 := by omega
  have bh1 : x / 4294967296 * (y / 4294967296) + (x / 4294967296 * (y % 4294967296) + x % 4294967296 * (y % 4294967296) / 4294967296) / 4294967296 < 18446744073709551616 := by omega
  have bh : x / 4294967296 * (y / 4294967296) + (x / 4294967296 * (y % 4294967296) + x % 4294967296 * (y % 4294967296) / 4294967296) / 4294967296 + ((x / 4294967296 * (y % 4294967296) + x % 4294967296 * (y % 4294967296) / 4294967296) % 4294967296 + x % 4294967296 * (y / 4294967296)) / 4294967296 < 18446744073709551616 := by omega
  go_enter Try.func41, Try.ntmps41
  go_wp2
  simp only [maskN x hx, maskN y hy, divN, mulN, addN, wrapN _ bd, wrapN _ b2, wrapN _ bt, maskN _ bt, wrapN _ b3, wrapN _ bw, wrapN _ b1, wrapN _ bh1, wrapN _ bh, wrapM (x * y)]
  rw [hhi]
  go_ret2
  exact ⟨rfl, rfl⟩
theorem mul64q (x y : Nat) (hx : x < 18446744073709551616) (hy : y < 18446744073709551616) :
    ∃ h l : Nat, (∀ w, Calls Try.prog 41 #[.int .u64 (x : Int), .int .u64 (y : Int)] w fun e w' => e = .returned (.tuple #[.int .u64 (h : Int), .int .u64 (l : Int)]) ∧ w' = w) ∧
      h < 18446744073709551616 ∧ l < 18446744073709551616 ∧ l + 18446744073709551616 * h = x * y := by
  have hxy : x * y ≤ 18446744073709551615 * 18446744073709551615 := Nat.mul_le_mul (by omega) (by omega)
  exact ⟨_, _, fun w => mul64e x y hx hy w, by omega, by omega, by omega⟩
theorem mul64 (x y : Nat) (hx : x < 18446744073709551616) (hy : y < 18446744073709551616) (w : World) :
    Calls Try.prog 41 #[.int .u64 (x : Int), .int .u64 (y : Int)] w fun e w' => w' = w ∧ ∃ h l : Nat, e = .returned (.tuple #[.int .u64 (h : Int), .int .u64 (l : Int)]) ∧
      h < 18446744073709551616 ∧ l < 18446744073709551616 ∧ l + 18446744073709551616 * h = x * y := by
  obtain ⟨h, l, hc, h1, h2, h3⟩ := mul64q x y hx hy
  exact (hc w).mono fun e w' he => ⟨he.2, h, l, he.1, h1, h2, h3⟩
/-- One step of a product: a product of two words, on top of what stands there and what is carried. -/
theorem mulstep (x y o c : Nat) (hx : x < 18446744073709551616) (hy : y < 18446744073709551616) (ho : o < 18446744073709551616) (hc : c < 18446744073709551616) :
    ∃ h l s1 k1 s2 k2 g cy : Nat, (∀ w, Calls Try.prog 41 #[.int .u64 (x : Int), .int .u64 (y : Int)] w fun e w' => e = .returned (.tuple #[.int .u64 (h : Int), .int .u64 (l : Int)]) ∧ w' = w) ∧
      (∀ w, (callFunc 42 #[.int .u64 (l : Int), .int .u64 (c : Int), .int .u64 0]).run Try.prog w = .ok (.value (.tuple #[.int .u64 (s1 : Int), .int .u64 (k1 : Int)])) w) ∧
      (∀ w, (callFunc 42 #[.int .u64 (o : Int), .int .u64 (s1 : Int), .int .u64 0]).run Try.prog w = .ok (.value (.tuple #[.int .u64 (s2 : Int), .int .u64 (k2 : Int)])) w) ∧
      IntKind.u64.wrap ((h : Int) + (k1 : Int)) = (g : Int) ∧ IntKind.u64.wrap ((g : Int) + (k2 : Int)) = (cy : Int) ∧
      s2 < 18446744073709551616 ∧ cy < 18446744073709551616 ∧ s2 + 18446744073709551616 * cy = x * y + o + c := by
  have hxy : x * y ≤ 18446744073709551615 * 18446744073709551615 := Nat.mul_le_mul (by omega) (by omega)
  obtain ⟨h, l, hm, hh, hl, e1⟩ := mul64q x y hx hy
  obtain ⟨s1, k1, a1, hs1, hk1, e2⟩ := add64z l c hl hc
  obtain ⟨s2, k2, a2, hs2, hk2, e3⟩ := add64z o s1 ho hs1
  refine ⟨h, l, s1, k1, s2, k2, h + k1, h + k1 + k2, hm, a1, a2, ?_, ?_, hs2, by omega, by omega⟩
  · rw [addN]; exact wrapN _ (by omega)
  · rw [addN]; exact wrapN _ (by omega)
set_option maxHeartbeats 1000000 in
theorem cell_any (x y o c : Nat) (hx : x < 18446744073709551616) (hy : y < 18446744073709551616) (ho : o < 18446744073709551616) (hc : c < 18446744073709551616) (w : World) :
    Calls Try.prog 71 #[.int .u64 (x : Int), .int .u64 (y : Int), .int .u64 (o : Int), .int .u64 (c : Int)] w fun e w' => w' = w ∧ ∃ l h : Nat, e = .returned (.tuple #[.int .u64 (l : Int), .int .u64 (h : Int)]) ∧
      h < 18446744073709551616 ∧ l < 18446744073709551616 ∧ l + 18446744073709551616 * h = x * y + o + c := by
  have hxy : x * y ≤ 18446744073709551615 * 18446744073709551615 := Nat.mul_le_mul (by omega) (by omega)
  go_enter Try.func71, Try.ntmps71
  go_wp2_with fail
  refine (mul64 x y hx hy _).mono ?_
  rintro e w1 ⟨rfl, h, l, rfl, hh, hl, e1⟩
  obtain ⟨s1, k1, a1, hs1, hk1, e2⟩ := add64z l o hl ho
  obtain ⟨s2, k2, a2, hs2, hk2, e3⟩ := add64z s1 c hs1 hc
  have w1 : IntKind.u64.wrap ((h : Int) + (k1 : Int)) = ((h + k1 : Nat) : Int) := by rw [addN]; exact wrapN _ (by omega)
  have w2 : IntKind.u64.wrap (((h + k1 : Nat) : Int) + (k2 : Int)) = ((h + k1 + k2 : Nat) : Int) := by rw [addN]; exact wrapN _ (by omega)
  go_wp2
  go_ret2
  refine ⟨rfl, s2, h + k1 + k2, ?_, by omega, by omega, by omega⟩
  rfl
end Go.Proofs.Ytifkmkllljfeaaa
namespace Go.Proofs.Ytifkmkllljfeaaa
open Go.RowKit Go.Sort
/-- It returned a value, of which something holds. -/
def Ret (Q : Value → World → Prop) (e : Ending) (w : World) : Prop := ∃ v, e = .returned v ∧ Q v w
theorem below1 (w : World) (o1 : Obj) : Below w.heap.size w (w.alloc o1) := (Below.refl _ _).alloc (Nat.le_refl _) o1
theorem below2 (w : World) (o1 o2 : Obj) : Below w.heap.size w ((w.alloc o1).alloc o2) := (below1 w o1).alloc (by simp) o2
theorem below3 (w : World) (o1 o2 o3 : Obj) : Below w.heap.size w (((w.alloc o1).alloc o2).alloc o3) := (below2 w o1 o2).alloc (by simp; omega) o3
theorem below4 (w : World) (o1 o2 o3 o4 : Obj) : Below w.heap.size w ((((w.alloc o1).alloc o2).alloc o3).alloc o4) := (below3 w o1 o2 o3).alloc (by simp; omega) o4
set_option maxHeartbeats 1000000 in
theorem plus_any (x y : Value) (m n : Nat) (hx : Four x m) (hy : Four y n) (w : World) :
    Calls Try.prog 68 #[x, y] w (Ret fun e w' => Below w.heap.size w w' ∧ ∃ (v : Value) (s k : Nat), e = .tuple #[v, .int .u64 (k : Int)] ∧ Four v s ∧ k ≤ 1 ∧ s + top * k = m + n) := by
  obtain ⟨a, b, c, d, rfl, ha, hb, hc, hd, em⟩ := hx
  obtain ⟨p, q, r, s, rfl, hp, hq, hr, hs, en⟩ := hy
  obtain ⟨s0, k0, a0, hs0, hk0, e0⟩ := add64z a p ha hp
  obtain ⟨s1, k1, a1, hs1, hk1, e1⟩ := add64 b q k0 hb hq hk0
  obtain ⟨s2, k2, a2, hs2, hk2, e2⟩ := add64 c r k1 hc hr hk1
  obtain ⟨s3, k3, a3, hs3, hk3, e3⟩ := add64 d s k2 hd hs hk2
  have hv : val s0 s1 s2 s3 + top * k3 = m + n := by rw [em, en]; unfold val top; omega
  clear e0 e1 e2 e3 em en
  go_enter Try.func68, Try.ntmps68
  go_wp2_with (first | simp only [a0] | simp only [a1] | simp only [a2] | simp only [a3])
  refine bodyPost_ret (v := ?v) ?hr rfl ?hR
  case hr => simp [results, Try.results68, go_sem]; rfl
  exact ⟨_, rfl, below3 _ _ _ _, _, _, k3, rfl, Four.mk hs0 hs1 hs2 hs3 rfl, hk3, hv⟩
theorem four_any (x : Value) (m : Nat) (hx : Four x m) (w : World) :
    Calls Try.prog 56 #[x] w (Ret fun e w' => Below w.heap.size w w' ∧ e = x) := by
  obtain ⟨a, b, c, d, rfl, ha, hb, hc, hd, em⟩ := hx
  clear em
  go_enter Try.func56, Try.ntmps56
  go_wp2
  refine bodyPost_ret (v := ?v) ?hr rfl ?hR
  case hr => simp [results, Try.results56, go_sem]; rfl
  exact ⟨_, rfl, below2 _ _ _, rfl⟩
theorem number_any (x : Value) (m : Nat) (hx : Four x m) (w : World) :
    Calls Try.prog 58 #[x] w (Ret fun e w' => Below w.heap.size w w' ∧ e = x) := by
  obtain ⟨a, b, c, d, rfl, ha, hb, hc, hd, em⟩ := hx
  clear em
  go_enter Try.func58, Try.ntmps58
  go_wp2
  refine bodyPost_ret (v := ?v) ?hr rfl ?hR
  case hr => simp [results, Try.results58, go_sem]; rfl
  exact ⟨_, rfl, below2 _ _ _, rfl⟩
theorem mul_val (x a b c d : Nat) : x * val a b c d = val (x * a) (x * b) (x * c) (x * d) := by
  unfold val
  rw [Nat.mul_add, Nat.mul_add, Nat.mul_add, Nat.mul_left_comm x _ b, Nat.mul_left_comm x _ c, Nat.mul_left_comm x _ d]
theorem row_sum {x a b c d p q r s l0 l1 l2 l3 h0 h1 h2 h3 m n : Nat} (em : m = val a b c d) (en : n = val p q r s)
    (e0 : l0 + 18446744073709551616 * h0 = x * a + p + 0) (e1 : l1 + 18446744073709551616 * h1 = x * b + q + h0)
    (e2 : l2 + 18446744073709551616 * h2 = x * c + r + h1) (e3 : l3 + 18446744073709551616 * h3 = x * d + s + h2) :
    l0 + 18446744073709551616 * val l1 l2 l3 h3 = x * m + n := by
  rw [em, en, mul_val x a b c d]
  generalize x * a = xa at *
  generalize x * b = xb at *
  generalize x * c = xc at *
  generalize x * d = xd at *
  unfold val
  omega
set_option maxHeartbeats 1000000 in
theorem row_any (x : Nat) (y z : Value) (m n : Nat) (hx : x < 18446744073709551616) (hy : Four y m) (hz : Four z n) (w : World) :
    Calls Try.prog 67 #[.int .u64 (x : Int), y, z] w (Ret fun e w' => Below w.heap.size w w' ∧ ∃ (l : Nat) (v : Value) (s : Nat), e = .tuple #[.int .u64 (l : Int), v] ∧ l < 18446744073709551616 ∧ Four v s ∧ l + 18446744073709551616 * s = x * m + n) := by
  obtain ⟨a, b, c, d, rfl, ha, hb, hc, hd, em⟩ := hy
  obtain ⟨p, q, r, s, rfl, hp, hq, hr, hs, en⟩ := hz
  go_enter Try.func67, Try.ntmps67
  go_wp2_with fail
  refine (cell_any x a p 0 hx ha hp (by decide) _).mono ?_
  rintro e w1 ⟨rfl, l0, h0, rfl, hh0, hl0, e0⟩
  go_wp2_with fail
  refine (cell_any x b q h0 hx hb hq hh0 _).mono ?_
  rintro e w1 ⟨rfl, l1, h1, rfl, hh1, hl1, e1⟩
  go_wp2_with fail
  refine (cell_any x c r h1 hx hc hr hh1 _).mono ?_
  rintro e w1 ⟨rfl, l2, h2, rfl, hh2, hl2, e2⟩
  go_wp2_with fail
  refine (cell_any x d s h2 hx hd hs hh2 _).mono ?_
  rintro e w1 ⟨rfl, l3, h3, rfl, hh3, hl3, e3⟩
  go_wp2
  refine bodyPost_ret (v := ?v) ?hr rfl ?hR
  case hr => simp [results, Try.results67, go_sem]; rfl
  exact ⟨_, rfl, below3 _ _ _ _, l0, _, _, rfl, hl0, Four.mk hl1 hl2 hl3 hh3 rfl, row_sum em en e0 e1 e2 e3⟩
end Go.Proofs.Ytifkmkllljfeaaa
namespace Go.Proofs.Ytifkmkllljfeaaa
open Go.RowKit Go.Sort
/-- Four words lie in a block of their own. -/
structure At4 (w : World) (k a b c d : Nat) : Prop where
  c0 : w.cell? ⟨k, 0, none⟩ = some (.int .u64 (a : Int))
  c1 : w.cell? ⟨k, 1, none⟩ = some (.int .u64 (b : Int))
  c2 : w.cell? ⟨k, 2, none⟩ = some (.int .u64 (c : Int))
  c3 : w.cell? ⟨k, 3, none⟩ = some (.int .u64 (d : Int))
  f : ∀ o, w.frozen? ⟨k, o, none⟩ = false
variable {w w1 : World} {k a b c d : Nat}
theorem At4.lt (h : At4 w k a b c d) : k < w.heap.size := World.block_lt_of_cell? _ _ h.c0
theorem At4.below {B : Nat} (h : At4 w k a b c d) (hb : Below B w w1) (hk : k < B) : At4 w1 k a b c d :=
  ⟨by rw [hb.cell (p := ⟨k, 0, none⟩) hk]; exact h.c0, by rw [hb.cell (p := ⟨k, 1, none⟩) hk]; exact h.c1, by rw [hb.cell (p := ⟨k, 2, none⟩) hk]; exact h.c2, by rw [hb.cell (p := ⟨k, 3, none⟩) hk]; exact h.c3,
    fun o => by rw [hb.frozen (p := ⟨k, o, none⟩) hk]; exact h.f o⟩
theorem At4.call (h : At4 w k a b c d) (hb : Below w.heap.size w w1) : At4 w1 k a b c d := h.below hb h.lt
theorem At4.alloc (h : At4 w k a b c d) (o : Obj) : At4 (w.alloc o) k a b c d := h.call (below1 w o)
theorem At4.drewN (h : At4 w k a b c d) (q : Nat) : At4 (w.drewN q) k a b c d := ⟨h.c0, h.c1, h.c2, h.c3, h.f⟩
theorem At4.new (w : World) (t : TypeId) (a b c d : Nat) : At4 (w.alloc (.cells #[.int .u64 (a : Int), .int .u64 (b : Int), .int .u64 (c : Int), .int .u64 (d : Int)] t)) w.heap.size a b c d :=
  ⟨by rw [World.cell?_alloc_new]; rfl, by rw [World.cell?_alloc_new]; rfl, by rw [World.cell?_alloc_new]; rfl, by rw [World.cell?_alloc_new]; rfl, fun o => World.frozen?_alloc_new _ _ _ _⟩
theorem At4.made (w : World) (t : TypeId) (a b c d : Nat) {k : Nat} (hk : w.heap.size = k) : At4 (w.alloc (.cells #[.int .u64 (a : Int), .int .u64 (b : Int), .int .u64 (c : Int), .int .u64 (d : Int)] t)) k a b c d :=
  hk ▸ At4.new w t a b c d
theorem ne_addr {i j : Nat} {o o' : Nat} (h : i ≠ j ∨ o ≠ o') : (⟨i, o, none⟩ : Addr) ≠ ⟨j, o', none⟩ := by
  intro e
  simp only [Addr.mk.injEq, and_true] at e
  omega
theorem At4.other {j o : Nat} (h : At4 w k a b c d) (hj : j ≠ k) (v : Value) : At4 (w.setCell ⟨j, o, none⟩ v) k a b c d :=
  ⟨by rw [World.cell?_setCell_other _ _ _ _ (ne_addr (Or.inl hj))]; exact h.c0, by rw [World.cell?_setCell_other _ _ _ _ (ne_addr (Or.inl hj))]; exact h.c1,
   by rw [World.cell?_setCell_other _ _ _ _ (ne_addr (Or.inl hj))]; exact h.c2, by rw [World.cell?_setCell_other _ _ _ _ (ne_addr (Or.inl hj))]; exact h.c3, fun o => by rw [World.frozen?_setCell]; exact h.f o⟩
theorem At4.set0 (h : At4 w k a b c d) (x : Nat) : At4 (w.setCell ⟨k, 0, none⟩ (.int .u64 (x : Int))) k x b c d :=
  ⟨World.cell?_setCell_same _ _ _ h.c0, by rw [World.cell?_setCell_other _ _ _ _ (ne_addr (Or.inr (by decide)))]; exact h.c1,
   by rw [World.cell?_setCell_other _ _ _ _ (ne_addr (Or.inr (by decide)))]; exact h.c2, by rw [World.cell?_setCell_other _ _ _ _ (ne_addr (Or.inr (by decide)))]; exact h.c3, fun o => by rw [World.frozen?_setCell]; exact h.f o⟩
theorem At4.set1 (h : At4 w k a b c d) (x : Nat) : At4 (w.setCell ⟨k, 1, none⟩ (.int .u64 (x : Int))) k a x c d :=
  ⟨by rw [World.cell?_setCell_other _ _ _ _ (ne_addr (Or.inr (by decide)))]; exact h.c0, World.cell?_setCell_same _ _ _ h.c1,
   by rw [World.cell?_setCell_other _ _ _ _ (ne_addr (Or.inr (by decide)))]; exact h.c2, by rw [World.cell?_setCell_other _ _ _ _ (ne_addr (Or.inr (by decide)))]; exact h.c3, fun o => by rw [World.frozen?_setCell]; exact h.f o⟩
theorem At4.set2 (h : At4 w k a b c d) (x : Nat) : At4 (w.setCell ⟨k, 2, none⟩ (.int .u64 (x : Int))) k a b x d :=
  ⟨by rw [World.cell?_setCell_other _ _ _ _ (ne_addr (Or.inr (by decide)))]; exact h.c0, by rw [World.cell?_setCell_other _ _ _ _ (ne_addr (Or.inr (by decide)))]; exact h.c1,
   World.cell?_setCell_same _ _ _ h.c2, by rw [World.cell?_setCell_other _ _ _ _ (ne_addr (Or.inr (by decide)))]; exact h.c3, fun o => by rw [World.frozen?_setCell]; exact h.f o⟩
theorem At4.set3 (h : At4 w k a b c d) (x : Nat) : At4 (w.setCell ⟨k, 3, none⟩ (.int .u64 (x : Int))) k a b c x :=
  ⟨by rw [World.cell?_setCell_other _ _ _ _ (ne_addr (Or.inr (by decide)))]; exact h.c0, by rw [World.cell?_setCell_other _ _ _ _ (ne_addr (Or.inr (by decide)))]; exact h.c1,
   by rw [World.cell?_setCell_other _ _ _ _ (ne_addr (Or.inr (by decide)))]; exact h.c2, World.cell?_setCell_same _ _ _ h.c3, fun o => by rw [World.frozen?_setCell]; exact h.f o⟩
theorem At4.drew (h : At4 w k a b c d) : At4 w.drew k a b c d := ⟨h.c0, h.c1, h.c2, h.c3, h.f⟩
/-- Four cells of a block, written one behind the other. -/
def set4 (w : World) (k : Nat) (x y z t : Value) : World := (((w.setCell ⟨k, 0, none⟩ x).setCell ⟨k, 1, none⟩ y).setCell ⟨k, 2, none⟩ z).setCell ⟨k, 3, none⟩ t
theorem At4.self4 (h : At4 w k a b c d) (x y z t : Nat) : At4 (set4 w k (.int .u64 (x : Int)) (.int .u64 (y : Int)) (.int .u64 (z : Int)) (.int .u64 (t : Int))) k x y z t := (((h.set0 x).set1 y).set2 z).set3 t
theorem At4.other4 {j : Nat} (h : At4 w k a b c d) (hj : j ≠ k) (x y z t : Value) : At4 (set4 w j x y z t) k a b c d := (((h.other hj x).other hj y).other hj z).other hj t
theorem below_set4 {B j : Nat} {w0 : World} (h : Below B w0 w) (hj : B ≤ j) (x y z t : Value) : Below B w0 (set4 w j x y z t) :=
  (((h.setCell (p := ⟨j, 0, none⟩) hj x).setCell (p := ⟨j, 1, none⟩) hj y).setCell (p := ⟨j, 2, none⟩) hj z).setCell (p := ⟨j, 3, none⟩) hj t
theorem size_set4 (w : World) (j : Nat) (x y z t : Value) : (set4 w j x y z t).heap.size = w.heap.size := by simp [set4]
/-- A prime: 2^256 less its gap, which has three words. -/
def PrimeV (p : Value) (g0 g1 g2 : Nat) : Prop := p = .agg #[.agg #[.int .u64 (g0 : Int), .int .u64 (g1 : Int), .int .u64 (g2 : Int), .int .u64 0]]
end Go.Proofs.Ytifkmkllljfeaaa
namespace Go.Proofs.Ytifkmkllljfeaaa
open Go.RowKit Go.Sort Go.Deep
abbrev Bs := Array UInt8
/-- A byte's number; a byte as the model holds it. -/
def ub (x : UInt8) : Int := (x.toNat : Int)
def encB (x : UInt8) : Value := .int .u8 (ub x)
theorem ub_lt (x : UInt8) : ub x < 256 := by
  have := x.toNat_lt
  unfold ub
  omega
theorem ub_nonneg (x : UInt8) : 0 ≤ ub x := Int.natCast_nonneg _
/-- Of all that was there, only the cells off .. off + n - 1 of block b may have turned; no block has gone. -/
structure Only (b off n : Nat) (w w' : World) : Prop where
  os : w'.os = w.os
  tape : w'.tape = w.tape
  output : w'.output = w.output
  size : w.heap.size ≤ w'.heap.size
  block : ∀ k, k < w.heap.size → k ≠ b → w'.heap[k]? = w.heap[k]?
  cell : ∀ o, (o < off ∨ off + n ≤ o) → w'.cell? ⟨b, o, none⟩ = w.cell? ⟨b, o, none⟩
  froz : ∀ o, w'.frozen? ⟨b, o, none⟩ = w.frozen? ⟨b, o, none⟩
variable {b off n : Nat} {w w1 w2 : World}
theorem Only.refl (b off n : Nat) (w : World) : Only b off n w w := ⟨rfl, rfl, rfl, Nat.le_refl _, fun _ _ _ => rfl, fun _ _ => rfl, fun _ => rfl⟩
theorem Only.trans (h : Only b off n w w1) (k : Only b off n w1 w2) : Only b off n w w2 :=
  ⟨k.os.trans h.os, k.tape.trans h.tape, k.output.trans h.output, Nat.le_trans h.size k.size,
    fun i hi hn => (k.block i (Nat.lt_of_lt_of_le hi h.size) hn).trans (h.block i hi hn),
    fun o ho => (k.cell o ho).trans (h.cell o ho), fun o => (k.froz o).trans (h.froz o)⟩
theorem Only.drewN (h : Only b off n w w1) (q : Nat) : Only b off n w (w1.drewN q) := ⟨h.os, h.tape, h.output, h.size, h.block, h.cell, h.froz⟩
theorem Only.drew (h : Only b off n w w1) : Only b off n w w1.drew := ⟨h.os, h.tape, h.output, h.size, h.block, h.cell, h.froz⟩
theorem Only.setCell (h : Only b off n w w1) {o : Nat} (h1 : off ≤ o) (h2 : o < off + n) (v : Value) : Only b off n w (w1.setCell ⟨b, o, none⟩ v) := by
  refine h.trans ⟨rfl, rfl, rfl, by simp, fun k _ hn => Below.heap_setCell _ _ _ _ hn, fun o' ho => ?_, fun o' => by simp⟩
  exact World.cell?_setCell_other _ _ _ _ (by intro e; simp only [Addr.mk.injEq, and_true, true_and] at e; omega)
theorem Only.alloc (h : Only b off n w w1) (hb : b < w1.heap.size) (o : Obj) : Only b off n w (w1.alloc o) := by
  refine h.trans ⟨rfl, rfl, rfl, by simp, fun k hk _ => Below.heap_alloc _ _ _ hk, fun o' _ => ?_, fun o' => ?_⟩
  · exact World.cell?_alloc_lt _ _ _ hb
  · exact World.frozen?_alloc_old _ _ _ (by show b ≠ _; omega)
theorem Only.below (h : Only b off n w w1) {B : Nat} (hB : B ≤ w.heap.size) (hb : B ≤ b) : Below B w w1 :=
  ⟨h.os, h.tape, h.output, h.size, fun k hk => h.block k (by omega) (by omega)⟩
/-- What only makes memory turns nothing of the row. -/
theorem Only.of_below {B : Nat} (h : Below B w w1) (hB : B = w.heap.size) (hb : b < B) : Only b off n w w1 :=
  ⟨h.os, h.tape, h.output, h.size, fun k hk _ => h.block k (by omega), fun o _ => h.cell (p := ⟨b, o, none⟩) hb, fun o => h.frozen (p := ⟨b, o, none⟩) hb⟩
theorem Only.other (h : Only b off n w w1) {c o : Nat} (hc : c ≠ b) (hs : c < w.heap.size) : w1.cell? ⟨c, o, none⟩ = w.cell? ⟨c, o, none⟩ ∧ w1.frozen? ⟨c, o, none⟩ = w.frozen? ⟨c, o, none⟩ :=
  ⟨World.cell?_of_block (w := w) (h.block c hs hc), World.frozen?_of_block (w := w) (h.block c hs hc)⟩
/-- What was done to a block of one's own, just made, turned nothing that was there. -/
theorem Only.fresh {o m : Nat} {x : Obj} (h : Only w.heap.size o m (w.alloc x) w1) : Below w.heap.size w w1 :=
  ((Below.refl _ _).alloc (Nat.le_refl _) x).trans (h.below (by simp) (Nat.le_refl _))
section
variable {α : Type} [Inhabited α] {enc : α → Value} {d : Array α}
theorem Holds.lt (h : Holds enc w b off d) (hd : 0 < d.size) : b < w.heap.size := World.block_lt_of_cell? _ _ (h 0 hd).1
theorem Holds.other {c o : Nat} (h : Holds enc w c o d) (k : Only b off n w w1) (hc : c ≠ b) (hd : 0 < d.size) : Holds enc w1 c o d := by
  intro j hj
  have := h j hj
  have := k.other (o := o + j) hc (Holds.lt h hd)
  rw [this.1, this.2]
  exact h j hj
theorem Holds.same {o : Nat} (h : Holds enc w b o d) (k : Only b off n w w1) (hd : o + d.size ≤ off ∨ off + n ≤ o) : Holds enc w1 b o d := by
  intro j hj
  rw [k.cell _ (by omega), k.froz]
  exact h j hj
theorem Holds.below {B : Nat} (h : Holds enc w b off d) (k : Below B w w1) (hb : b < B) : Holds enc w1 b off d := by
  intro j hj
  rw [k.cell (p := ⟨b, off + j, none⟩) hb, k.frozen (p := ⟨b, off + j, none⟩) hb]
  exact h j hj
theorem Holds.drewN (h : Holds enc w b off d) (q : Nat) : Holds enc (w.drewN q) b off d := h
theorem Holds.drew (h : Holds enc w b off d) : Holds enc w.drew b off d := h
theorem Holds.set (h : Holds enc w b off d) {i : Nat} (hi : i < d.size) (x : α) : Holds enc (w.setCell ⟨b, off + i, none⟩ (enc x)) b off (d.setIfInBounds i x) := by
  intro j hj
  rw [Array.size_setIfInBounds] at hj
  rw [World.frozen?_setCell]
  by_cases e : j = i
  · subst e
    rw [getElem!_set_same d j x hi]
    exact ⟨World.cell?_setCell_same _ _ _ (h j hj).1, (h j hj).2⟩
  · rw [getElem!_set_other d i j x e, World.cell?_setCell_other _ _ _ _ (by intro e'; simp only [Addr.mk.injEq, and_true, true_and] at e'; omega)]
    exact h j hj
/-- A block of one's own, just made. -/
theorem Holds.new (w : World) (t : TypeId) (d : Array α) : Holds enc (w.alloc (.cells (d.map enc) t)) w.heap.size 0 d := by
  intro j hj
  rw [World.cell?_alloc_new, World.frozen?_alloc_new]
  refine ⟨?_, rfl⟩
  simp only [Nat.zero_add, Array.getElem?_map, Array.getElem?_eq_getElem hj, Option.map_some, getElem!_pos d j hj]
/-- A block of one's own, made by 'make'. -/
theorem Holds.made (w : World) (t : TypeId) (n : Nat) (x : α) : Holds enc (w.alloc (.cells (madeCells #[enc x] n) t)) w.heap.size 0 (Array.replicate n x) := by
  intro j hj
  rw [Array.size_replicate] at hj
  rw [World.cell?_alloc_new, World.frozen?_alloc_new]
  refine ⟨?_, rfl⟩
  rw [getElem!_pos _ j (by simpa using hj), Array.getElem_replicate]
  simp [madeCells, hj, Nat.mod_one]
end
section
/-- What Lent lays at place i behind the text. -/
def fill (i : Nat) : UInt8 := UInt8.ofNat (i % 251) ^^^ 165
theorem fill_int (i : Nat) : bits .xor .u8 ((i : Int) % 251) 165 = ub (fill i) := by
  have H : ∀ j : Fin 251, bits .xor .u8 (j.val : Int) 165 = ub (UInt8.ofNat j.val ^^^ 165) := by decide +kernel
  have := H ⟨i % 251, Nat.mod_lt _ (by decide)⟩
  simpa [fill] using this
def lentTo (s : ByteArray) : Nat → Bs
  | 0 => s.data ++ Array.replicate 160 0
  | k + 1 => (lentTo s k).setIfInBounds (s.size + k) (fill (s.size + k))
def lent (s : ByteArray) : Bs := lentTo s 160
theorem lentTo_size (s : ByteArray) (k : Nat) : (lentTo s k).size = s.size + 160 := by
  induction k with
  | zero => simp [lentTo]
  | succ k ih => simp [lentTo, ih]
theorem lent_size (s : ByteArray) : (lent s).size = s.size + 160 := lentTo_size s 160
variable {w w1 : World} {b o n : Nat}
theorem heap_setCells (b : Nat) {k : Nat} (hk : k ≠ b) : ∀ (vs : List Value) (p : Nat) (w : World), (w.setCells b p vs).heap[k]? = w.heap[k]?
  | [], _, _ => rfl
  | v :: r, p, w => by rw [World.setCells, heap_setCells b hk r (p + 1) _, Below.heap_setCell _ _ _ _ hk]
theorem Only.setCells (h : Only b o n w w1) (vs : List Value) (p : Nat) (hp : o ≤ p) (hn : p + vs.length ≤ o + n) : Only b o n w (w1.setCells b p vs) := by
  have h0 := below_setCells (B := 0) (b := b) (Nat.zero_le _) vs p w1 (Below.refl 0 w1)
  exact h.trans ⟨h0.os, h0.tape, h0.output, h0.size, fun k _ hk => heap_setCells b hk vs p w1,
    fun q hq => World.cell?_setCells_out b vs p w1 ⟨b, q, none⟩ (fun _ _ => by simp only; omega), fun q => World.frozen?_setCells b vs p w1 _⟩
/-- A row behind 'copy': what was copied stands at its place, all else as it stood. -/
theorem Holds.setCells {bs r : Bs} (h : Holds encB w b o bs) (vs : List Value) (p : Nat) (hr : r.size = bs.size) (hp : p + vs.length ≤ bs.size)
    (h1 : ∀ j (hj : j < vs.length), vs[j] = encB r[p + j]!) (h2 : ∀ j, j < bs.size → j < p ∨ p + vs.length ≤ j → r[j]! = bs[j]!) : Holds encB (w.setCells b (o + p) vs) b o r := by
  intro j hj
  rw [hr] at hj
  rw [World.frozen?_setCells]
  refine ⟨?_, (h j hj).2⟩
  by_cases hin : j < p ∨ p + vs.length ≤ j
  · rw [World.cell?_setCells_out b vs (o + p) w ⟨b, o + j, none⟩ (fun _ _ => by simp only; omega), h2 j hj hin]
    exact (h j hj).1
  · have hj2 : j - p < vs.length := by omega
    have := World.cell?_setCells_in b vs (o + p) w (fun i hi => by
      have := (h (p + i) (by omega)).1
      rw [← Nat.add_assoc] at this
      rw [this]; rfl) (j - p) hj2
    rw [show o + p + (j - p) = o + j by omega] at this
    rw [this, h1 (j - p) hj2, show p + (j - p) = j by omega]
theorem app_front (a r : Bs) (j : Nat) (hj : j < a.size) : (a ++ r)[j]! = a[j] := by
  have h : j < (a ++ r).size := by rw [Array.size_append]; omega
  rw [getElem!_pos (a ++ r) j h, Array.getElem_append_left hj]
theorem app_back (a r : Bs) (j : Nat) (h1 : a.size ≤ j) (h2 : j < a.size + r.size) : (a ++ r)[j]! = r[j - a.size]! := by
  have h : j < (a ++ r).size := by rw [Array.size_append]; omega
  have h3 : j - a.size < r.size := by omega
  rw [getElem!_pos (a ++ r) j h, Array.getElem_append_right h1, getElem!_pos r (j - a.size) h3]
theorem rep_at (n j : Nat) (h : j < n) : (Array.replicate n (0 : UInt8))[j]! = 0 := by
  have h' : j < (Array.replicate n (0 : UInt8)).size := by rw [Array.size_replicate]; exact h
  rw [getElem!_pos (Array.replicate n (0 : UInt8)) j h', Array.getElem_replicate]
theorem lent_front (s : ByteArray) (j : Nat) (hj : j < s.data.size) : (lentTo s 0)[j]! = s.data[j] := app_front _ _ j hj
theorem lent_back (s : ByteArray) (j : Nat) (h1 : s.data.size ≤ j) (h2 : j < s.data.size + 160) : (lentTo s 0)[j]! = 0 := by
  rw [lentTo, app_back _ _ j h1 (by rw [Array.size_replicate]; exact h2), rep_at _ _ (by omega)]
theorem holds_lent0 (s : ByteArray) (n : Nat) (hn : s.size + 160 = n) (h : Holds encB w b 0 (Array.replicate n (0 : UInt8))) :
    Holds encB (w.setCells b 0 (s.data.toList.map fun x => Value.int .u8 (x.toNat : Int))) b 0 (lentTo s 0) := by
  have hl : s.data.size = s.size := rfl
  refine Holds.setCells (o := 0) (p := 0) h _ (by rw [lentTo_size, Array.size_replicate, hn]) (by rw [List.length_map, Array.length_toList, Array.size_replicate]; omega) (fun j hj => ?_) (fun j hj hout => ?_)
  · rw [List.length_map, Array.length_toList] at hj
    rw [Nat.zero_add, lent_front s j hj, List.getElem_map, Array.getElem_toList]
    rfl
  · rw [Array.size_replicate] at hj
    rw [List.length_map, Array.length_toList] at hout
    rw [lent_back s j (by omega) (by omega), rep_at n j hj]
theorem size_of5 (P : Program) (e : TypeId) (h : (P.info? e).map (·.size) = some 1) : ∀ w, (Go.sizeOf e).run P w = .ok 1 w := by
  intro w
  cases hq : P.info? e with
  | none => simp [hq] at h
  | some i =>
    simp [hq] at h
    simp [Go.sizeOf, typeInfo, hq, h]
theorem conv_str (P : Program) (src dst e : TypeId) (hs : P.underlying src = some (.slice e)) (he : P.underlying e = some (.int .u8)) (hd : P.underlying dst = some .string)
    (w : World) (b o n cap : Nat) (bs : Bs) (hB : Holds encB w b o bs) (hn : bs.size = n) : (convert src dst (.slice (some ⟨b, o, none⟩) n cap)).run P w = .ok (.string ⟨bs⟩) w := by
  have h := run_convert_bytes_back (P := P) w src dst e ⟨b, o, none⟩ cap bs.toList hs he hd (fun j hj => by
    have hj' : j < bs.size := by simpa using hj
    have hc := (hB j hj').1
    rw [getElem!_pos bs j hj'] at hc
    have e1 : (⟨b, o, none⟩ : Addr).add j = ⟨b, o + j, none⟩ := by
      unfold Addr.add
      by_cases h0 : j = 0
      · subst h0; rfl
      · rw [if_neg h0]
    rw [e1, hc]
    simp [encB, ub])
  simpa [hn] using h
end
section
theorem slice22 : Try.prog.underlying 23 = some (.slice 5) := by kernel_rfl
theorem info5 : (Try.prog.info? 5).map (fun i => (i.zero, i.size, i.bytes)) = some (some (.int .u8 0), 1, 1) := by kernel_rfl
theorem int5 : Try.prog.underlying 5 = some (.int .u8) := by kernel_rfl
theorem str9 : Try.prog.underlying 9 = some .string := by kernel_rfl
theorem size5 : ∀ w, (Go.sizeOf 5).run Try.prog w = .ok 1 w := size_of5 Try.prog 5 (by kernel_rfl)
theorem lent_step (s : ByteArray) (k : Nat) : lentTo s (k + 1) = (lentTo s k).setIfInBounds (s.size + k) (fill (s.size + k)) := rfl
set_option maxHeartbeats 1000000 in
set_option maxRecDepth 100000 in
theorem Lent_any (s : ByteArray) (w : World) (hs : s.size ≤ 16384) :
    Calls Try.prog 4 #[.string s] w fun e w' => e = .returned (.slice (some ⟨w.heap.size, 0, none⟩) (s.size + 160) (s.size + 160)) ∧ Below w.heap.size w w' ∧ Holds encB w' w.heap.size 0 (lent s) := by
  obtain ⟨n, hn⟩ : ∃ n, s.size + 160 = n := ⟨_, rfl⟩
  have hmk := run_make_row' (P := Try.prog) 23 5 (.int .u8 0) 1 slice22 info5 rfl .i64 .i64 n (by omega) (by omega)
  rw [← hn, show ((s.size + 160 : Nat) : Int) = (s.size : Int) + 160 from by omega, hn] at hmk
  have hH0 : Holds encB (w.alloc (.cells (madeCells #[.int .u8 0] n) 5)) w.heap.size 0 (Array.replicate n 0) := Holds.made (enc := encB) w 5 n 0
  have hcp := run_copy_string (P := Try.prog) (w.alloc (.cells (madeCells #[.int .u8 0] n) 5)) 23 9 3 5 w.heap.size 0 n n s slice22 size5 (by omega)
    (fun j hj => by rw [(hH0 j (by rw [Array.size_replicate]; omega)).1]; rfl) (fun j hj => (hH0 j (by rw [Array.size_replicate]; omega)).2)
  have hH1 : Holds encB ((w.alloc (.cells (madeCells #[.int .u8 0] n) 5)).setCells w.heap.size 0 (s.data.toList.map fun x => Value.int .u8 (x.toNat : Int))) w.heap.size 0 (lentTo s 0) := by
    exact holds_lent0 s n hn hH0
  have hb1 : Below w.heap.size w ((w.alloc (.cells (madeCells #[.int .u8 0] n) 5)).setCells w.heap.size 0 (s.data.toList.map fun x => Value.int .u8 (x.toNat : Int))) :=
    below_setCells (Nat.le_refl _) _ _ _ ((Below.refl _ _).alloc (Nat.le_refl _) _)
  have hsz : w.heap.size < ((w.alloc (.cells (madeCells #[.int .u8 0] n) 5)).setCells w.heap.size 0 (s.data.toList.map fun x => Value.int .u8 (x.toNat : Int))).heap.size := by
    have := (below_setCells (B := 0) (b := w.heap.size) (Nat.zero_le _) (s.data.toList.map fun x => Value.int .u8 (x.toNat : Int)) 0 (w.alloc (.cells (madeCells #[.int .u8 0] n) 5)) (Below.refl 0 _)).size
    rw [World.size_alloc] at this
    omega
  go_enter Try.func4, Try.ntmps4
  go_wp2
  generalize World.setCells _ _ _ _ = W2 at hH1 hb1 hsz ⊢
  clear hmk hcp hH0
  have n160 : (n : Int) = (s.size : Int) + 160 := by omega
  have Hn : Hid (s.size + 160 = n) := hn
  have hnb : n ≤ 16544 := by omega
  have hsn : s.size ≤ n := by omega
  clear hn n160
  go_loopg [4] 160 (fun g s4 wr => ∃ (k : Nat) (bs : Bs), k + g = 160 ∧ s4 = .int .i64 ((s.size + k : Nat) : Int) ∧ Holds encB wr w.heap.size 0 bs ∧ Only w.heap.size 0 n W2 wr ∧ Hid (bs = lentTo s k))
  case atStart => exact ⟨0, _, rfl, rfl, hH1, Only.refl _ _ _ _, rfl⟩
  case round =>
    obtain ⟨k, bs, hk, rfl, hB, hO, HE⟩ := hrel
    have hbs : bs.size = n := by rw [HE.out, lentTo_size]; exact Hn.out
    obtain ⟨i, hi⟩ : ∃ i, s.size + k = i := ⟨_, rfl⟩
    have Hi : Hid (s.size + k = i) := hi
    rw [hi]
    clear hi
    by_cases hlt : k < 160
    · have hin : i < n := by have := Hi.out; have := Hn.out; omega
      obtain ⟨c0, f0⟩ := hB i (by omega)
      rw [Nat.zero_add] at c0 f0
      have hin' : (i : Int) < (n : Int) := by omega
      have hf := fill_int i
      go_wp2
      go_roundg (gk - 1)
      case measure => omega
      case rel =>
        refine ⟨k + 1, bs.setIfInBounds i (fill i), by omega, ?_, ?_, ?_, ?_⟩
        · rw [← Hi.out]; go_num
        · have := Holds.set hB (i := i) (by omega) (fill i)
          rw [Nat.zero_add] at this
          exact this
        · exact hO.setCell (o := i) (by omega) (by omega) _
        · show _ = lentTo s (k + 1)
          rw [lent_step, Hi.out, HE.out]
    · have hin : (n : Int) ≤ (i : Int) := by have := Hi.out; have := Hn.out; omega
      have hk0 : k = 160 := by omega
      go_wp2
      go_ret
      refine ⟨?_, hb1.trans (hO.below (by omega) (Nat.le_refl _)), ?_⟩
      · rw [Hn.out]; rfl
      · unfold lent
        rw [HE.out, hk0] at hB
        exact hB
set_option maxHeartbeats 1000000 in
set_option maxRecDepth 100000 in
theorem Still_any (b : Nat) (bs : Bs) (s : ByteArray) (w : World) (hs : s.size ≤ 16384) (hB : Holds encB w b 0 bs) (hbs : bs = lent s) :
    Calls Try.prog 7 #[.slice (some ⟨b, 0, none⟩) (s.size + 160) (s.size + 160), .string s] w fun e w' => e = .returned (.bool true) ∧ Below w.heap.size w w' := by
  have hb := Holds.lt hB (by rw [hbs, lent_size]; omega)
  go_enter Try.func7, Try.ntmps7
  go_wp2_with fail
  refine (Lent_any s _ hs).mono ?_
  rintro e w1 ⟨rfl, hb1, hL⟩
  have k1 := conv_str Try.prog 23 9 5 slice22 int5 str9 w1 b 0 (s.size + 160) (s.size + 160) _ (Holds.below hB hb1 hb) (by rw [hbs, lent_size])
  have k2 := conv_str Try.prog 23 9 5 slice22 int5 str9 w1 w.heap.size 0 (s.size + 160) (s.size + 160) _ hL (lent_size s)
  rw [hbs] at k1
  go_wp2
  go_ret
  exact ⟨rfl, hb1⟩
end
end Go.Proofs.Ytifkmkllljfeaaa
namespace Go.Proofs.Ytifkmkllljfeaaa
open Go.RowKit Go.Sort Go.Deep
/-- A text as bytes of one's own. -/
theorem conv_of (s : ByteArray) (w : World) :
    ∃ cap w', (convert 9 23 (.string s)).run Try.prog w = .ok (.slice (some ⟨w.heap.size, 0, none⟩) s.size cap) w' ∧ s.size ≤ cap ∧ Below w.heap.size w w' ∧ Holds encB w' w.heap.size 0 s.data ∧ w.heap.size < w'.heap.size := by
  have h := Lib.run_convert_string_bytes (P := Try.prog) w 9 23 5 s str9 slice22 int5
  have hcap : s.size ≤ grownCap w s.size 0 5 := by
    unfold grownCap Question.cut
    exact Nat.le_add_right _ _
  have hl : s.data.size = s.size := rfl
  refine ⟨_, _, h, hcap, ?_, ?_, by rw [Lib.bytesWorld_size]; omega⟩
  · refine ⟨?_, ?_, ?_, ?_, fun k hk => Lib.bytesWorld_at_old w 5 s k hk⟩
    · unfold Lib.bytesWorld World.freeze
      rw [if_neg (by decide)]
      rfl
    · unfold Lib.bytesWorld World.freeze
      rw [if_neg (by decide)]
      rfl
    · unfold Lib.bytesWorld World.freeze
      rw [if_neg (by decide)]
      rfl
    · rw [Lib.bytesWorld_size]; omega
  · intro j hj
    have hb := Lib.bytesWorld_at_new w 5 s
    have hsz : (Lib.bytesCells w 5 s).size = grownCap w s.size 0 5 := by
      unfold Lib.bytesCells
      rw [Array.size_append, Array.size_map, Array.size_replicate]
      omega
    have hc : (Lib.bytesCells w 5 s) = (s.data ++ Array.replicate (grownCap w s.size 0 5 - s.size) 0).map encB := by
      unfold Lib.bytesCells
      rw [Array.map_append, Array.map_replicate]
      rfl
    have hj2 : j < (s.data ++ Array.replicate (grownCap w s.size 0 5 - s.size) 0).size := by rw [Array.size_append, Array.size_replicate]; omega
    have hget : (s.data ++ Array.replicate (grownCap w s.size 0 5 - s.size) 0)[j] = s.data[j]! := by
      rw [Array.getElem_append_left hj, getElem!_pos s.data j hj]
    constructor
    · unfold World.cell?
      rw [hb]
      simp only [Nat.zero_add]
      rw [if_neg (by decide), hc, Array.getElem?_map, Array.getElem?_eq_getElem hj2, Option.map_some, hget]
    · unfold World.frozen?
      rw [hb]
      simp only [Nat.zero_add, hsz]
      simp
      omega
end Go.Proofs.Ytifkmkllljfeaaa
namespace Go.Proofs.Ytifkmkllljfeaaa
open Go.RowKit Go.Sort Go.Deep
/-- The greatest power of two below n. -/
def hf (n : Nat) : Nat := 2 ^ Nat.log2 (n - 1)
theorem hf_lt {n : Nat} (h : 2 ≤ n) : 1 ≤ hf n ∧ hf n < n ∧ n ≤ 2 * hf n := by
  unfold hf
  have h0 : n - 1 ≠ 0 := by omega
  have h1 := Nat.log2_self_le h0
  have h2 := Nat.lt_log2_self (n := n - 1)
  rw [Nat.pow_succ] at h2
  have h3 := Nat.two_pow_pos (Nat.log2 (n - 1))
  omega
def leafH (b : Bs) : Bs := SP.tagL [108, 101, 97, 102] [b.toList]
def nodeH (x y : Bs) : Bs := SP.tagL [110, 111, 100, 101] [x.toList, y.toList]
/-- What a path leads to; the path's last entry first. -/
def lead (leaf : Bs) : List Bs → Nat → Nat → Bs × Bool
  | [], n, _ => if n = 1 then (leafH leaf, true) else (#[], false)
  | e :: r, n, i => if n = 1 then (leafH leaf, false) else
    if hf n ≤ i then (nodeH e (lead leaf r (n - hf n) (i - hf n)).1, (lead leaf r (n - hf n) (i - hf n)).2) else (nodeH (lead leaf r (hf n) i).1 e, (lead leaf r (hf n) i).2)
theorem lead_hi {lb e : Bs} {r : List Bs} {n i : Nat} (h1 : ¬ n = 1) (hk : hf n ≤ i) : lead lb (e :: r) n i = (nodeH e (lead lb r (n - hf n) (i - hf n)).1, (lead lb r (n - hf n) (i - hf n)).2) := by
  rw [lead, if_neg h1, if_pos hk]
theorem lead_lo {lb e : Bs} {r : List Bs} {n i : Nat} (h1 : ¬ n = 1) (hk : ¬ hf n ≤ i) : lead lb (e :: r) n i = (nodeH (lead lb r (hf n) i).1 e, (lead lb r (hf n) i).2) := by
  rw [lead, if_neg h1, if_neg hk]
section
variable {P : Program} {ops : Array Oper} {rest : List Oper} {op : Oper} {a : Act} {w : World} {Q : Exit → Act → World → Prop}
theorem wpList_idx (v : Value) (hgd : op.guard = none) (c : Value) (t : Tmp) (T : TypeId) (ho : op.op = .index T (.const c) (.tmp t)) (hr : (Instr.index T c (a.eval (.tmp t))).run P w = .ok v w) (h : wpList P ops Q rest (a.put op.dst v) w) : wpList P ops Q (op :: rest) a w :=
  wpList_plain hgd fun K hK => by
    unfold Oper.wp
    have : (execOp a.eval op).run P w = .ok (.value v) w := by
      unfold execOp
      rw [ho]
      show ((Instr.index T c (a.eval (.tmp t))) >>= fun v => pure (Next.value v)).run P w = _
      rw [Sem.run_bind, hr]
      rfl
    rw [this]
    exact hK _ _ h
end
theorem idx_run (s : ByteArray) (y n : Nat) (hy : y < s.size) (hn : ((s[y]'hy).toNat) = n) (w : World) : (Instr.index 9 (.string s) (.int .u8 (y : Int))).run Try.prog w = .ok (.int .u8 (n : Int)) w := by
  rw [run_index_string (t := 9) (s := s) (k := .u8) (i := (y : Int)) (h := str9)]
  subst hn
  simp [hy]
end Go.Proofs.Ytifkmkllljfeaaa
set_option linter.unusedVariables false
set_option linter.unusedSimpArgs false
namespace Go.Proofs.Ytifkmkllljfeaaa.RG
open Go Go.RowKit
/-- A value, or the address of one of the call's own blocks. -/
inductive SV where
  | v (x : Value)
  | p (b o : Nat)
  | s (b n c : Nat)
  | t (b n c : Nat) (y : Value)
def SV.at (μ : Nat → Nat) : SV → Value
  | .v x => x
  | .p b o => .pointer (some ⟨μ b, o, none⟩)
  | .s b n c => .slice (some ⟨μ b, 0, none⟩) n c
  | .t b n c y => .tuple #[.slice (some ⟨μ b, 0, none⟩) n c, y]
def SV.blk : SV → Option Nat
  | .v _ => none
  | .p b _ => some b
  | .s b _ _ => some b
  | .t b _ _ _ => some b
theorem SV.at_congr {μ ν : Nat → Nat} {s : SV} (h : ∀ b, s.blk = some b → μ b = ν b) : s.at μ = s.at ν := by
  cases s with
  | v x => rfl
  | p b o => show Value.pointer (some ⟨μ b, o, none⟩) = .pointer (some ⟨ν b, o, none⟩); rw [h b rfl]
  | s b n c => show Value.slice (some ⟨μ b, 0, none⟩) n c = .slice (some ⟨ν b, 0, none⟩) n c; rw [h b rfl]
  | t b n c y => show Value.tuple #[.slice (some ⟨μ b, 0, none⟩) n c, y] = .tuple #[.slice (some ⟨ν b, 0, none⟩) n c, y]; rw [h b rfl]
inductive Kind where
  | stay
  | pass
  | call
  | make (b : Nat)
  | put (b : Nat)
/-- What an operation of a region does; 'need': slots, and the operations that fill them. -/
structure It where
  dst : Option Tmp
  need : List (Tmp × Nat)
  out : SV
  kind : Kind
/-- A block: what lies in it, what is stored into it, which operation makes it and which stores into it. -/
structure Bl where
  before : List Value
  after : List Value
  al : Option Nat
  st : Option Nat
def on (L : Array Bool) (i : Nat) : Bool := L.getD i false
def Bl.live (e : Bl) (L : Array Bool) : Bool := (e.al.map (on L)).getD true
def Bl.put (e : Bl) (L : Array Bool) : Bool := (e.st.map (on L)).getD false
def Bl.now (e : Bl) (L : Array Bool) : List Value := if e.put L = true then e.after else e.before
theorem on_set {L : Array Bool} {i j : Nat} (h : i < L.size) : on (L.setIfInBounds i true) j = (on L j || i == j) := by
  unfold on
  simp only [Array.getD_eq_getD_getElem?, Array.getElem?_setIfInBounds]
  by_cases hij : i = j
  · subst hij; simp [h]
  · simp [hij]
theorem live_set {e : Bl} {L : Array Bool} {i : Nat} (h : i < L.size) : e.live (L.setIfInBounds i true) = (e.live L || e.al == some i) := by
  unfold Bl.live
  cases ha : e.al with
  | none => rfl
  | some j =>
    show on _ j = (on L j || _)
    rw [on_set h]
    by_cases hij : i = j
    · subst hij; simp
    · have h1 : (i == j) = false := by simpa using hij
      have h2 : (some j == some i) = false := by simpa using fun h => hij h.symm
      rw [h1, h2]
theorem put_set {e : Bl} {L : Array Bool} {i : Nat} (h : i < L.size) : e.put (L.setIfInBounds i true) = (e.put L || e.st == some i) := by
  unfold Bl.put
  cases ha : e.st with
  | none => rfl
  | some j =>
    show on _ j = (on L j || _)
    rw [on_set h]
    by_cases hij : i = j
    · subst hij; simp
    · have h1 : (i == j) = false := by simpa using hij
      have h2 : (some j == some i) = false := by simpa using fun h => hij h.symm
      rw [h1, h2]
theorem range_below {B k o : Nat} {w w' : World} {cs : List Value} (h : w.rangeAt k o cs) (hb : Below B w w') (hk : k < B) : w'.rangeAt k o cs := fun j v hv => by
  rw [hb.cell (p := ⟨k, o + j, none⟩) hk]; exact h j v hv
theorem there_below {B k o n : Nat} {w w' : World} (h : w.there k o n) (hb : Below B w w') (hk : k < B) : w'.there k o n := fun j hj => by
  rw [hb.cell (p := ⟨k, o + j, none⟩) hk, hb.frozen (p := ⟨k, o + j, none⟩) hk]; exact h j hj
theorem below_setCells {B k : Nat} {w0 : World} (hk : B ≤ k) : ∀ (vs : List Value) (o : Nat) (w : World), Below B w0 w → Below B w0 (w.setCells k o vs)
  | [], _, _, h => h
  | v :: r, o, w, h => below_setCells hk r (o + 1) _ (h.setCell (p := ⟨k, o, none⟩) hk v)
theorem setCells_size (k : Nat) : ∀ (vs : List Value) (o : Nat) (w : World), (w.setCells k o vs).heap.size = w.heap.size
  | [], _, _ => rfl
  | v :: r, o, w => by
    rw [World.setCells, setCells_size k r (o + 1)]
    simp [World.setCell]
theorem there_setCells {k b o n : Nat} : ∀ (vs : List Value) (i : Nat) (w : World), w.there b o n → (w.setCells k i vs).there b o n
  | [], _, _, h => h
  | v :: r, i, w, h => there_setCells r (i + 1) _ fun j hj => ⟨World.isSome_setCells k [v] i w _ (h j hj).1, by rw [World.frozen?_setCell]; exact (h j hj).2⟩
/-- Nothing below k0 was turned, but for the blocks of X. -/
structure BelX (k0 : Nat) (X : List Nat) (w w' : World) : Prop where
  os : w'.os = w.os
  tape : w'.tape = w.tape
  output : w'.output = w.output
  size : w.heap.size ≤ w'.heap.size
  block : ∀ j, j < k0 → j ∉ X → w'.heap[j]? = w.heap[j]?
theorem BelX.below {k0 : Nat} {w w' : World} (h : BelX k0 [] w w') : Below k0 w w' := ⟨h.os, h.tape, h.output, h.size, fun j hj => h.block j hj List.not_mem_nil⟩
theorem BelX.drew {k0 : Nat} {X : List Nat} {w w' : World} (h : BelX k0 X w w') : BelX k0 X w w'.drew := ⟨h.os, h.tape, h.output, h.size, h.block⟩
theorem BelX.refl (k0 : Nat) (X : List Nat) (w : World) : BelX k0 X w w := ⟨rfl, rfl, rfl, Nat.le_refl _, fun _ _ _ => rfl⟩
theorem BelX.trans {k0 : Nat} {X : List Nat} {a b c : World} (h : BelX k0 X a b) (k : BelX k0 X b c) : BelX k0 X a c :=
  ⟨k.os.trans h.os, k.tape.trans h.tape, k.output.trans h.output, Nat.le_trans h.size k.size, fun i hi hx => (k.block i hi hx).trans (h.block i hi hx)⟩
/-- What is known of the world, where the operations of L are done. -/
structure Wd (w0 : World) (k0 : Nat) (X : List Nat) (bl : List Bl) (L : Array Bool) (μ : Nat → Nat) (w : World) : Prop where
  bel : BelX k0 X w0 w
  le : k0 ≤ w.heap.size
  has : ∀ (b : Nat) (e : Bl), bl[b]? = some e → e.live L = true → w.rangeAt (μ b) 0 (e.now L) ∧ w.there (μ b) 0 e.before.length ∧ μ b < w.heap.size ∧ (k0 ≤ μ b ∨ μ b ∈ X)
  inj : ∀ (b c : Nat) (e f : Bl), bl[b]? = some e → bl[c]? = some f → e.live L = true → f.live L = true → b ≠ c → μ b ≠ μ c
variable {w0 w w' : World} {k0 : Nat} {X : List Nat} {bl : List Bl} {L : Array Bool} {μ : Nat → Nat}
theorem Wd.drew (h : Wd w0 k0 X bl L μ w) : Wd w0 k0 X bl L μ w.drew := ⟨h.bel.drew, h.le, h.has, h.inj⟩
theorem Wd.same {L' : Array Bool} (h : Wd w0 k0 X bl L μ w) (hl : ∀ (b : Nat) (e : Bl), bl[b]? = some e → e.live L' = e.live L ∧ e.put L' = e.put L) : Wd w0 k0 X bl L' μ w := by
  refine ⟨h.bel, h.le, fun b e hb hv => ?_, fun b c e f hb hc he hf => h.inj b c e f hb hc ((hl b e hb).1 ▸ he) ((hl c f hc).1 ▸ hf)⟩
  have := h.has b e hb ((hl b e hb).1 ▸ hv)
  unfold Bl.now at this ⊢
  rw [(hl b e hb).2]
  exact this
theorem Wd.call (h : Wd w0 k0 X bl L μ w) (hb : Below w.heap.size w w') : Wd w0 k0 X bl L μ w' := by
  refine ⟨h.bel.trans ⟨hb.os, hb.tape, hb.output, hb.size, fun k hk _ => hb.block k (Nat.lt_of_lt_of_le hk h.le)⟩, Nat.le_trans h.le hb.size, fun b e hbe hv => ?_, h.inj⟩
  obtain ⟨h1, h2, h3, h4⟩ := h.has b e hbe hv
  exact ⟨range_below h1 hb h3, there_below h2 hb h3, Nat.lt_of_lt_of_le h3 hb.size, h4⟩
def upd (μ : Nat → Nat) (b k : Nat) : Nat → Nat := fun c => if c = b then k else μ c
/-- A new block k; there lies c; nothing that was there was turned. -/
structure Made (w : World) (k : Nat) (c : List Value) (w' : World) : Prop where
  bel : Below w.heap.size w w'
  le : w.heap.size ≤ k
  lt : k < w'.heap.size
  range : w'.rangeAt k 0 c
  there : w'.there k 0 c.length
theorem Made.alloc (w : World) (c : List Value) (t : TypeId) : Made w w.heap.size c (w.alloc (.cells c.toArray t)) := by
  refine ⟨below1 w _, Nat.le_refl _, by rw [World.size_alloc]; omega, fun j v hj => ?_, fun j hj => ⟨?_, World.frozen?_alloc_new _ _ _ _⟩⟩
  · rw [Nat.zero_add, World.cell?_alloc_new]
    simpa using hj
  · rw [Nat.zero_add, World.cell?_alloc_new]
    simp [hj]
theorem Wd.make {i b k : Nat} {e : Bl} (h : Wd w0 k0 X bl L μ w) (hi : i < L.size) (hb : bl[b]? = some e) (ha : e.al = some i) (hne : ∀ (c : Nat) (f : Bl), bl[c]? = some f → c ≠ b → f.al ≠ some i)
    (hst : ∀ (c : Nat) (f : Bl), bl[c]? = some f → f.st ≠ some i) (hp : e.put L = false) (hm : Made w k e.before w') :
    Wd w0 k0 X bl (L.setIfInBounds i true) (upd μ b k) w' := by
  have hput : ∀ (c : Nat) (f : Bl), bl[c]? = some f → f.put (L.setIfInBounds i true) = f.put L := fun c f hc => by
    rw [put_set hi, show (f.st == some i) = false by simpa using hst c f hc, Bool.or_false]
  have hliv : ∀ (c : Nat) (f : Bl), bl[c]? = some f → c ≠ b → f.live (L.setIfInBounds i true) = f.live L := fun c f hc hcb => by
    rw [live_set hi, show (f.al == some i) = false by simpa using hne c f hc hcb, Bool.or_false]
  have hold : ∀ (c : Nat) (f : Bl), bl[c]? = some f → c ≠ b → f.live (L.setIfInBounds i true) = true → μ c < w.heap.size := fun c f hc hcb hv => (h.has c f hc (hliv c f hc hcb ▸ hv)).2.2.1
  have hal := hm.bel
  have hmk := hm.le
  refine ⟨h.bel.trans ⟨hal.os, hal.tape, hal.output, hal.size, fun k hk _ => hal.block k (Nat.lt_of_lt_of_le hk h.le)⟩, Nat.le_trans h.le hal.size, fun c f hc hv => ?_, fun c d f g hc hd hf hg hcd => ?_⟩
  · by_cases hcb : c = b
    · subst hcb
      rw [hb] at hc
      obtain rfl : e = f := Option.some.inj hc
      have hn : e.now (L.setIfInBounds i true) = e.before := by unfold Bl.now; rw [hput c e hb, hp]; rfl
      rw [hn]
      unfold upd
      rw [if_pos rfl]
      exact ⟨hm.range, hm.there, hm.lt, Or.inl (Nat.le_trans h.le hmk)⟩
    · obtain ⟨h1, h2, h3, h4⟩ := h.has c f hc (hliv c f hc hcb ▸ hv)
      unfold upd
      rw [if_neg hcb]
      have hn : f.now (L.setIfInBounds i true) = f.now L := by unfold Bl.now; rw [hput c f hc]
      rw [hn]
      exact ⟨range_below h1 hal h3, there_below h2 hal h3, Nat.lt_of_lt_of_le h3 hal.size, h4⟩
  · unfold upd
    by_cases hcb : c = b
    · subst hcb
      rw [if_pos rfl, if_neg (fun h => hcd h.symm)]
      exact Nat.ne_of_gt (Nat.lt_of_lt_of_le (hold d g hd (fun h => hcd h.symm) hg) hmk)
    · by_cases hdb : d = b
      · subst hdb
        rw [if_pos rfl, if_neg hcb]
        exact Nat.ne_of_lt (Nat.lt_of_lt_of_le (hold c f hc hcb hf) hmk)
      · rw [if_neg hcb, if_neg hdb]
        exact h.inj c d f g hc hd (hliv c f hc hcb ▸ hf) (hliv d g hd hdb ▸ hg) hcd
/-- Of what was there, block k alone was written; there lies cs now. -/
structure PutTo (k n : Nat) (cs : List Value) (w w' : World) : Prop where
  os : w'.os = w.os
  tape : w'.tape = w.tape
  output : w'.output = w.output
  size : w.heap.size ≤ w'.heap.size
  block : ∀ j, j < w.heap.size → j ≠ k → w'.heap[j]? = w.heap[j]?
  range : w'.rangeAt k 0 cs
  there : w'.there k 0 n
theorem setCells_other (k : Nat) : ∀ (vs : List Value) (o : Nat) (w : World) (j : Nat), j ≠ k → (w.setCells k o vs).heap[j]? = w.heap[j]?
  | [], _, _, _, _ => rfl
  | v :: r, o, w, j, h => by
    rw [World.setCells, setCells_other k r (o + 1) _ j h, Below.heap_setCell _ _ _ _ h]
theorem setCells_os (k : Nat) : ∀ (vs : List Value) (o : Nat) (w : World), (w.setCells k o vs).os = w.os ∧ (w.setCells k o vs).tape = w.tape ∧ (w.setCells k o vs).output = w.output
  | [], _, _ => ⟨rfl, rfl, rfl⟩
  | v :: r, o, w => by rw [World.setCells]; exact setCells_os k r (o + 1) _
/-- A store of some cells into a block. -/
theorem PutTo.store {k n o : Nat} {before after vs : List Value} (ht : w.there k 0 n) (hr : w.rangeAt k 0 before) (hl : o + vs.length ≤ n) (ha : ∀ j, after[j]? = if o ≤ j ∧ j < o + vs.length then vs[j - o]? else before[j]?) : PutTo k n after w (w.setCells k o vs) := by
  obtain ⟨h1, h2, h3⟩ := setCells_os k vs o w
  refine ⟨h1, h2, h3, by rw [setCells_size]; exact Nat.le_refl _, fun j _ hj => setCells_other k vs o w j hj, fun j v hv => ?_, there_setCells _ _ _ ht⟩
  have hto : w.there k o vs.length := fun j hj => by have := ht (o + j) (by omega); rwa [Nat.zero_add] at this
  rw [ha j] at hv
  rw [Nat.zero_add]
  by_cases hj : o ≤ j ∧ j < o + vs.length
  · rw [if_pos hj] at hv
    have := World.rangeAt_setCells_same w k o vs hto (j - o) v hv
    rwa [show o + (j - o) = j by omega] at this
  · rw [if_neg hj] at hv
    have h5 : w.rangeAt k j [v] := fun i u hu => by
      cases i with
      | zero =>
        obtain rfl : v = u := by simpa using hu
        have := hr j v hv
        rwa [Nat.zero_add] at this
      | succ i => simp at hu
    have h6 := World.rangeAt_setCells_apart h5 k o vs (Or.inr (by simp only [List.length_cons, List.length_nil]; omega))
    have := h6 0 v rfl
    exact this
theorem PutTo.whole {k : Nat} {before after : List Value} (ht : w.there k 0 before.length) (hr : w.rangeAt k 0 before) (hl : after.length = before.length) : PutTo k before.length after w (w.setCells k 0 after) :=
  PutTo.store ht hr (by omega) (fun j => by
    by_cases hj : 0 ≤ j ∧ j < 0 + after.length
    · rw [if_pos hj]; rfl
    · rw [if_neg hj, List.getElem?_eq_none (by omega), List.getElem?_eq_none (by omega)])
theorem Wd.put {i b : Nat} {e : Bl} (h : Wd w0 k0 X bl L μ w) (hi : i < L.size) (hb : bl[b]? = some e) (hs : e.st = some i) (hv : e.live L = true) (hp : PutTo (μ b) e.before.length e.after w w')
    (hne : ∀ (c : Nat) (f : Bl), bl[c]? = some f → c ≠ b → f.st ≠ some i) (hal : ∀ (c : Nat) (f : Bl), bl[c]? = some f → f.al ≠ some i) :
    Wd w0 k0 X bl (L.setIfInBounds i true) μ w' := by
  have hliv : ∀ (c : Nat) (f : Bl), bl[c]? = some f → f.live (L.setIfInBounds i true) = f.live L := fun c f hc => by
    rw [live_set hi, show (f.al == some i) = false by simpa using hal c f hc, Bool.or_false]
  obtain ⟨g1, g2, g3, g4⟩ := h.has b e hb hv
  have hle := h.le
  refine ⟨h.bel.trans ⟨hp.os, hp.tape, hp.output, hp.size, fun j hj hx => hp.block j (by omega) (fun e => g4.elim (fun h => by omega) (fun h => hx (e ▸ h)))⟩, Nat.le_trans h.le hp.size, fun c f hc hvc => ?_, fun c d f g hc hd hf hg => h.inj c d f g hc hd (hliv c f hc ▸ hf) (hliv d g hd ▸ hg)⟩
  rw [hliv c f hc] at hvc
  obtain ⟨h1, h2, h3, h4⟩ := h.has c f hc hvc
  by_cases hcb : c = b
  · subst hcb
    rw [hb] at hc
    obtain rfl : e = f := Option.some.inj hc
    have hn : e.now (L.setIfInBounds i true) = e.after := by
      unfold Bl.now
      rw [put_set hi, hs]
      simp
    rw [hn]
    exact ⟨hp.range, hp.there, Nat.lt_of_lt_of_le h3 hp.size, h4⟩
  · have hn : f.now (L.setIfInBounds i true) = f.now L := by
      unfold Bl.now
      rw [put_set hi, show (f.st == some i) = false by simpa using hne c f hc hcb, Bool.or_false]
    rw [hn]
    have hsame := hp.block (μ c) h3 (h.inj c b f e hc hb hvc hv hcb)
    refine ⟨fun j v hj => ?_, fun j hj => ?_, Nat.lt_of_lt_of_le h3 hp.size, h4⟩
    · rw [World.cell?_of_block (w := w) (a := ⟨μ c, 0 + j, none⟩) hsame]; exact h1 j v hj
    · rw [World.cell?_of_block (w := w) (a := ⟨μ c, 0 + j, none⟩) hsame, World.frozen?_of_block (w := w) (a := ⟨μ c, 0 + j, none⟩) hsame]; exact h2 j hj
end Go.Proofs.Ytifkmkllljfeaaa.RG
namespace Go.Proofs.Ytifkmkllljfeaaa
open Go.RowKit Go.Sort Go.Deep
theorem part_tag {w : World} {r : Nat} {l : List UInt8} {ps : List (List UInt8)} (h : Holds encB w r 0 (SP.tagL l ps)) : SP.PartOk w (.slice (some ⟨r, 0, none⟩) 32 32) (SP.tagL l ps).toList :=
  ⟨_, r, 0, 32, SP.tagL l ps, by rw [SP.tagL_size], rfl, by rw [SP.tagL_size]; exact Nat.le_refl _, by rw [SP.tagL_size]; decide, Or.inr ⟨rfl, h⟩⟩
theorem results_ttt2 {P : Program} {w : World} {fn : Func} {a : Act} (t u x : Tmp) (hr : fn.results = #[.tmp t, .tmp u, .tmp x]) (v v' v'' : Value) (ht : a.tmps[t]? = some v) (hu : a.tmps[u]? = some v') (hx : a.tmps[x]? = some v'') : (results fn a.tmps).run P w = .ok (.tuple #[v, v', v'']) w := by
  have h2 : a.tmps.getD t undef = v := by rw [Array.getD_eq_getD_getElem?, ht]; rfl
  have h3 : a.tmps.getD u undef = v' := by rw [Array.getD_eq_getD_getElem?, hu]; rfl
  have h4 : a.tmps.getD x undef = v'' := by rw [Array.getD_eq_getD_getElem?, hx]; rfl
  unfold results
  rw [hr]
  simp only [Array.mapM_eq_mapM_toList, List.mapM_cons, List.mapM_nil, h2, h3, h4]
  simp [Sem.run_bind]
/-- Bytes that are answered: in a slice. -/
def PartS (w : World) (v : Value) (b : List UInt8) : Prop := (∃ q n c, v = .slice q n c) ∧ SP.PartOk w v b
/-- Lists of bytes in a row of cells. -/
def Lists (w : World) (q : Option Addr) (n : Nat) (S : Nat → Bs) : Prop := 0 < n → ∃ gg oo, q = some ⟨gg, oo, none⟩ ∧ gg < w.heap.size ∧ ∀ j, j < n → ∃ v, w.cell? ⟨gg, oo + j, none⟩ = some v ∧ PartS w v (S j).toList
theorem Lists.below {w w1 : World} {q : Option Addr} {n : Nat} {S : Nat → Bs} (h : Lists w q n S) (hb : Below w.heap.size w w1) : Lists w1 q n S := fun hn => by
  obtain ⟨gg, oo, h1, h2, h3⟩ := h hn
  refine ⟨gg, oo, h1, Nat.lt_of_lt_of_le h2 hb.size, fun j hj => ?_⟩
  obtain ⟨v, h4, h5⟩ := h3 j hj
  exact ⟨v, by rw [hb.cell (p := ⟨gg, oo + j, none⟩) h2]; exact h4, h5.1, h5.2.below hb⟩
theorem Lists.less {w : World} {q : Option Addr} {n m : Nat} {S : Nat → Bs} (h : Lists w q n S) (hm : m ≤ n) : Lists w q m S := fun hn => by
  obtain ⟨gg, oo, h1, h2, h3⟩ := h (by omega)
  exact ⟨gg, oo, h1, h2, fun j hj => h3 j (by omega)⟩
/-- The first m entries, the last first. -/
def revL (S : Nat → Bs) : Nat → List Bs
  | 0 => []
  | m + 1 => S m :: revL S m
theorem Hid.mk2 {p : Prop} (h : p) : Hid p := h
theorem part_nil2 (w : World) : SP.PartOk w (.slice none 0 0) (#[] : Bs).toList := ⟨none, 0, 0, 0, #[], rfl, rfl, Nat.le_refl _, by decide, Or.inl rfl⟩
theorem wr64 {n : Int} (h0 : 0 ≤ n) (h1 : n < 9223372036854775808) : wrap64 n = n := by unfold wrap64; omega
end Go.Proofs.Ytifkmkllljfeaaa
namespace Go.Proofs.Ytifkmkllljfeaaa
open Go.RowKit Go.Sort Go.Deep
/-- A number as four bytes. -/
def num4 (n : Nat) : Bs := #[SP.lenB n 16777216, SP.lenB n 65536, SP.lenB n 256, SP.lenB n 1]
def childH (k : Bs) (n : Nat) : Bs := SP.tagL [99, 104, 105, 108, 100] [k.toList, (num4 n).toList]
def keyH (k : Bs) (l : List UInt8) : Bs := SP.tagL [107, 101, 121] [k.toList, l]
/-- What is derived from a seed, number by number. -/
def downH (S : Nat → Nat) (k : Bs) : Nat → Bs
  | 0 => k
  | j + 1 => childH (downH S k j) (S j)
theorem downH_size (S : Nat → Nat) (k : Bs) (h : k.size = 32) : ∀ j, (downH S k j).size = 32
  | 0 => h
  | j + 1 => by rw [downH]; exact SP.tagL_size _ _
def derH (S : Nat → Nat) (k : Bs) (n : Nat) (l : List UInt8) : Bs := keyH (downH S k n) l
set_option maxHeartbeats 1000000 in
theorem numeral_c (n : Nat) (hn : n < 4294967296) (w : World) : Calls Try.prog 22 #[.int .u32 (n : Int)] w (Ret fun e w' => Below w.heap.size w w' ∧ ∃ r, e = .slice (some ⟨r, 0, none⟩) 4 4 ∧ Holds encB w' r 0 (num4 n)) := by
  have b00 : (n : Int) / 16777216 % 256 = SP.ub (SP.lenB n 16777216) := SP.lenB_int n 16777216
  have b0 : (n : Int) / 16777216 = SP.ub (SP.lenB n 16777216) := by omega
  clear b00
  have b1 : (n : Int) / 65536 % 256 = SP.ub (SP.lenB n 65536) := SP.lenB_int n 65536
  have b2 : (n : Int) / 256 % 256 = SP.ub (SP.lenB n 256) := SP.lenB_int n 256
  have b3 : (n : Int) % 256 = SP.ub (SP.lenB n 1) := SP.lenB_one n
  have h4 := SP.holds_four w (SP.lenB n 16777216) (SP.lenB n 65536) (SP.lenB n 256) (SP.lenB n 1)
  have HN : Hid (num4 n = #[SP.lenB n 16777216, SP.lenB n 65536, SP.lenB n 256, SP.lenB n 1]) := rfl
  generalize SP.lenB n 16777216 = x0 at *
  generalize SP.lenB n 65536 = x1 at *
  generalize SP.lenB n 256 = x2 at *
  generalize SP.lenB n 1 = x3 at *
  have hb0 : Below w.heap.size w (w.alloc (.cells #[.int .u8 (SP.ub x0), .int .u8 (SP.ub x1), .int .u8 (SP.ub x2), .int .u8 (SP.ub x3)] 5)) := (Below.refl _ _).alloc (Nat.le_refl _) _
  go_enter Try.func22, Try.ntmps22
  go_wp2
  go_ret
  refine ⟨_, rfl, hb0, _, rfl, ?_⟩
  rw [HN.out]
  exact h4
/-- Numbers in a row of cells. -/
def NumsK (w : World) (q : Option Addr) (n : Nat) (S : Nat → Nat) : Prop := (∀ j, j < n → S j < 4294967296) ∧ (0 < n → ∃ gg oo, q = some ⟨gg, oo, none⟩ ∧ gg < w.heap.size ∧ ∀ j, j < n → w.cell? ⟨gg, oo + j, none⟩ = some (.int .u32 (S j : Int)))
theorem NumsK.below {w w1 : World} {q : Option Addr} {n : Nat} {S : Nat → Nat} (h : NumsK w q n S) (hb : Below w.heap.size w w1) : NumsK w1 q n S := ⟨h.1, fun hn => by
  obtain ⟨gg, oo, h1, h2, h3⟩ := h.2 hn
  exact ⟨gg, oo, h1, Nat.lt_of_lt_of_le h2 hb.size, fun j hj => by rw [hb.cell (p := ⟨gg, oo + j, none⟩) h2]; exact h3 j hj⟩⟩
theorem part_4 {w : World} {r n : Nat} (h : Holds encB w r 0 (num4 n)) : SP.PartOk w (.slice (some ⟨r, 0, none⟩) 4 4) (num4 n).toList :=
  ⟨_, r, 0, 4, num4 n, rfl, rfl, Nat.le_refl _, Nat.le_of_ble_eq_true rfl, Or.inr ⟨rfl, h⟩⟩
/-- Tag of two parts that lie in a new row. -/
theorem tag2 (lab : ByteArray) (hlab : lab.size ≤ 1048576) (q q' : Option Addr) (n c n' c' : Nat) (x y : List UInt8) (w : World) (hv : SP.PartOk w (.slice q n c) x) (hv' : SP.PartOk w (.slice q' n' c') y) :
    Calls Try.prog 21 #[.string lab, .slice (some ⟨w.heap.size, 0, none⟩) 2 2] (w.alloc (.cells #[.slice q n c, .slice q' n' c'] 23)) fun e w' => ∃ r, e = .returned (.slice (some ⟨r, 0, none⟩) 32 32) ∧ w.heap.size ≤ r ∧ Below w.heap.size w w' ∧ Holds encB w' r 0 (SP.tagL lab.data.toList [x, y]) := by
  have hM := RG.Made.alloc w [.slice q n c, .slice q' n' c'] 23
  refine (SP.Tag_any lab (some ⟨w.heap.size, 0, none⟩) 2 [x, y] _ hlab (Nat.le_of_ble_eq_true rfl) (Or.inr ⟨_, _, rfl, fun j hj => ?_⟩)).mono ?_
  · have hj2 : j = 0 ∨ j = 1 := by simp at hj; omega
    rcases hj2 with rfl | rfl
    · exact ⟨_, hM.range 0 _ rfl, hv.below hM.bel⟩
    · exact ⟨_, hM.range 1 _ rfl, hv'.below hM.bel⟩
  · rintro e w2 ⟨r, rfl, hr, hb, hH⟩
    have hs := hM.bel.size
    exact ⟨r, rfl, Nat.le_trans hs hr, hM.bel.trans (hb.mono hs), hH⟩
set_option maxHeartbeats 2000000 in
theorem derived_c (sq : Option Addr) (sn sc : Nat) (k : Bs) (lab : ByteArray) (hlab : lab.size ≤ 65536) (q : Option Addr) (n c : Nat) (S : Nat → Nat) (w : World) (hn : n ≤ 1048576) (hk : SP.PartOk w (.slice sq sn sc) k.toList) (hN : NumsK w q n S) :
    Calls Try.prog 11 #[.slice sq sn sc, .string lab, .slice q n c] w (Ret fun e w' => Below w.heap.size w w' ∧ ∃ r, e = .slice (some ⟨r, 0, none⟩) 32 32 ∧ w.heap.size ≤ r ∧ Holds encB w' r 0 (derH S k n lab.data.toList)) := by
  have HN : Hid (NumsK w q n S) := hN
  have HK : Hid (PartS w (.slice sq sn sc) (downH S k 0).toList) := ⟨⟨_, _, _, rfl⟩, hk⟩
  clear hN hk
  go_enter Try.func11, Try.ntmps11
  go_wp2
  go_loopg [7, 13] n (fun g s7 s13 W => ∃ (i : Nat) (v : Value), i + g = n ∧ v = s7 ∧ s13 = .int .i64 (i : Int) ∧ Hid (Below w.heap.size w W ∧ PartS W v (downH S k i).toList))
  case atStart => exact ⟨0, _, by omega, rfl, rfl, Below.refl _ _, HK.out⟩
  case round =>
    obtain ⟨i, v, him, rfl, rfl, HB⟩ := hrel
    obtain ⟨vq, vn, vc, rfl⟩ := HB.out.2.1
    by_cases hi : i < n
    · have hi' : (i : Int) < (n : Int) := by omega
      obtain ⟨gg, oo, rfl, hgg, hc⟩ := HN.out.2 (by omega)
      have hv : wr.cell? ⟨gg, oo + i, none⟩ = some (.int .u32 (S i : Int)) := by rw [HB.out.1.cell (p := ⟨gg, oo + i, none⟩) hgg]; exact hc i hi
      have hix : ∀ w : World, (Instr.indexAt 22 (.slice (some ⟨gg, oo, none⟩) n c) (.int .i64 (i : Int))).run Try.prog w = .ok (.pointer (some ⟨gg, oo + i, none⟩)) w := fun w => by
        have h1 : ¬ (i : Int) < 0 := by omega
        have h2 : (i : Int) < (n : Int) := by omega
        go_simp
      have hnu := numeral_c (S i) (HN.out.1 i hi) wr
      have HD : Hid (childH (downH S k i) (S i) = downH S k (i + 1)) := rfl
      clear hc hgg
      generalize S i = x at hv hnu HD
      go_wp2_with fail
      refine hnu.mono ?_
      rintro e w2 ⟨v2, rfl, hb2, r2, rfl, hH2⟩
      have hT := tag2 ⟨#[99, 104, 105, 108, 100]⟩ (by decide) vq (some ⟨r2, 0, none⟩) vn vc 4 4 _ _ w2 (HB.out.2.2.below hb2) (part_4 hH2)
      have K2 : Hid (Below w.heap.size w w2) := HB.out.1.trans (hb2.mono HB.out.1.size)
      clear hb2 hH2 hnu
      go_wp2_with fail
      refine hT.mono ?_
      rintro e w3 ⟨r3, rfl, hr3, hb3, hH3⟩
      have K3 : Hid (Below w.heap.size w w3 ∧ PartS w3 (.slice (some ⟨r3, 0, none⟩) 32 32) (downH S k (i + 1)).toList) := by
        refine ⟨K2.out.trans (hb3.mono K2.out.size), ⟨_, _, _, rfl⟩, ?_⟩
        rw [← HD.out]
        exact part_tag hH3
      clear hr3 hb3 hH3 hT K2 HB
      go_wp2
      go_roundg (gk - 1)
      case measure => omega
      case rel => exact ⟨i + 1, _, by omega, rfl, rfl, K3.out⟩
    · have hi' : ¬ (i : Int) < (n : Int) := by omega
      obtain rfl : i = n := by omega
      obtain ⟨cap1, w1, hc1, hcc1, hb1, hH1, hlt1⟩ := conv_of lab wr
      have hp : SP.PartOk w1 (.slice (some ⟨wr.heap.size, 0, none⟩) lab.size cap1) lab.data.toList := ⟨_, wr.heap.size, 0, cap1, lab.data, rfl, rfl, hcc1, Nat.le_trans hlab (by decide), Or.inr ⟨rfl, hH1⟩⟩
      have hT := tag2 ⟨#[107, 101, 121]⟩ (by decide) vq _ vn vc _ _ _ _ w1 (HB.out.2.2.below hb1) hp
      have K1 : Hid (Below w.heap.size w w1) := HB.out.1.trans (hb1.mono HB.out.1.size)
      clear hb1 hH1 hlt1 hcc1 hp HB
      go_wp2_with fail
      refine hT.mono ?_
      rintro e w3 ⟨r3, rfl, hr3, hb3, hH3⟩
      have K3 : Hid (Below w.heap.size w w3 ∧ w.heap.size ≤ r3 ∧ Holds encB w3 r3 0 (derH S k i lab.data.toList)) := ⟨K1.out.trans (hb3.mono K1.out.size), Nat.le_trans K1.out.size hr3, hH3⟩
      clear hr3 hb3 hH3 hT K1
      go_wp2
      go_ret
      exact ⟨_, rfl, K3.out.1, _, rfl, K3.out.2.1, K3.out.2.2⟩
theorem derH_size (S : Nat → Nat) (k : Bs) (n : Nat) (l : List UInt8) : (derH S k n l).size = 32 := by unfold derH keyH; exact SP.tagL_size _ _
theorem isSeed_c (q : Option Addr) (n c : Nat) (w : World) : Calls Try.prog 10 #[.slice q n c] w fun e w' => e = .returned (.bool (decide (n = 32))) ∧ w' = w := by
  by_cases h : n = 32
  · subst h
    go_enter Try.func10, Try.ntmps10
    go_wp2
    go_ret
    exact ⟨rfl, rfl⟩
  · have g1 : ¬ (n : Int) = 32 := by omega
    have g0 : ((n : Int) == 32) = false := by simpa using g1
    rw [decide_eq_false h]
    go_enter Try.func10, Try.ntmps10
    go_wp2
    go_ret
    exact ⟨rfl, rfl⟩
/-- What Derive answers: bytes and errno. -/
def kdB (S : Nat → Nat) (k : Bs) (n : Nat) (l : List UInt8) : Bs := if k.size = 32 then (if n ≤ 16 then derH S k n l else #[]) else #[]
def kdE (k : Bs) (n : Nat) : Nat := if k.size = 32 then (if n ≤ 16 then 0 else 1) else 2
set_option maxHeartbeats 1000000 in
theorem Derive_c (sq : Option Addr) (sn sc : Nat) (k : Bs) (lab : ByteArray) (hlab : lab.size ≤ 65536) (q : Option Addr) (n c : Nat) (S : Nat → Nat) (w : World) (hn : n ≤ 1048576) (hk : SP.PartOk w (.slice sq sn sc) k.toList) (hsn : sn = k.size) (hN : NumsK w q n S) :
    Calls Try.prog 5 #[.slice sq sn sc, .string lab, .slice q n c] w (Ret fun e w' => Below w.heap.size w w' ∧ ((¬ (k.size = 32 ∧ n ≤ 16) ∧ e = .tuple #[.slice none 0 0, .int .i64 (kdE k n : Int)]) ∨ ((k.size = 32 ∧ n ≤ 16) ∧ ∃ r, e = .tuple #[.slice (some ⟨r, 0, none⟩) 32 32, .int .i64 0] ∧ w.heap.size ≤ r ∧ Holds encB w' r 0 (derH S k n lab.data.toList)))) := by
  have hs := isSeed_c sq sn sc w
  have hd := derived_c sq sn sc k lab hlab q n c S w hn hk hN
  clear hk hN
  have HS := Hid.mk2 hsn
  by_cases h1 : sn = 32
  · have hk32 : k.size = 32 := by omega
    clear hsn
    rw [decide_eq_true h1] at hs
    subst h1
    have HK := Hid.mk2 hk32
    clear hk32
    by_cases h2 : n ≤ 16
    · have g : ¬ (16 : Int) < (n : Int) := by omega
      go_enter Try.func5, Try.ntmps5
      go_wp2_with fail
      refine hs.mono ?_
      rintro e w' ⟨rfl, rfl⟩
      go_wp2_with fail
      refine hd.mono ?_
      rintro e w2 ⟨v2, rfl, hb2, r, rfl, hr, hH⟩
      have K : Hid (Below w'.heap.size w' w2 ∧ w'.heap.size ≤ r ∧ Holds encB w2 r 0 (derH S k n lab.data.toList)) := ⟨hb2, hr, hH⟩
      clear hb2 hr hH hd hs
      go_wp2
      go_ret2
      exact ⟨_, rfl, K.out.1, Or.inr ⟨⟨HK.out, h2⟩, _, rfl, K.out.2.1, K.out.2.2⟩⟩
    · have g : (16 : Int) < (n : Int) := by omega
      have hE : kdE k n = 1 := by unfold kdE; rw [if_pos HK.out, if_neg h2]
      clear hd
      go_enter Try.func5, Try.ntmps5
      go_wp2_with fail
      refine hs.mono ?_
      rintro e w' ⟨rfl, rfl⟩
      go_wp2
      go_ret2
      exact ⟨_, rfl, Below.refl _ _, Or.inl ⟨fun h => h2 h.2, by rw [hE]; rfl⟩⟩
  · rw [decide_eq_false h1] at hs
    have hk32 : ¬ k.size = 32 := by omega
    have hE : kdE k n = 2 := by unfold kdE; rw [if_neg hk32]
    have HK := Hid.mk2 hk32
    clear hd hsn hk32
    go_enter Try.func5, Try.ntmps5
    go_wp2_with fail
    refine hs.mono ?_
    rintro e w' ⟨rfl, rfl⟩
    go_wp2
    go_ret2
    exact ⟨_, rfl, Below.refl _ _, Or.inl ⟨fun h => HK.out h.1, by rw [hE]; rfl⟩⟩
end Go.Proofs.Ytifkmkllljfeaaa
namespace Go.Proofs.Ytifkmkllljfeaaa.RG
open Go Go.RowKit
variable {P : Program} {ops : Array Oper} {Q : Exit → Act → World → Prop} {w0 w : World} {k0 : Nat} {X : List Nat} {its : List It} {bl : List Bl} {olds : List (Tmp × SV)} {a0 : Act} {L : Array Bool} {μ μ' μ0 : Nat → Nat}
/-- What is known of the slots, where the operations of L are done. -/
structure Ac (its : List It) (bl : List Bl) (a0 : Act) (L : Array Bool) (μ : Nat → Nat) (a : Act) : Prop where
  defers : a.defers = a0.defers
  size : a.tmps.size = a0.tmps.size
  got : ∀ (i : Nat) (it : It) (d : Tmp), its[i]? = some it → on L i = true → it.dst = some d → a.tmps[d]? = some (it.out.at μ) ∧ ∀ b, it.out.blk = some b → ∃ e : Bl, bl[b]? = some e ∧ e.live L = true
  rest : ∀ t : Tmp, (∀ (i : Nat) (it : It), its[i]? = some it → on L i = true → it.dst ≠ some t) → a.tmps[t]? = a0.tmps[t]?
def depB (o : Oper) (j : Nat) : Bool := o.after.any (fun e => Region.binds .any e && e.on == j)
/-- Who fills slot t, waits for operation i. -/
def freeB (ops : Array Oper) (its : List It) (i : Nat) (t : Tmp) : Bool := its.zipIdx.all (fun x => x.1.dst != some t || (match ops[x.2]? with | some o => depB o i | none => false))
def Known (ops : Array Oper) (i : Nat) (its : List It) (olds : List (Tmp × SV)) (need : List (Tmp × Nat)) (μ : Nat → Nat) (a : Act) : Prop :=
  (∀ (t : Tmp) (j : Nat) (it : It), (t, j) ∈ need → its[j]? = some it → a.eval (.tmp t) = it.out.at μ) ∧ (∀ (t : Tmp) (s : SV), (t, s) ∈ olds → freeB ops its i t = true → a.eval (.tmp t) = s.at μ)
/-- Operation i may read the block: nothing is stored into it, or by an operation that waits for i. -/
def readB (ops : Array Oper) (i : Nat) (e : Bl) : Bool := match e.st with | none => true | some s => match ops[s]? with | some o => depB o i | none => false
def Reads (ops : Array Oper) (i : Nat) (bl : List Bl) (μ : Nat → Nat) (w : World) : Prop := ∀ (b : Nat) (e : Bl), bl[b]? = some e → (e.al = none ∨ ∃ (o : Oper) (j : Nat), ops[i]? = some o ∧ e.al = some j ∧ depB o j = true) → readB ops i e = true → w.rangeAt (μ b) 0 e.before
def Does (P : Program) (Q : Exit → Act → World → Prop) (bl : List Bl) (o : Oper) (it : It) (μ : Nat → Nat) (a : Act) (w : World) (K : Act → World → Prop) : Kind → Prop
  | .stay => K (a.put o.dst (it.out.at μ)) w → o.wp P a w K Q
  | .pass => it.out = .v undef
  | .call => (∀ w', Below w.heap.size w w' → K (a.put o.dst (it.out.at μ)) w') → o.wp P a w K Q
  | .make b => ∀ e : Bl, bl[b]? = some e → (∀ (k : Nat) (w' : World), Made w k e.before w' → K (a.put o.dst (it.out.at (upd μ b k))) w') → o.wp P a w K Q
  | .put b => ∀ e : Bl, bl[b]? = some e → w.there (μ b) 0 e.before.length → w.rangeAt (μ b) 0 e.before → (∀ w', PutTo (μ b) e.before.length e.after w w' → K (a.put o.dst (it.out.at μ)) w') → o.wp P a w K Q
/-- An operation does what its row says. -/
def Cert (P : Program) (Q : Exit → Act → World → Prop) (w0 : World) (k0 : Nat) (X : List Nat) (ops : Array Oper) (i : Nat) (its : List It) (bl : List Bl) (olds : List (Tmp × SV)) (o : Oper) (it : It) : Prop :=
  ∀ (μ : Nat → Nat) (a : Act) (w : World) (K : Act → World → Prop), Known ops i its olds it.need μ a → Reads ops i bl μ w → BelX k0 X w0 w → Does P Q bl o it μ a w K it.kind
/-- The block of an address is there: operation o waits for its making, or has the address of an operation that it waits for. -/
def liveB (its : List It) (bl : List Bl) (o : Oper) (it : It) (b : Nat) : Bool :=
  (match bl[b]? with | some e => (match e.al with | none => true | some j => depB o j) | none => false) || it.need.any (fun x => depB o x.2 && (match its[x.2]? with | some jt => jt.dst.isSome && jt.out.blk == some b | none => false))
def kindB (its : List It) (bl : List Bl) (i : Nat) (o : Oper) (it : It) : Kind → Bool
  | .stay | .pass | .call => bl.all (fun e => e.al != some i && e.st != some i) && (match it.out.blk with | none => true | some b => liveB its bl o it b)
  | .make b => (match it.out.blk with | some c => c == b | none => false) && bl.zipIdx.all (fun x => x.1.st != some i && (x.1.al == some i) == (x.2 == b)) && (bl[b]?).isSome
  | .put b => (match it.out with | .v _ => true | _ => false) && bl.zipIdx.all (fun x => x.1.al != some i && (x.1.st == some i) == (x.2 == b)) && (match bl[b]? with | some e => (match e.al with | none => true | some j => depB o j) | none => false)
def Kind.isPass : Kind → Bool
  | .pass => true
  | _ => false
def guardB (its : List It) (o : Oper) (it : It) : Bool :=
  match o.guard with
  | none => !it.kind.isPass
  | some (j, want) => depB o j && (match its[j]? with | some jt => jt.dst.isSome && (match jt.out with | .v (.bool b) => (b == want) == !it.kind.isPass | _ => false) | none => false)
def okB (its : List It) (bl : List Bl) (i : Nat) (o : Oper) (it : It) : Bool :=
  (o.dst == it.dst) && guardB its o it && o.after.all (fun e => !Region.binds .any e || e.on < i) && it.need.all (fun tj => depB o tj.2 && ((its[tj.2]?).bind (·.dst)) == some tj.1) && kindB its bl i o it it.kind
def dstB : List It → Bool
  | [] => true
  | it :: r => (match it.dst with | none => true | some d => r.all (fun jt => jt.dst != some d)) && dstB r
def oldB (bl : List Bl) (olds : List (Tmp × SV)) : Bool :=
  olds.all (fun x => (match x.2.blk with | none => true | some b => match bl[b]? with | some e => e.al.isNone | none => false))
def allB (ops : Array Oper) (its : List It) (bl : List Bl) (olds : List (Tmp × SV)) (n : Nat) : Bool :=
  ops.size == its.length && dstB its && oldB bl olds && its.all (fun it => match it.dst with | none => true | some d => d < n) &&
  (List.range its.length).all (fun i => match ops[i]?, its[i]? with | some o, some it => okB its bl i o it | _, _ => false)
theorem dst_ne : ∀ {its : List It}, dstB its = true → ∀ (i j : Nat) (it jt : It) (d : Tmp), its[i]? = some it → its[j]? = some jt → it.dst = some d → jt.dst = some d → i = j
  | [], _, i, _, _, _, _, h, _, _, _ => by simp at h
  | x :: r, h, i, j, it, jt, d, hi, hj, di, dj => by
    simp only [dstB, Bool.and_eq_true] at h
    match i, j with
    | 0, 0 => rfl
    | 0, j + 1 =>
      simp only [List.getElem?_cons_zero, Option.some.injEq] at hi
      simp only [List.getElem?_cons_succ] at hj
      subst hi
      rw [di] at h
      have := List.all_eq_true.1 h.1 jt (List.mem_of_getElem? hj)
      rw [dj] at this
      simp at this
    | i + 1, 0 =>
      simp only [List.getElem?_cons_zero, Option.some.injEq] at hj
      simp only [List.getElem?_cons_succ] at hi
      subst hj
      rw [dj] at h
      have := List.all_eq_true.1 h.1 it (List.mem_of_getElem? hi)
      rw [di] at this
      simp at this
    | i + 1, j + 1 =>
      simp only [List.getElem?_cons_succ] at hi hj
      rw [dst_ne h.2 i j it jt d hi hj di dj]
theorem live_mono {e : Bl} {i : Nat} (hi : i < L.size) (h : e.live L = true) : e.live (L.setIfInBounds i true) = true := by rw [live_set hi, h, Bool.true_or]
theorem Ac.put {a : Act} {i : Nat} {it : It} (h : Ac its bl a0 L μ a) (hd : dstB its = true) (hi : i < L.size) (hit : its[i]? = some it) (hμ : ∀ (b : Nat) (e : Bl), bl[b]? = some e → e.live L = true → μ' b = μ b)
    (hin : ∀ d, it.dst = some d → d < a0.tmps.size) (hl : ∀ d, it.dst = some d → ∀ b, it.out.blk = some b → ∃ e : Bl, bl[b]? = some e ∧ e.live (L.setIfInBounds i true) = true)
    (v : Value) (hv : ∀ d, it.dst = some d → v = it.out.at μ') : Ac its bl a0 (L.setIfInBounds i true) μ' (a.put it.dst v) := by
  have hsame : ∀ (j : Nat) (jt : It) (d : Tmp), its[j]? = some jt → on L j = true → jt.dst = some d → a.tmps[d]? = some (jt.out.at μ') ∧ ∀ b, jt.out.blk = some b → ∃ e : Bl, bl[b]? = some e ∧ e.live (L.setIfInBounds i true) = true := fun j jt d hj ho hjd => by
    obtain ⟨h1, h2⟩ := h.got j jt d hj ho hjd
    refine ⟨?_, fun b hbo => ?_⟩
    · rw [h1]
      congr 1
      refine SV.at_congr fun b hb => ?_
      obtain ⟨e, he, hl⟩ := h2 b hb
      rw [hμ b e he hl]
    · obtain ⟨e, he, hl⟩ := h2 b hbo
      exact ⟨e, he, live_mono hi hl⟩
  cases hdst : it.dst with
  | none =>
    show Ac its bl a0 _ μ' a
    refine ⟨h.defers, h.size, fun j jt d hj ho hjd => ?_, fun t ht => h.rest t fun j jt hj ho => ht j jt hj (by rw [on_set hi, ho, Bool.true_or])⟩
    rw [on_set hi] at ho
    by_cases hij : i = j
    · subst hij
      rw [hit] at hj
      obtain rfl : it = jt := Option.some.inj hj
      rw [hdst] at hjd
      cases hjd
    · exact hsame j jt d hj (by simpa [hij] using ho) hjd
  | some d0 =>
    have hd0 := hin d0 hdst
    refine ⟨h.defers, ?_, fun j jt d hj ho hjd => ?_, fun t ht => ?_⟩
    · show (a.tmps.setIfInBounds d0 v).size = _
      rw [Array.size_setIfInBounds]; exact h.size
    · show (a.tmps.setIfInBounds d0 v)[d]? = _ ∧ _
      rw [Array.getElem?_setIfInBounds]
      rw [on_set hi] at ho
      by_cases hij : i = j
      · subst hij
        rw [hit] at hj
        obtain rfl : it = jt := Option.some.inj hj
        rw [hdst] at hjd
        obtain rfl : d0 = d := Option.some.inj hjd
        rw [if_pos rfl, if_pos (by rw [h.size]; exact hd0), hv d0 hdst]
        exact ⟨rfl, hl d0 hdst⟩
      · have hne : d0 ≠ d := fun hdd => hij (dst_ne hd i j it jt d0 hit hj hdst (hdd ▸ hjd))
        rw [if_neg hne]
        exact hsame j jt d hj (by simpa [hij] using ho) hjd
    · show (a.tmps.setIfInBounds d0 v)[t]? = _
      have hne : d0 ≠ t := fun hdt => ht i it hit (by rw [on_set hi]; simp) (by rw [hdst, hdt])
      rw [Array.getElem?_setIfInBounds, if_neg hne]
      exact h.rest t fun j jt hj ho => ht j jt hj (by rw [on_set hi, ho, Bool.true_or])
structure Inv (ops : Array Oper) (its : List It) (bl : List Bl) (a0 : Act) (w0 : World) (k0 : Nat) (X : List Nat) (μ0 : Nat → Nat) (L : Array Bool) (a : Act) (w : World) : Prop where
  size : L.size = its.length
  cl : ∀ (i : Nat) (o : Oper), ops[i]? = some o → on L i = true → ∀ e ∈ o.after, Region.binds .any e = true → on L e.on = true
  all : ∃ μ, (∀ (b : Nat) (e : Bl), bl[b]? = some e → e.al = none → μ b = μ0 b) ∧ Ac its bl a0 L μ a ∧ Wd w0 k0 X bl L μ w ∧ ∀ (b : Nat) (e : Bl), bl[b]? = some e → e.put L = true → e.live L = true
theorem wanted_none {o : Oper} (h : o.guard = none) (y : Nat → Option Bool) : Region.wanted o y = true := by unfold Region.wanted; rw [h]
theorem zip_all {p : Bl × Nat → Bool} (h : bl.zipIdx.all p = true) (b : Nat) (e : Bl) (hb : bl[b]? = some e) : p (e, b) = true :=
  List.all_eq_true.1 h (e, b) (by rw [List.mem_zipIdx_iff_getElem?]; exact hb)
theorem two {s t : Option Nat} {i c b : Nat} (h : (s != some i && (t == some i) == (c == b)) = true) : s ≠ some i ∧ (t = some i ↔ c = b) := by
  rw [Bool.and_eq_true] at h
  refine ⟨by simpa using h.1, ?_⟩
  have h2 : (t == some i) = (c == b) := by simpa using h.2
  constructor
  · intro ht
    rw [ht] at h2
    simpa using h2.symm
  · intro hc
    rw [hc] at h2
    simpa using h2
/-- One operation. -/
theorem step {i : Nat} {o : Oper} {it : It} {a : Act} (hd : dstB its = true) (ho : ops[i]? = some o) (hit : its[i]? = some it) (hok : okB its bl i o it = true) (hin : ∀ d, it.dst = some d → d < a0.tmps.size)
    (holds : ∀ (t : Tmp) (s : SV), (t, s) ∈ olds → a0.tmps[t]? = some (s.at μ0) ∧ ∀ b, s.blk = some b → ∃ e : Bl, bl[b]? = some e ∧ e.al = none)
    (hdops : ∀ (j : Nat) (oj : Oper) (jt : It), ops[j]? = some oj → its[j]? = some jt → oj.dst = jt.dst) (hops : ops.size = its.length) (hc : Cert P Q w0 k0 X ops i its bl olds o it) (hun : on L i = false) (hdep : ∀ e ∈ o.after, Region.binds .any e = true → on L e.on = true) (h : Inv ops its bl a0 w0 k0 X μ0 L a w) :
    wpOp P ops Q i (Inv ops its bl a0 w0 k0 X μ0 (L.setIfInBounds i true)) a w := by
  obtain ⟨hsz, hcl, μ, hμ, hA, hW, hO⟩ := h
  have hi : i < L.size := by rw [hsz]; exact (List.getElem?_eq_some_iff.1 hit).1
  simp only [okB, Bool.and_eq_true] at hok
  obtain ⟨⟨⟨⟨hdst, hg⟩, haft⟩, hneed⟩, hkind⟩ := hok
  have hdst' : o.dst = it.dst := by simpa using hdst
  have hdepB : ∀ j, depB o j = true → on L j = true := fun j hj => by
    obtain ⟨e, he, hb⟩ := Array.any_eq_true'.1 hj
    simp only [Bool.and_eq_true, beq_iff_eq] at hb
    rw [← hb.2]
    exact hdep e he hb.1
  have hwant : Region.wanted o (yielded ops a.tmps) = !it.kind.isPass := by
    unfold Region.wanted
    unfold guardB at hg
    cases hgd : o.guard with
    | none => rw [hgd] at hg; dsimp only at hg ⊢; rw [hg]
    | some jw =>
      obtain ⟨j, want⟩ := jw
      rw [hgd] at hg
      dsimp only at hg ⊢
      rw [Bool.and_eq_true] at hg
      cases hj : its[j]? with
      | none => rw [hj] at hg; cases hg.2
      | some jt =>
        rw [hj] at hg
        obtain ⟨h1, h2⟩ := hg
        dsimp only at h2
        rw [Bool.and_eq_true] at h2
        obtain ⟨d, hdj⟩ := Option.isSome_iff_exists.1 h2.1
        have hjl : j < its.length := (List.getElem?_eq_some_iff.1 hj).1
        have hoj : ops[j]? = some (ops[j]'(by rw [hops]; exact hjl)) := Array.getElem?_eq_getElem _
        have h3 := (hA.got j jt d hj (hdepB j h1) hdj).1
        have h4 : yielded ops a.tmps j = match jt.out.at μ with | .bool b => some b | _ => none := by
          unfold yielded
          rw [hoj]
          show (match (ops[j]'(by rw [hops]; exact hjl)).dst.bind (a.tmps[·]?) with | some (.bool b) => some b | _ => none) = _
          rw [hdops j _ jt hoj hj, hdj]
          show (match a.tmps[d]? with | some (.bool b) => some b | _ => none) = _
          rw [h3]
          cases jt.out.at μ <;> rfl
        rw [h4]
        have h5 := h2.2
        cases hout : jt.out with
        | p b x => rw [hout] at h5; cases h5
        | s b x y => rw [hout] at h5; cases h5
        | t b x y z => rw [hout] at h5; cases h5
        | v x =>
          rw [hout] at h5
          cases x with
          | bool b =>
            show (some b == some want) = _
            dsimp only at h5
            have : (b == want) = !it.kind.isPass := by simpa using h5
            rw [← this]
            cases b <;> cases want <;> rfl
          | _ => cases h5
  have hK : Known ops i its olds it.need μ a := by
    refine ⟨fun t j jt hm hj => ?_, fun t s hm hfree => ?_⟩
    · have h1 := List.all_eq_true.1 hneed (t, j) hm
      simp only [Bool.and_eq_true, hj] at h1
      have h2 : jt.dst = some t := by simpa using h1.2
      have h3 := (hA.got j jt t hj (hdepB j h1.1) h2).1
      show a.tmps.getD t undef = _
      rw [Array.getD_eq_getD_getElem?, h3]
      rfl
    · obtain ⟨h2, h3⟩ := holds t s hm
      have h4 := hA.rest t (fun j jt hj hon hdj => by
        have h5 := List.all_eq_true.1 hfree (jt, j) (by rw [List.mem_zipIdx_iff_getElem?]; exact hj)
        dsimp only at h5
        rw [hdj] at h5
        cases hoj : ops[j]? with
        | none => rw [hoj] at h5; simp at h5
        | some oj =>
          rw [hoj] at h5
          have h6 : depB oj i = true := by simpa using h5
          obtain ⟨e', he', hb'⟩ := Array.any_eq_true'.1 h6
          simp only [Bool.and_eq_true, beq_iff_eq] at hb'
          have := hcl j oj hoj hon e' he' hb'.1
          rw [hb'.2, hun] at this
          cases this)
      show a.tmps.getD t undef = _
      rw [Array.getD_eq_getD_getElem?, h4, h2]
      show s.at μ0 = s.at μ
      refine SV.at_congr fun b hb => ?_
      obtain ⟨e, he, hal⟩ := h3 b hb
      rw [hμ b e he hal]
  have hR : Reads ops i bl μ w := fun b e hb hal hst => by
    have := (hW.has b e hb (by
      unfold Bl.live
      rcases hal with hal | ⟨o', j, ho', hal, hd⟩
      · rw [hal]; rfl
      · rw [hal]
        show on L j = true
        rw [ho] at ho'
        obtain rfl := Option.some.inj ho'
        exact hdepB j hd)).1
    unfold Bl.now Bl.put at this
    unfold readB at hst
    cases hs : e.st with
    | none => rw [hs] at this; exact this
    | some s =>
      rw [hs] at this hst
      dsimp only at hst
      cases hos : ops[s]? with
      | none => rw [hos] at hst; cases hst
      | some os =>
        rw [hos] at hst
        have hns : on L s = false := by
          cases hon : on L s with
          | false => rfl
          | true =>
            obtain ⟨e', he', hb'⟩ := Array.any_eq_true'.1 hst
            simp only [Bool.and_eq_true, beq_iff_eq] at hb'
            have := hcl s os hos hon e' he' hb'.1
            rw [hb'.2, hun] at this
            cases this
        rw [show (Option.map (on L) (some s)).getD false = on L s from rfl, hns] at this
        exact this
  have hlive : ∀ b, liveB its bl o it b = true → ∃ e : Bl, bl[b]? = some e ∧ e.live L = true := fun b hb => by
    unfold liveB at hb
    rw [Bool.or_eq_true] at hb
    rcases hb with h2 | h2
    · cases he : bl[b]? with
      | none => rw [he] at h2; cases h2
      | some e =>
        rw [he] at h2
        dsimp only at h2
        refine ⟨e, rfl, ?_⟩
        unfold Bl.live
        cases hal : e.al with
        | none => rfl
        | some j => rw [hal] at h2; exact hdepB j h2
    · obtain ⟨x, hx, h3⟩ := List.any_eq_true.1 h2
      rw [Bool.and_eq_true] at h3
      cases hj : its[x.2]? with
      | none => rw [hj] at h3; cases h3.2
      | some jt =>
        rw [hj] at h3
        dsimp only at h3
        rw [Bool.and_eq_true] at h3
        obtain ⟨d, hd2⟩ := Option.isSome_iff_exists.1 h3.2.1
        exact (hA.got x.2 jt d hj (hdepB x.2 h3.1) hd2).2 b (by simpa using h3.2.2)
  have hcl' : ∀ (j : Nat) (oj : Oper), ops[j]? = some oj → on (L.setIfInBounds i true) j = true → ∀ e ∈ oj.after, Region.binds .any e = true → on (L.setIfInBounds i true) e.on = true := fun j oj hoj hon e he hb => by
    rw [on_set hi] at hon ⊢
    by_cases hij : i = j
    · subst hij
      rw [ho] at hoj
      obtain rfl : o = oj := Option.some.inj hoj
      rw [hdep e he hb, Bool.true_or]
    · rw [hcl j oj hoj (by simpa [hij] using hon) e he hb, Bool.true_or]
  have hsz' : (L.setIfInBounds i true).size = its.length := by rw [Array.size_setIfInBounds]; exact hsz
  have hC := hc μ a w (Inv ops its bl a0 w0 k0 X μ0 (L.setIfInBounds i true)) hK hR hW.bel
  unfold wpOp
  rw [ho]
  dsimp only
  rw [hwant]
  cases hk : it.kind with
  | pass =>
    rw [hk] at hC hkind
    simp only [kindB, Bool.and_eq_true] at hkind
    have hne : ∀ (b : Nat) (e : Bl), bl[b]? = some e → e.al ≠ some i ∧ e.st ≠ some i := fun b e hb => by simpa using List.all_eq_true.1 hkind.1 e (List.mem_of_getElem? hb)
    have hsame : ∀ (b : Nat) (e : Bl), bl[b]? = some e → e.live (L.setIfInBounds i true) = e.live L ∧ e.put (L.setIfInBounds i true) = e.put L := fun b e hb =>
      ⟨by rw [live_set hi, show (e.al == some i) = false by simpa using (hne b e hb).1, Bool.or_false], by rw [put_set hi, show (e.st == some i) = false by simpa using (hne b e hb).2, Bool.or_false]⟩
    show Inv ops its bl a0 w0 k0 X μ0 (L.setIfInBounds i true) (a.put o.dst undef) w
    refine ⟨hsz', hcl', μ, hμ, ?_, hW.same hsame, fun b e hb => by rw [(hsame b e hb).1, (hsame b e hb).2]; exact hO b e hb⟩
    rw [hdst']
    have hout : it.out = .v undef := hC
    refine hA.put hd hi hit (fun _ _ _ _ => rfl) hin (fun _ _ b hbx => ?_) _ (fun _ _ => by rw [hout]; rfl)
    rw [hout] at hbx
    cases hbx
  | stay =>
    rw [hk] at hC hkind
    simp only [kindB, Bool.and_eq_true] at hkind
    show o.wp P a w _ Q ∨ _
    left
    refine hC ?_
    have hne : ∀ (b : Nat) (e : Bl), bl[b]? = some e → e.al ≠ some i ∧ e.st ≠ some i := fun b e hb => by simpa using List.all_eq_true.1 hkind.1 e (List.mem_of_getElem? hb)
    have hsame : ∀ (b : Nat) (e : Bl), bl[b]? = some e → e.live (L.setIfInBounds i true) = e.live L ∧ e.put (L.setIfInBounds i true) = e.put L := fun b e hb =>
      ⟨by rw [live_set hi, show (e.al == some i) = false by simpa using (hne b e hb).1, Bool.or_false], by rw [put_set hi, show (e.st == some i) = false by simpa using (hne b e hb).2, Bool.or_false]⟩
    refine ⟨hsz', hcl', μ, hμ, ?_, hW.same hsame, fun b e hb => by rw [(hsame b e hb).1, (hsame b e hb).2]; exact hO b e hb⟩
    rw [hdst']
    refine hA.put hd hi hit (fun _ _ _ _ => rfl) hin (fun _ _ b hbx => ?_) _ (fun _ _ => rfl)
    have h2 := hkind.2
    rw [hbx] at h2
    obtain ⟨e, he, hl⟩ := hlive b h2
    exact ⟨e, he, live_mono hi hl⟩
  | call =>
    rw [hk] at hC hkind
    simp only [kindB, Bool.and_eq_true] at hkind
    show o.wp P a w _ Q ∨ _
    left
    refine hC fun w' hb' => ?_
    have hne : ∀ (b : Nat) (e : Bl), bl[b]? = some e → e.al ≠ some i ∧ e.st ≠ some i := fun b e hb => by simpa using List.all_eq_true.1 hkind.1 e (List.mem_of_getElem? hb)
    have hsame : ∀ (b : Nat) (e : Bl), bl[b]? = some e → e.live (L.setIfInBounds i true) = e.live L ∧ e.put (L.setIfInBounds i true) = e.put L := fun b e hb =>
      ⟨by rw [live_set hi, show (e.al == some i) = false by simpa using (hne b e hb).1, Bool.or_false], by rw [put_set hi, show (e.st == some i) = false by simpa using (hne b e hb).2, Bool.or_false]⟩
    refine ⟨hsz', hcl', μ, hμ, ?_, (hW.call hb').same hsame, fun b e hb => by rw [(hsame b e hb).1, (hsame b e hb).2]; exact hO b e hb⟩
    rw [hdst']
    refine hA.put hd hi hit (fun _ _ _ _ => rfl) hin (fun _ _ b hbx => ?_) _ (fun _ _ => rfl)
    have h2 := hkind.2
    rw [hbx] at h2
    obtain ⟨e, he, hl⟩ := hlive b h2
    exact ⟨e, he, live_mono hi hl⟩
  | make b =>
    rw [hk] at hC hkind
    simp only [kindB, Bool.and_eq_true] at hkind
    obtain ⟨⟨hout, hz⟩, hb0⟩ := hkind
    obtain ⟨e, hbe⟩ := Option.isSome_iff_exists.1 hb0
    have ha : e.al = some i := (two (zip_all hz b e hbe)).2.2 rfl
    have hstn : ∀ (c : Nat) (f : Bl), bl[c]? = some f → f.st ≠ some i := fun c f hc => (two (zip_all hz c f hc)).1
    have haln : ∀ (c : Nat) (f : Bl), bl[c]? = some f → c ≠ b → f.al ≠ some i := fun c f hc hcb h => hcb ((two (zip_all hz c f hc)).2.1 h)
    have hlv : e.live L = false := by unfold Bl.live; rw [ha]; exact hun
    have hpt : e.put L = false := by
      cases hp : e.put L with
      | false => rfl
      | true => have := hO b e hbe hp; rw [hlv] at this; cases this
    have hout' : it.out.blk = some b := by
      cases hoo : it.out.blk with
      | none => rw [hoo] at hout; cases hout
      | some c =>
        rw [hoo] at hout
        rw [show c = b by simpa using hout]
    show o.wp P a w _ Q ∨ _
    left
    refine hC e hbe fun k w' hm => ?_
    have hμb : ∀ (c : Nat) (f : Bl), bl[c]? = some f → f.live L = true → upd μ b k c = μ c := fun c f hc hl => by
      unfold upd
      rw [if_neg]
      rintro rfl
      rw [hbe] at hc
      obtain rfl : e = f := Option.some.inj hc
      rw [hlv] at hl
      cases hl
    refine ⟨hsz', hcl', upd μ b k, fun c f hc hal => ?_, ?_, hW.make hi hbe ha haln hstn hpt hm, fun c f hc => ?_⟩
    · rw [hμb c f hc (by unfold Bl.live; rw [hal]; rfl)]
      exact hμ c f hc hal
    · rw [hdst']
      refine hA.put hd hi hit hμb hin (fun _ _ c hcx => ?_) _ (fun _ _ => rfl)
      rw [hout'] at hcx
      have h1 : b = c := Option.some.inj hcx
      subst h1
      exact ⟨e, hbe, by rw [live_set hi, ha]; simp⟩
    · rw [put_set hi, show (f.st == some i) = false by simpa using hstn c f hc, Bool.or_false]
      exact fun hp => live_mono hi (hO c f hc hp)
  | put b =>
    rw [hk] at hC hkind
    simp only [kindB, Bool.and_eq_true] at hkind
    obtain ⟨⟨hdn, hz⟩, hb0⟩ := hkind
    cases hbe : bl[b]? with
    | none => rw [hbe] at hb0; cases hb0
    | some e =>
      rw [hbe] at hb0
      dsimp only at hb0
      have hs : e.st = some i := (two (zip_all hz b e hbe)).2.2 rfl
      have haln : ∀ (c : Nat) (f : Bl), bl[c]? = some f → f.al ≠ some i := fun c f hc => (two (zip_all hz c f hc)).1
      have hstn : ∀ (c : Nat) (f : Bl), bl[c]? = some f → c ≠ b → f.st ≠ some i := fun c f hc hcb h => hcb ((two (zip_all hz c f hc)).2.1 h)
      have hlv : e.live L = true := by
        unfold Bl.live
        cases hal : e.al with
        | none => rfl
        | some j =>
          have h2 := hb0
          rw [hal] at h2
          exact hdepB j h2
      show o.wp P a w _ Q ∨ _
      left
      have hpn : e.put L = false := by unfold Bl.put; rw [hs]; exact hun
      have hnow : e.now L = e.before := by unfold Bl.now; rw [hpn]; rfl
      refine hC e hbe (hW.has b e hbe hlv).2.1 (hnow ▸ (hW.has b e hbe hlv).1) fun w' hPT => ?_
      refine ⟨hsz', hcl', μ, hμ, ?_, hW.put hi hbe hs hlv hPT hstn haln, fun c f hc hp => ?_⟩
      · rw [hdst']
        refine hA.put hd hi hit (fun _ _ _ _ => rfl) hin (fun d hdd c hcx => ?_) _ (fun d hdd => rfl)
        cases hoo : it.out with
        | v x => rw [hoo] at hcx; cases hcx
        | p x y => rw [hoo] at hdn; cases hdn
        | s x y z => rw [hoo] at hdn; cases hdn
        | t x y z u => rw [hoo] at hdn; cases hdn
      · rw [live_set hi, show (f.al == some i) = false by simpa using haln c f hc, Bool.or_false]
        rw [put_set hi] at hp
        by_cases hcb : c = b
        · subst hcb
          rw [hbe] at hc
          obtain rfl : e = f := Option.some.inj hc
          exact hlv
        · rw [show (f.st == some i) = false by simpa using hstn c f hc hcb, Bool.or_false] at hp
          exact hO c f hc hp
end Go.Proofs.Ytifkmkllljfeaaa.RG
namespace Go.Proofs.Ytifkmkllljfeaaa.RG
open Go Go.RowKit
variable {P : Program} {ops : Array Oper} {Q : Exit → Act → World → Prop} {w0 w : World} {k0 : Nat} {X : List Nat} {its : List It} {bl : List Bl} {olds : List (Tmp × SV)} {a0 : Act} {L : Array Bool} {μ μ0 : Nat → Nat}
def puts (μ : Nat → Nat) : List It → Act → Act
  | [], a => a
  | it :: r, a => puts μ r (a.put it.dst (it.out.at μ))
theorem puts_defers (μ : Nat → Nat) : ∀ (its : List It) (a : Act), (puts μ its a).defers = a.defers
  | [], _ => rfl
  | it :: r, a => by
    rw [puts, puts_defers μ r]
    cases it.dst <;> rfl
theorem put_size (a : Act) (d : Option Tmp) (v : Value) : (a.put d v).tmps.size = a.tmps.size := by
  cases d with
  | none => rfl
  | some d => exact Array.size_setIfInBounds ..
theorem puts_size (μ : Nat → Nat) : ∀ (its : List It) (a : Act), (puts μ its a).tmps.size = a.tmps.size
  | [], _ => rfl
  | it :: r, a => by rw [puts, puts_size μ r, put_size]
theorem put_other (a : Act) {d : Option Tmp} (v : Value) {t : Tmp} (h : d ≠ some t) : (a.put d v).tmps[t]? = a.tmps[t]? := by
  cases d with
  | none => rfl
  | some d =>
    show (a.tmps.setIfInBounds d v)[t]? = _
    rw [Array.getElem?_setIfInBounds, if_neg (fun e => h (by rw [e]))]
theorem puts_other (μ : Nat → Nat) : ∀ (its : List It) (a : Act) (t : Tmp), (∀ it ∈ its, it.dst ≠ some t) → (puts μ its a).tmps[t]? = a.tmps[t]?
  | [], _, _, _ => rfl
  | it :: r, a, t, h => by
    rw [puts, puts_other μ r _ t (fun x hx => h x (List.mem_cons_of_mem _ hx)), put_other a _ (h it List.mem_cons_self)]
theorem puts_same (μ : Nat → Nat) : ∀ (its : List It) (a : Act) (i : Nat) (it : It) (d : Tmp), dstB its = true → its[i]? = some it → it.dst = some d → d < a.tmps.size → (puts μ its a).tmps[d]? = some (it.out.at μ)
  | [], _, i, _, _, _, h, _, _ => by simp at h
  | x :: r, a, 0, it, d, hB, h, hd, hs => by
    obtain rfl : x = it := by simpa using h
    simp only [dstB, Bool.and_eq_true, hd] at hB
    rw [puts, puts_other μ r _ d (fun y hy => by simpa using List.all_eq_true.1 hB.1 y hy), hd]
    show (a.tmps.setIfInBounds d _)[d]? = _
    rw [Array.getElem?_setIfInBounds, if_pos rfl, if_pos hs]
  | x :: r, a, i + 1, it, d, hB, h, hd, hs => by
    simp only [dstB, Bool.and_eq_true] at hB
    rw [puts]
    exact puts_same μ r _ i it d hB.2 (by simpa using h) hd (by rw [put_size]; exact hs)
theorem Act.ext' {a b : Act} (h1 : a.tmps = b.tmps) (h2 : a.defers = b.defers) : a = b := by
  cases a; cases b; subst h1; subst h2; rfl
theorem Ac.done {a : Act} (h : Ac its bl a0 L μ a) (hB : dstB its = true) (hin : ∀ it ∈ its, ∀ d, it.dst = some d → d < a0.tmps.size) (hall : ∀ i, i < its.length → on L i = true) : a = puts μ its a0 := by
  refine Act.ext' ?_ (by rw [puts_defers]; exact h.defers)
  apply Array.ext_getElem?
  intro t
  by_cases ht : ∃ (i : Nat) (it : It), its[i]? = some it ∧ it.dst = some t
  · obtain ⟨i, it, hi, hd⟩ := ht
    rw [(h.got i it t hi (hall i (List.getElem?_eq_some_iff.1 hi).1) hd).1, puts_same μ its a0 i it t hB hi hd (hin it (List.mem_of_getElem? hi) t hd)]
  · rw [h.rest t (fun i it hi _ hd => ht ⟨i, it, hi, hd⟩), puts_other μ its a0 t (fun it hm hd => ?_)]
    obtain ⟨i, hi⟩ := List.getElem?_of_mem hm
    exact ht ⟨i, it, hi, hd⟩
def unl (L : Array Bool) : Nat := L.toList.countP (fun b => !b)
theorem count_set : ∀ (l : List Bool) (i : Nat), l[i]? = some false → (l.set i true).countP (fun b => !b) + 1 = l.countP (fun b => !b)
  | [], i, h => by simp at h
  | x :: r, 0, h => by
    obtain rfl : x = false := by simpa using h
    simp
  | x :: r, i + 1, h => by
    have := count_set r i (by simpa using h)
    rw [List.set_cons_succ, List.countP_cons, List.countP_cons]
    omega
theorem unl_set {i : Nat} (h : L.getD i true = false) : unl (L.setIfInBounds i true) + 1 = unl L := by
  unfold unl
  rw [Array.toList_setIfInBounds]
  refine count_set _ _ ?_
  rw [Array.getElem?_toList]
  rw [Array.getD_eq_getD_getElem?] at h
  cases hh : L[i]? with
  | none => rw [hh] at h; cases h
  | some b => rw [hh] at h; rw [show b = false from h]
theorem unl_zero (h : unl L = 0) (i : Nat) (hi : i < L.size) : on L i = true := by
  have h1 := List.countP_eq_zero.1 h
  have h2 := h1 L[i] (by simp)
  unfold on
  rw [Array.getD_eq_getD_getElem?, Array.getElem?_eq_getElem hi]
  simpa using h2
/-- All that is asked of a region's rows. -/
structure Reg (P : Program) (ops : Array Oper) (Q : Exit → Act → World → Prop) (w0 : World) (k0 : Nat) (X : List Nat) (its : List It) (bl : List Bl) (olds : List (Tmp × SV)) (a0 : Act) (μ0 : Nat → Nat) : Prop where
  chk : allB ops its bl olds a0.tmps.size = true
  old : ∀ (t : Tmp) (s : SV), (t, s) ∈ olds → a0.tmps[t]? = some (s.at μ0)
  cert : ∀ (i : Nat) (o : Oper) (it : It), ops[i]? = some o → its[i]? = some it → Cert P Q w0 k0 X ops i its bl olds o it
theorem Reg.step {i : Nat} {o : Oper} {a : Act} (R : Reg P ops Q w0 k0 X its bl olds a0 μ0) (ho : ops[i]? = some o) (hun : on L i = false) (hdep : ∀ e ∈ o.after, Region.binds .any e = true → on L e.on = true) (h : Inv ops its bl a0 w0 k0 X μ0 L a w) :
    wpOp P ops Q i (Inv ops its bl a0 w0 k0 X μ0 (L.setIfInBounds i true)) a w := by
  have hk := R.chk
  simp only [allB, Bool.and_eq_true, beq_iff_eq] at hk
  obtain ⟨⟨⟨⟨hsz, hd⟩, hold⟩, hin⟩, hok⟩ := hk
  have hi : i < its.length := by rw [← hsz]; exact (Array.getElem?_eq_some_iff.1 ho).1
  obtain ⟨it, hit⟩ : ∃ it, its[i]? = some it := ⟨its[i], List.getElem?_eq_getElem hi⟩
  have h1 := List.all_eq_true.1 hok i (List.mem_range.2 hi)
  rw [ho, hit] at h1
  refine RG.step (olds := olds) hd ho hit h1 (fun d hdd => ?_) (fun t s hm => ?_) (fun j oj jt hoj hjt => ?_) hsz (R.cert i o it ho hit) hun hdep h
  · have := List.all_eq_true.1 hin it (List.mem_of_getElem? hit)
    rw [hdd] at this
    simpa using this
  · have h2 := List.all_eq_true.1 hold (t, s) hm
    refine ⟨R.old t s hm, fun b hbx => ?_⟩
    have h3 := h2
    dsimp only at h3
    rw [hbx] at h3
    dsimp only at h3
    cases he : bl[b]? with
    | none => rw [he] at h3; cases h3
    | some e => rw [he] at h3; exact ⟨e, rfl, by simpa using h3⟩
  · have h4 := List.all_eq_true.1 hok j (List.mem_range.2 (List.getElem?_eq_some_iff.1 hjt).1)
    rw [hoj, hjt] at h4
    simp only [okB, Bool.and_eq_true] at h4
    simpa using h4.1.1.1.1
theorem Reg.back {i : Nat} {o : Oper} (R : Reg P ops Q w0 k0 X its bl olds a0 μ0) (ho : ops[i]? = some o) : i < its.length ∧ ∀ e ∈ o.after, Region.binds .any e = true → e.on < i := by
  have hk := R.chk
  simp only [allB, Bool.and_eq_true, beq_iff_eq] at hk
  obtain ⟨⟨⟨⟨hsz, hd⟩, hold⟩, hin⟩, hok⟩ := hk
  have hi : i < its.length := by rw [← hsz]; exact (Array.getElem?_eq_some_iff.1 ho).1
  have h1 := List.all_eq_true.1 hok i (List.mem_range.2 hi)
  rw [ho, List.getElem?_eq_getElem hi] at h1
  simp only [okB, Bool.and_eq_true] at h1
  refine ⟨hi, fun e he hb => ?_⟩
  have := Array.all_eq_true'.1 h1.1.1.2 e he
  simpa [hb] using this
theorem Reg.size (R : Reg P ops Q w0 k0 X its bl olds a0 μ0) : ops.size = its.length := by
  have hk := R.chk
  simp only [allB, Bool.and_eq_true, beq_iff_eq] at hk
  exact hk.1.1.1.1
theorem Reg.full {a : Act} (R : Reg P ops Q w0 k0 X its bl olds a0 μ0) (h : Inv ops its bl a0 w0 k0 X μ0 L a w) (hr : Region.ready .any ops L = []) : ∀ i, i < its.length → on L i = true := by
  intro i
  induction i using Nat.strongRecOn with
  | ind i ih =>
    intro hi
    have ho : ops[i]? = some (ops[i]'(by rw [R.size]; exact hi)) := Array.getElem?_eq_getElem _
    cases hon : on L i with
    | true => rfl
    | false =>
      have : i ∈ Region.ready .any ops L := mem_ready.2 ⟨?_, _, ho, fun e he hb => ?_⟩
      · rw [hr] at this; cases this
      · unfold on at hon
        rw [Array.getD_eq_getD_getElem?, Array.getElem?_eq_getElem (by rw [h.size]; exact hi)] at hon ⊢
        exact hon
      · have hlt := (R.back ho).2 e he hb
        exact ih e.on hlt (Nat.lt_trans hlt hi)
/-- Blocks and what lies in them. -/
def ad (ks : List Nat) (b : Nat) : Nat := ks.getD b 0
structure St (w0 : World) (k0 : Nat) (X : List Nat) (cs : List (List Value)) (ks : List Nat) (w : World) : Prop where
  bel : BelX k0 X w0 w
  le : k0 ≤ w.heap.size
  len : ks.length = cs.length
  has : ∀ (b : Nat) (c : List Value), cs[b]? = some c → w.rangeAt (ad ks b) 0 c ∧ w.there (ad ks b) 0 c.length ∧ ad ks b < w.heap.size ∧ (k0 ≤ ad ks b ∨ ad ks b ∈ X)
  inj : ∀ (b c : Nat), b < cs.length → c < cs.length → b ≠ c → ad ks b ≠ ad ks c
theorem St.drew {cs : List (List Value)} {ks : List Nat} (h : St w0 k0 X cs ks w) : St w0 k0 X cs ks w.drew := ⟨h.bel.drew, h.le, h.len, h.has, h.inj⟩
def Bl.fin (e : Bl) : List Value := if e.st.isSome = true then e.after else e.before
def startB (bl : List Bl) (n : Nat) : Bool := bl.zipIdx.all (fun x => x.1.al.isNone == decide (x.2 < n)) && decide (n ≤ bl.length)
theorem start_inv {ops : Array Oper} {cs : List (List Value)} {ks : List Nat} (hS : St w0 k0 X cs ks w) (hB : startB bl cs.length = true) (hcs : (bl.map (·.before)).take cs.length = cs) :
    Inv ops its bl a0 w0 k0 X (ad ks) (Array.replicate its.length false) a0 w := by
  simp only [startB, Bool.and_eq_true] at hB
  have hoff : ∀ i, on (Array.replicate its.length false) i = false := fun i => by
    unfold on
    rw [Array.getD_eq_getD_getElem?, Array.getElem?_replicate]
    by_cases h : i < its.length
    · rw [if_pos h]; rfl
    · rw [if_neg h]; rfl
  have hlive : ∀ (b : Nat) (e : Bl), bl[b]? = some e → e.live (Array.replicate its.length false) = true → b < cs.length := fun b e hb hl => by
    have h1 := zip_all hB.1 b e hb
    unfold Bl.live at hl
    cases ha : e.al with
    | none => simpa [ha] using h1
    | some j => rw [ha] at hl; have : on (Array.replicate its.length false) j = true := hl; rw [hoff] at this; cases this
  have hput : ∀ e : Bl, e.put (Array.replicate its.length false) = false := fun e => by
    unfold Bl.put
    cases e.st with
    | none => rfl
    | some j => exact hoff j
  have hget : ∀ (b : Nat) (e : Bl), bl[b]? = some e → b < cs.length → cs[b]? = some e.before := fun b e hb hlt => by
    rw [← hcs, List.getElem?_take, if_pos hlt, List.getElem?_map, hb]
    rfl
  refine ⟨Array.size_replicate, (fun i o _ h => by rw [hoff] at h; cases h), ad ks, fun _ _ _ _ => rfl, ⟨rfl, rfl, fun i it d hi ho => ?_, fun _ _ => rfl⟩, ⟨hS.bel, hS.le, fun b e hb hl => ?_, fun b c e f hb hc he hf hbc => hS.inj b c (hlive b e hb he) (hlive c f hc hf) hbc⟩, fun b e hb hp => ?_⟩
  · rw [hoff] at ho; cases ho
  · unfold Bl.now
    rw [hput e]
    exact hS.has b e.before (hget b e hb (hlive b e hb hl))
  · rw [hput e] at hp; cases hp
theorem Inv.done {a : Act} {cs : List (List Value)} {ks : List Nat} (R : Reg P ops Q w0 k0 X its bl olds a0 (ad ks)) (h : Inv ops its bl a0 w0 k0 X (ad ks) L a w) (hlen : ks.length = cs.length) (hB : startB bl cs.length = true) (hall : ∀ i, i < its.length → on L i = true)
    (hst : ∀ e ∈ bl, ∀ j, e.al = some j ∨ e.st = some j → j < its.length) (hlenb : ∀ e ∈ bl, e.fin.length = e.before.length)
    (hp : ∀ (new : List Nat) (w' : World), new.length = bl.length - cs.length → St w0 k0 X (bl.map Bl.fin) (ks ++ new) w' → Q .normal (puts (ad (ks ++ new)) its a0) w') : Q .normal a w := by
  obtain ⟨hsz, -, μ, hμ, hA, hW, hO⟩ := h
  have hk := R.chk
  simp only [allB, Bool.and_eq_true, beq_iff_eq] at hk
  obtain ⟨⟨⟨⟨hsz2, hd⟩, hold⟩, hin⟩, hok⟩ := hk
  have hB' := hB
  simp only [startB, Bool.and_eq_true, decide_eq_true_eq] at hB
  have hlive : ∀ (b : Nat) (e : Bl), bl[b]? = some e → e.live L = true := fun b e hb => by
    unfold Bl.live
    cases ha : e.al with
    | none => rfl
    | some j => exact hall j (hst e (List.mem_of_getElem? hb) j (Or.inl ha))
  have hnow : ∀ (b : Nat) (e : Bl), bl[b]? = some e → e.now L = e.fin := fun b e hb => by
    unfold Bl.now Bl.put Bl.fin
    cases ha : e.st with
    | none => rfl
    | some j =>
      have := hall j (hst e (List.mem_of_getElem? hb) j (Or.inr ha))
      simp [this]
  have hnew : ∀ b, b < bl.length → ad (ks ++ (List.range (bl.length - cs.length)).map (fun j => μ (cs.length + j))) b = μ b := fun b hb => by
    unfold ad
    rw [List.getD_eq_getElem?_getD]
    by_cases hlt : b < cs.length
    · rw [List.getElem?_append_left (by rw [hlen]; exact hlt)]
      obtain ⟨e, he⟩ : ∃ e, bl[b]? = some e := ⟨bl[b], List.getElem?_eq_getElem hb⟩
      have h1 := zip_all hB.1 b e he
      have h2 : e.al = none := by simpa [hlt] using h1
      rw [hμ b e he h2]
      unfold ad
      rw [List.getD_eq_getElem?_getD]
    · rw [List.getElem?_append_right (by rw [hlen]; omega), List.getElem?_map, hlen, List.getElem?_range (by omega)]
      show μ (cs.length + (b - cs.length)) = μ b
      congr 1
      omega
  have hact := hA.done hd (fun it hm d hdd => by
    have := List.all_eq_true.1 hin it hm
    rw [hdd] at this
    simpa using this) hall
  have hpe : puts μ its a0 = puts (ad (ks ++ (List.range (bl.length - cs.length)).map (fun j => μ (cs.length + j)))) its a0 := by
    have key : ∀ it ∈ its, ∀ d, it.dst = some d → it.out.at μ = it.out.at (ad (ks ++ (List.range (bl.length - cs.length)).map (fun j => μ (cs.length + j)))) := fun it hm d hdd => by
      obtain ⟨i, hi⟩ := List.getElem?_of_mem hm
      have hg := (hA.got i it d hi (hall i (List.getElem?_eq_some_iff.1 hi).1) hdd).2
      refine SV.at_congr fun b hb => ?_
      obtain ⟨e, he, -⟩ := hg b hb
      rw [hnew b (List.getElem?_eq_some_iff.1 he).1]
    clear hA hact hold hok hin hd hsz2 hsz R hall hst hp
    generalize a0 = a1
    induction its generalizing a1 with
    | nil => rfl
    | cons it r ih =>
      rw [puts, puts]
      have h1 : a1.put it.dst (it.out.at μ) = a1.put it.dst (it.out.at (ad (ks ++ (List.range (bl.length - cs.length)).map (fun j => μ (cs.length + j))))) := by
        cases hdd : it.dst with
        | none => rfl
        | some d => rw [key it List.mem_cons_self d hdd]
      rw [h1]
      exact ih (fun x hx => key x (List.mem_cons_of_mem _ hx)) _
  rw [hact, hpe]
  refine hp _ w (by simp) ⟨hW.bel, hW.le, ?_, fun b c hc => ?_, fun b c hb hc hbc => ?_⟩
  · simp only [List.length_append, List.length_map, List.length_range]
    omega
  · rw [List.getElem?_map] at hc
    cases he : bl[b]? with
    | none => rw [he] at hc; cases hc
    | some e =>
      rw [he] at hc
      obtain rfl : e.fin = c := Option.some.inj hc
      have h1 := hW.has b e he (hlive b e he)
      rw [hnow b e he] at h1
      rw [hnew b (List.getElem?_eq_some_iff.1 he).1, hlenb e (List.mem_of_getElem? he)]
      exact h1
  · rw [List.length_map] at hb hc
    rw [hnew b hb, hnew c hc]
    exact hW.inj b c _ _ (List.getElem?_eq_getElem hb) (List.getElem?_eq_getElem hc) (hlive b _ (List.getElem?_eq_getElem hb)) (hlive c _ (List.getElem?_eq_getElem hc)) hbc
def endB (its : List It) (bl : List Bl) : Bool :=
  bl.all (fun e => (match e.al with | none => true | some j => decide (j < its.length)) && (match e.st with | none => true | some j => decide (j < its.length)) && e.fin.length == e.before.length)
theorem endB_st (h : endB its bl = true) : (∀ e ∈ bl, ∀ j, e.al = some j ∨ e.st = some j → j < its.length) ∧ ∀ e ∈ bl, e.fin.length = e.before.length := by
  refine ⟨fun e he j hj => ?_, fun e he => ?_⟩
  · have := List.all_eq_true.1 h e he
    simp only [Bool.and_eq_true] at this
    rcases hj with hj | hj
    · rw [hj] at this; simpa using this.1.1
    · rw [hj] at this; simpa using this.1.2
  · have := List.all_eq_true.1 h e he
    simp only [Bool.and_eq_true, beq_iff_eq] at this
    exact this.2
/-- THE LAW, for a region that draws its order. -/
theorem region_draws' {id : Nat} {cs : List (List Value)} {ks : List Nat} (hm : P.follows .mixedOrders = true) (hS : St w0 k0 X cs ks w) (R : Reg P ops Q w0 k0 X its bl olds a0 (ad ks)) (hB : startB bl cs.length = true) (hcs : (bl.map (·.before)).take cs.length = cs) (hE : (∀ e ∈ bl, ∀ j, e.al = some j ∨ e.st = some j → j < its.length) ∧ ∀ e ∈ bl, e.fin.length = e.before.length)
    (hp : ∀ (new : List Nat) (w' : World), new.length = bl.length - cs.length → St w0 k0 X (bl.map Bl.fin) (ks ++ new) w' → Q .normal (puts (ad (ks ++ new)) its a0) w') : (Code.region id ops true).wp P Q a0 w := by
  obtain ⟨hst, hlenb⟩ := hE
  have key : ∀ (fuel : Nat) (L : Array Bool) (a : Act) (w : World), unl L = fuel → Inv ops its bl a0 w0 k0 X (ad ks) L a w → wpAny P .any ops Q fuel L a w := by
    intro fuel
    induction fuel with
    | zero =>
      intro L a w hu hI
      have hall : ∀ i, i < its.length → on L i = true := fun i hi => unl_zero hu i (by rw [hI.size]; exact hi)
      refine ⟨?_, hI.done R hS.len hB hall hst hlenb hp⟩
      apply List.eq_nil_iff_forall_not_mem.2
      intro i hi
      obtain ⟨h1, o, ho, -⟩ := mem_ready.1 hi
      have h2 := hall i (R.back ho).1
      unfold on at h2
      rw [Array.getD_eq_getD_getElem?] at h1 h2
      cases hh : L[i]? with
      | none => rw [hh] at h1; cases h1
      | some b => rw [hh] at h1 h2; rw [show b = false from h1] at h2; cases h2
    | succ fuel ih =>
      intro L a w hu hI
      refine ⟨fun hr => hI.done R hS.len hB (R.full hI hr) hst hlenb hp, fun i hi => ?_⟩
      obtain ⟨h1, o, ho, hdep⟩ := mem_ready.1 hi
      have hoff : on L i = false := by
        unfold on
        rw [Array.getD_eq_getD_getElem?] at h1 ⊢
        cases hh : L[i]? with
        | none => rfl
        | some b => rw [hh] at h1; exact h1
      exact wpOp_mono (fun a' w' hI' => ih _ a' w' (by have := unl_set h1; omega) hI') (R.step ho hoff hdep hI)
  refine wp_region_any hm (key _ _ a0 _ ?_ ?_)
  · unfold unl
    rw [Array.toList_replicate, List.countP_replicate]
    simp
  · rw [R.size]
    exact start_inv hS.drew hB hcs
/-- THE LAW, for a region in the order of its text. -/
theorem region_text' {id : Nat} {cs : List (List Value)} {ks : List Nat} (hS : St w0 k0 X cs ks w) (R : Reg P ops Q w0 k0 X its bl olds a0 (ad ks)) (hB : startB bl cs.length = true) (hcs : (bl.map (·.before)).take cs.length = cs) (hE : (∀ e ∈ bl, ∀ j, e.al = some j ∨ e.st = some j → j < its.length) ∧ ∀ e ∈ bl, e.fin.length = e.before.length)
    (hp : ∀ (new : List Nat) (w' : World), new.length = bl.length - cs.length → St w0 k0 X (bl.map Bl.fin) (ks ++ new) w' → Q .normal (puts (ad (ks ++ new)) its a0) w') : (Code.region id ops false).wp P Q a0 w := by
  obtain ⟨hst, hlenb⟩ := hE
  have key : ∀ (m i : Nat) (L : Array Bool) (a : Act) (w : World), i + m = its.length → (∀ j, j < its.length → on L j = decide (j < i)) → Inv ops its bl a0 w0 k0 X (ad ks) L a w → wpOps P ops Q (List.range' i m) a w := by
    intro m
    induction m with
    | zero =>
      intro i L a w hi hL hI
      exact hI.done R hS.len hB (fun j hj => by rw [hL j hj]; simp; omega) hst hlenb hp
    | succ m ih =>
      intro i L a w hi hL hI
      rw [List.range'_succ, wpOps_cons]
      have ho : ops[i]? = some (ops[i]'(by rw [R.size]; omega)) := Array.getElem?_eq_getElem _
      refine wpOp_mono (fun a' w' hI' => ih (i + 1) _ a' w' (by omega) (fun j hj => ?_) hI') (R.step ho (by rw [hL i (by omega)]; simp) (fun e he hb => ?_) hI)
      · rw [on_set (by rw [hI.size]; omega), hL j hj]
        by_cases h1 : j < i
        · simp [h1]; omega
        · by_cases h2 : i = j
          · subst h2; simp
          · have : ¬ j < i + 1 := by omega
            simp [h1, h2, this]
      · have hlt := (R.back ho).2 e he hb
        rw [hL e.on (by omega)]
        simpa using hlt
  refine wp_region ?_
  rw [List.range_eq_range', R.size]
  refine key its.length 0 (Array.replicate its.length false) a0 w (by omega) (fun j hj => ?_) (start_inv hS hB hcs)
  unfold on
  rw [Array.getD_eq_getD_getElem?, Array.getElem?_replicate, if_pos hj]
  simp
theorem region_draws {id : Nat} {cs : List (List Value)} {ks : List Nat} (hm : P.follows .mixedOrders = true) (hS : St w0 k0 X cs ks w) (R : Reg P ops Q w0 k0 X its bl olds a0 (ad ks)) (hB : startB bl cs.length = true) (hcs : (bl.map (·.before)).take cs.length = cs) (hE : endB its bl = true)
    (hp : ∀ (new : List Nat) (w' : World), new.length = bl.length - cs.length → St w0 k0 X (bl.map Bl.fin) (ks ++ new) w' → Q .normal (puts (ad (ks ++ new)) its a0) w') : (Code.region id ops true).wp P Q a0 w :=
  region_draws' hm hS R hB hcs (endB_st hE) hp
theorem region_text {id : Nat} {cs : List (List Value)} {ks : List Nat} (hS : St w0 k0 X cs ks w) (R : Reg P ops Q w0 k0 X its bl olds a0 (ad ks)) (hB : startB bl cs.length = true) (hcs : (bl.map (·.before)).take cs.length = cs) (hE : endB its bl = true)
    (hp : ∀ (new : List Nat) (w' : World), new.length = bl.length - cs.length → St w0 k0 X (bl.map Bl.fin) (ks ++ new) w' → Q .normal (puts (ad (ks ++ new)) its a0) w') : (Code.region id ops false).wp P Q a0 w :=
  region_text' hS R hB hcs (endB_st hE) hp
end Go.Proofs.Ytifkmkllljfeaaa.RG
namespace Go.Proofs.Ytifkmkllljfeaaa.RG
open Go Go.RowKit
variable {P : Program} {Q : Exit → Act → World → Prop} {its : List It} {bl : List Bl} {olds : List (Tmp × SV)} {ops : Array Oper} {i : Nat} {o : Oper} {it : It} {w0 : World} {k0 : Nat} {X : List Nat}
theorem cert_stay (hk : it.kind = .stay) (hrun : ∀ (μ : Nat → Nat) (a : Act) (w : World), Known ops i its olds it.need μ a → BelX k0 X w0 w → (execOp a.eval o).run P w = .ok (.value (it.out.at μ)) w) : Cert P Q w0 k0 X ops i its bl olds o it := by
  intro μ a w K hK _ hbel
  rw [hk]
  intro h
  unfold Oper.wp
  rw [hrun μ a w hK hbel]
  exact h
theorem cert_load (hk : it.kind = .stay) (b off : Nat) (e : Bl) (hb : bl[b]? = some e) (hal : e.al = none) (hst : readB ops i e = true) (T : TypeId) (t : Tmp) (ho : o.op = .load T (.tmp t)) (cs : List Value) (hout : it.out = .v (.agg cs.toArray))
    (hx : ∀ (μ : Nat → Nat) (a : Act), Known ops i its olds it.need μ a → a.eval (.tmp t) = (SV.p b off).at μ) (hsub : (e.before.drop off).take cs.length = cs)
    (hu : (P.underlying T).map (·.isRow) = some true) (hi : (P.info? T).map (·.size) = some cs.length) : Cert P Q w0 k0 X ops i its bl olds o it := by
  intro μ a w K hK hR _
  rw [hk]
  intro h
  rw [hout] at h
  obtain ⟨d, hu, hd⟩ := Option.map_eq_some_iff.1 hu
  refine wp_load_mid T (.tmp t) ho (μ b) off (hx μ a hK) cs d (fun j v hj => ?_) hu hd hi h
  have h1 := hR b e hb (Or.inl hal) hst (off + j) v ?_
  · rw [Nat.zero_add] at h1; exact h1
  · rw [← hsub] at hj
    have hlt : j < cs.length := by
      have h2 := (List.getElem?_eq_some_iff.1 hj).1
      rw [hsub] at h2
      exact h2
    rw [List.getElem?_take, if_pos hlt, List.getElem?_drop] at hj
    exact hj
/-- A cell of one word, a slice, a pointer: no row. -/
theorem cert_call (hk : it.kind = .call) (f : FuncId) (args : Array Value) (v : Value) (hout : it.out = .v v) (hrun : ∀ (μ : Nat → Nat) (a : Act) (w : World), Known ops i its olds it.need μ a → BelX k0 X w0 w → (execOp a.eval o).run P w = .ok (.enter f args) w)
    (hc : ∀ w, BelX k0 X w0 w → Calls P f args w (Ret fun e w' => Below w.heap.size w w' ∧ e = v)) : Cert P Q w0 k0 X ops i its bl olds o it := by
  intro μ a w K hK _ hbel
  rw [hk]
  intro h
  rw [hout] at h
  unfold Oper.wp
  rw [hrun μ a w hK hbel, Oper.upon_enter]
  refine (hc w hbel).mono ?_
  rintro e w' ⟨v', rfl, hb, rfl⟩
  exact h w' hb
theorem cert_make (b : Nat) (hk : it.kind = .make b) (e : Bl) (hb : bl[b]? = some e) (t : TypeId) (hrun : ∀ (μ : Nat → Nat) (a : Act) (w : World), Known ops i its olds it.need μ a → BelX k0 X w0 w → (execOp a.eval o).run P w = .ok (.value (it.out.at (upd μ b w.heap.size))) (w.alloc (.cells e.before.toArray t))) : Cert P Q w0 k0 X ops i its bl olds o it := by
  intro μ a w K hK _ hbel
  rw [hk]
  intro e' hb' h
  rw [hb] at hb'
  obtain rfl : e = e' := Option.some.inj hb'
  unfold Oper.wp
  rw [hrun μ a w hK hbel]
  exact h _ _ (Made.alloc w e.before t)
theorem cert_put (b : Nat) (hk : it.kind = .put b) (e : Bl) (hb : bl[b]? = some e) (T : TypeId) (x y : Operand) (ho : o.op = .store T x y) (hdn : o.dst = none) (hlen : e.after.length = e.before.length)
    (hx : ∀ (μ : Nat → Nat) (a : Act), Known ops i its olds it.need μ a → a.eval x = (SV.p b 0).at μ) (hy : ∀ (μ : Nat → Nat) (a : Act), Known ops i its olds it.need μ a → a.eval y = .agg e.after.toArray)
    (hi : (P.info? T).map (·.size) = some e.after.length) (h1 : e.after.all (·.oneCell') = true) : Cert P Q w0 k0 X ops i its bl olds o it := by
  intro μ a w K hK _ _
  rw [hk]
  intro e' hb' ht hr h
  rw [hb] at hb'
  obtain rfl : e = e' := Option.some.inj hb'
  have hPT := PutTo.whole ht hr hlen
  refine wp_store_mid T x y ho (μ b) 0 e.after.toArray (hx μ a hK) (hy μ a hK) ?_ ?_ ?_ ?_
  · rw [List.size_toArray, hlen]; exact ht
  · rw [List.size_toArray]; exact hi
  · exact all_oneCell_toArray (fun v hv => List.all_eq_true.1 h1 v hv)
  · have := h _ hPT
    rw [hdn] at this ⊢
    exact this
theorem Known.op {need : List (Tmp × Nat)} {μ : Nat → Nat} {a : Act} (h : Known ops i its olds need μ a) (t : Tmp) (j : Nat) (hm : (t, j) ∈ need) {jt : It} (hj : its[j]? = some jt) : a.eval (.tmp t) = jt.out.at μ := h.1 t j jt hm hj
theorem Known.old {need : List (Tmp × Nat)} {μ : Nat → Nat} {a : Act} (h : Known ops i its olds need μ a) (t : Tmp) (s : SV) (hm : (t, s) ∈ olds) (hf : freeB ops its i t = true) : a.eval (.tmp t) = s.at μ := h.2 t s hm hf
theorem len1 {l : List Nat} (h : l.length = 1) : ∃ k, l = [k] := List.length_eq_one_iff.1 h
theorem len0 {l : List Nat} (h : l.length = 0) : l = [] := List.length_eq_zero_iff.1 h
theorem len2 {l : List Nat} (h : l.length = 2) : ∃ k j, l = [k, j] := by
  match l, h with
  | [k, j], _ => exact ⟨k, j, rfl⟩
end Go.Proofs.Ytifkmkllljfeaaa.RG
set_option linter.unusedVariables false
set_option linter.unusedSimpArgs false
namespace Go.Proofs.Ytifkmkllljfeaaa.RG
open Go Go.RowKit
variable {P : Program} {ops : Array Oper} {Q : Exit → Act → World → Prop} {w0 w : World} {k0 : Nat} {X : List Nat} {its : List It} {bl : List Bl} {olds : List (Tmp × SV)} {a0 : Act} {L : Array Bool} {μ μ0 : Nat → Nat} {i : Nat} {o : Oper} {it : It}
def Certs (P : Program) (Q : Exit → Act → World → Prop) (w0 : World) (k0 : Nat) (X : List Nat) (ops : Array Oper) (its : List It) (bl : List Bl) (olds : List (Tmp × SV)) : Nat → List Oper → List It → Prop
  | _, [], _ => True
  | _, _ :: _, [] => False
  | i, o :: os, it :: is => Cert P Q w0 k0 X ops i its bl olds o it ∧ Certs P Q w0 k0 X ops its bl olds (i + 1) os is
theorem Certs.get : ∀ {os : List Oper} {is : List It} {n : Nat}, Certs P Q w0 k0 X ops its bl olds n os is → ∀ (i : Nat) (o : Oper) (it : It), os[i]? = some o → is[i]? = some it → Cert P Q w0 k0 X ops (n + i) its bl olds o it
  | [], _, _, _, i, _, _, h, _ => by simp at h
  | _ :: _, [], _, h, _, _, _, _, _ => h.elim
  | o :: os, it :: is, _, h, 0, o', it', ho, hi => by
    obtain rfl : o = o' := by simpa using ho
    obtain rfl : it = it' := by simpa using hi
    exact h.1
  | o :: os, it :: is, n, h, i + 1, o', it', ho, hi => by
    have := Certs.get h.2 i o' it' (by simpa using ho) (by simpa using hi)
    rw [show n + (i + 1) = n + 1 + i by omega]
    exact this
def Olds (a0 : Act) (μ0 : Nat → Nat) : List (Tmp × SV) → Prop
  | [] => True
  | x :: r => a0.tmps[x.1]? = some (x.2.at μ0) ∧ Olds a0 μ0 r
theorem Olds.get : ∀ {l : List (Tmp × SV)}, Olds a0 μ0 l → ∀ (t : Tmp) (s : SV), (t, s) ∈ l → a0.tmps[t]? = some (s.at μ0)
  | [], _, _, _, h => by cases h
  | x :: r, h, t, s, hm => by
    rcases List.mem_cons.1 hm with e | e
    · subst e; exact h.1
    · exact Olds.get h.2 t s e
theorem Reg.mk' (chk : allB ops its bl olds a0.tmps.size = true) (old : Olds a0 μ0 olds) (cert : Certs P Q w0 k0 X ops its bl olds 0 ops.toList its) : Reg P ops Q w0 k0 X its bl olds a0 μ0 :=
  ⟨chk, fun t s hm => old.get t s hm, fun i o it ho hi => by have := cert.get i o it (by rw [Array.getElem?_toList]; exact ho) hi; rwa [Nat.zero_add] at this⟩
theorem cert_field (hk : it.kind = .stay) (T : TypeId) (t : Tmp) (f : Nat) (ho : o.op = .fieldAddr T (.tmp t) f) (b off off' : Nat) (hout : it.out = .p b off')
    (hx : ∀ (μ : Nat → Nat) (a : Act), Known ops i its olds it.need μ a → a.eval (.tmp t) = (SV.p b off).at μ)
    (hf : ∀ (k : Nat) (w : World), (Instr.fieldAt T (.pointer (some ⟨k, off, none⟩)) f).run P w = .ok (.pointer (some ⟨k, off', none⟩)) w) : Cert P Q w0 k0 X ops i its bl olds o it := by
  refine cert_stay hk fun μ a w hK _ => ?_
  unfold execOp
  rw [ho, hout]
  dsimp only
  rw [hx μ a hK]
  show ((Instr.fieldAt T (.pointer (some ⟨μ b, off, none⟩)) f) >>= fun v => pure (Next.value v)).run P w = _
  rw [Sem.run_bind, hf]
  rfl
theorem cert_call1 (hk : it.kind = .call) (f : FuncId) (t1 : Tmp) (v1 v : Value) (hout : it.out = .v v) (hrun : ∀ (a : Act) (w : World), (execOp a.eval o).run P w = .ok (.enter f #[a.eval (.tmp t1)]) w)
    (h1 : ∀ (μ : Nat → Nat) (a : Act), Known ops i its olds it.need μ a → a.eval (.tmp t1) = v1) (hc : ∀ w, Calls P f #[v1] w (Ret fun e w' => Below w.heap.size w w' ∧ e = v)) : Cert P Q w0 k0 X ops i its bl olds o it :=
  cert_call hk f #[v1] v hout (fun μ a w hK _ => by rw [hrun, h1 μ a hK]) (fun w _ => hc w)
theorem cert_call2 (hk : it.kind = .call) (f : FuncId) (t1 t2 : Tmp) (v1 v2 v : Value) (hout : it.out = .v v) (hrun : ∀ (a : Act) (w : World), (execOp a.eval o).run P w = .ok (.enter f #[a.eval (.tmp t1), a.eval (.tmp t2)]) w)
    (h1 : ∀ (μ : Nat → Nat) (a : Act), Known ops i its olds it.need μ a → a.eval (.tmp t1) = v1) (h2 : ∀ (μ : Nat → Nat) (a : Act), Known ops i its olds it.need μ a → a.eval (.tmp t2) = v2)
    (hc : ∀ w, Calls P f #[v1, v2] w (Ret fun e w' => Below w.heap.size w w' ∧ e = v)) : Cert P Q w0 k0 X ops i its bl olds o it :=
  cert_call hk f #[v1, v2] v hout (fun μ a w hK _ => by rw [hrun, h1 μ a hK, h2 μ a hK]) (fun w _ => hc w)
theorem cert_call3 (hk : it.kind = .call) (f : FuncId) (t1 t2 t3 : Tmp) (v1 v2 v3 v : Value) (hout : it.out = .v v) (hrun : ∀ (a : Act) (w : World), (execOp a.eval o).run P w = .ok (.enter f #[a.eval (.tmp t1), a.eval (.tmp t2), a.eval (.tmp t3)]) w)
    (h1 : ∀ (μ : Nat → Nat) (a : Act), Known ops i its olds it.need μ a → a.eval (.tmp t1) = v1) (h2 : ∀ (μ : Nat → Nat) (a : Act), Known ops i its olds it.need μ a → a.eval (.tmp t2) = v2) (h3 : ∀ (μ : Nat → Nat) (a : Act), Known ops i its olds it.need μ a → a.eval (.tmp t3) = v3)
    (hc : ∀ w, Calls P f #[v1, v2, v3] w (Ret fun e w' => Below w.heap.size w w' ∧ e = v)) : Cert P Q w0 k0 X ops i its bl olds o it :=
  cert_call hk f #[v1, v2, v3] v hout (fun μ a w hK _ => by rw [hrun, h1 μ a hK, h2 μ a hK, h3 μ a hK]) (fun w _ => hc w)
theorem cert_call0 (hk : it.kind = .call) (f : FuncId) (v : Value) (hout : it.out = .v v) (hrun : ∀ (a : Act) (w : World), (execOp a.eval o).run P w = .ok (.enter f #[]) w)
    (hc : ∀ w, Calls P f #[] w (Ret fun e w' => Below w.heap.size w w' ∧ e = v)) : Cert P Q w0 k0 X ops i its bl olds o it :=
  cert_call hk f #[] v hout (fun _ a w _ _ => hrun a w) (fun w _ => hc w)
theorem at_made {b k : Nat} (hout : it.out = .p b 0) : it.out.at (upd μ b k) = .pointer (some ⟨k, 0, none⟩) := by
  rw [hout]
  show Value.pointer (some ⟨upd μ b k b, 0, none⟩) = _
  unfold upd
  rw [if_pos rfl]
theorem cert_alloc (b : Nat) (hk : it.kind = .make b) (hout : it.out = .p b 0) (e : Bl) (hb : bl[b]? = some e) (T : TypeId) (ho : o.op = .alloc T) (hz : ∀ w : World, (Instr.alloc T true (.tuple #[])).run P w = .ok (.pointer (some ⟨w.heap.size, 0, none⟩)) (w.alloc (.cells e.before.toArray T))) : Cert P Q w0 k0 X ops i its bl olds o it := by
  refine cert_make b hk e hb T fun μ a w hK _ => ?_
  unfold execOp
  rw [ho]
  rw [at_made hout]
  show ((Instr.alloc T true (.tuple #[])) >>= fun v => pure (Next.value v)).run P w = _
  rw [Sem.run_bind, hz]
  rfl
theorem cert_box (b : Nat) (hk : it.kind = .make b) (hout : it.out = .p b 0) (e : Bl) (hb : bl[b]? = some e) (T : TypeId) (t : Tmp) (ho : o.op = .box T (.tmp t)) (v : Value) (h1 : ∀ (μ : Nat → Nat) (a : Act), Known ops i its olds it.need μ a → a.eval (.tmp t) = v)
    (hz : ∀ w : World, (Instr.box T v).run P w = .ok (.pointer (some ⟨w.heap.size, 0, none⟩)) (w.alloc (.cells e.before.toArray T))) : Cert P Q w0 k0 X ops i its bl olds o it := by
  refine cert_make b hk e hb T fun μ a w hK _ => ?_
  unfold execOp
  rw [ho]
  dsimp only
  rw [h1 μ a hK, at_made hout]
  show ((Instr.box T v) >>= fun v => pure (Next.value v)).run P w = _
  rw [Sem.run_bind, hz]
  rfl
theorem cert_build2 (hk : it.kind = .stay) (T : TypeId) (t1 t2 : Tmp) (ho : o.op = .build T #[(0, .tmp t1), (1, .tmp t2)]) (v1 v2 v : Value) (hout : it.out = .v v)
    (h1 : ∀ (μ : Nat → Nat) (a : Act), Known ops i its olds it.need μ a → a.eval (.tmp t1) = v1) (h2 : ∀ (μ : Nat → Nat) (a : Act), Known ops i its olds it.need μ a → a.eval (.tmp t2) = v2)
    (hb : ∀ w : World, (Instr.build T #[(0, v1), (1, v2)]).run P w = .ok v w) : Cert P Q w0 k0 X ops i its bl olds o it := by
  refine cert_stay hk fun μ a w hK _ => ?_
  unfold execOp
  rw [ho, hout]
  dsimp only
  simp only [List.map_toArray, List.map_cons, List.map_nil, h1 μ a hK, h2 μ a hK]
  rw [Sem.run_bind, hb]
  rfl
theorem cert_build3 (hk : it.kind = .stay) (T : TypeId) (t1 t2 t3 : Tmp) (ho : o.op = .build T #[(0, .tmp t1), (1, .tmp t2), (2, .tmp t3)]) (v1 v2 v3 v : Value) (hout : it.out = .v v)
    (h1 : ∀ (μ : Nat → Nat) (a : Act), Known ops i its olds it.need μ a → a.eval (.tmp t1) = v1) (h2 : ∀ (μ : Nat → Nat) (a : Act), Known ops i its olds it.need μ a → a.eval (.tmp t2) = v2) (h3 : ∀ (μ : Nat → Nat) (a : Act), Known ops i its olds it.need μ a → a.eval (.tmp t3) = v3)
    (hb : ∀ w : World, (Instr.build T #[(0, v1), (1, v2), (2, v3)]).run P w = .ok v w) : Cert P Q w0 k0 X ops i its bl olds o it := by
  refine cert_stay hk fun μ a w hK _ => ?_
  unfold execOp
  rw [ho, hout]
  dsimp only
  simp only [List.map_toArray, List.map_cons, List.map_nil, h1 μ a hK, h2 μ a hK, h3 μ a hK]
  rw [Sem.run_bind, hb]
  rfl
theorem results_row {fn : Func} {a : Act} {cs : List (List Value)} {ks : List Nat} (hS : St w0 k0 X cs ks w) (t : Tmp) (T : TypeId) (hr : fn.results = #[.cell t T]) (b : Nat) (c : List Value) (hc : cs[b]? = some c) (ht : a.tmps[t]? = some (.pointer (some ⟨ad ks b, 0, none⟩)))
    (hu : (P.underlying T).map (·.isRow) = some true) (hi : (P.info? T).map (·.size) = some c.length) : (results fn a.tmps).run P w = .ok (.agg c.toArray) w := by
  obtain ⟨d, hu, hd⟩ := Option.map_eq_some_iff.1 hu
  have h1 := run_loadVar_mid (P := P) w (ad ks b) 0 T c d (hS.has b c hc).1 hu hd hi
  have h2 : a.tmps.getD t undef = .pointer (some ⟨ad ks b, 0, none⟩) := by rw [Array.getD_eq_getD_getElem?, ht]; rfl
  unfold results
  rw [hr]
  simp only [Array.mapM_eq_mapM_toList, List.mapM_cons, List.mapM_nil, h2, asAddr]
  simp [Sem.run_bind, h1]
theorem len3 {l : List Nat} (h : l.length = 3) : ∃ k j i, l = [k, j, i] := by
  match l, h with
  | [k, j, i], _ => exact ⟨k, j, i, rfl⟩
theorem St.begin (w : World) : St w w.heap.size [] [] [] w := ⟨BelX.refl _ _ _, Nat.le_refl _, rfl, fun b c h => by simp at h, fun b c h => by simp at h⟩
end Go.Proofs.Ytifkmkllljfeaaa.RG
namespace Go.Proofs.Ytifkmkllljfeaaa.NT
def IsP (n : Nat) : Prop := 2 ≤ n ∧ ∀ m, m ∣ n → m = 1 ∨ m = n
theorem IsP.cop {p k : Nat} (h : IsP p) (h0 : 0 < k) (hk : k < p) : Nat.Coprime p k := by
  unfold Nat.Coprime
  rcases h.2 _ (Nat.gcd_dvd_left p k) with e | e
  · exact e
  · have := Nat.le_of_dvd h0 (Nat.gcd_dvd_right p k)
    omega
theorem IsP.cop_of {p k : Nat} (h : IsP p) (hk : ¬ p ∣ k) : Nat.Coprime p k := by
  unfold Nat.Coprime
  rcases h.2 _ (Nat.gcd_dvd_left p k) with e | e
  · exact e
  · exact absurd (e ▸ Nat.gcd_dvd_right p k) hk
theorem IsP.euclid {p a b : Nat} (h : IsP p) (hd : p ∣ a * b) : p ∣ a ∨ p ∣ b := by
  by_cases ha : p ∣ a
  · exact Or.inl ha
  · exact Or.inr ((h.cop_of ha).dvd_of_dvd_mul_left hd)
/-! the binomials -/
def ch : Nat → Nat → Nat
  | _, 0 => 1
  | 0, _ + 1 => 0
  | n + 1, k + 1 => ch n k + ch n (k + 1)
theorem ch_zero (n : Nat) : ch n 0 = 1 := by cases n <;> rfl
theorem ch_above : ∀ (n k : Nat), n < k → ch n k = 0
  | 0, k + 1, _ => rfl
  | n + 1, k + 1, h => by
    rw [ch, ch_above n k (by omega), ch_above n (k + 1) (by omega)]
theorem ch_self : ∀ (n : Nat), ch n n = 1
  | 0 => rfl
  | n + 1 => by rw [ch, ch_self n, ch_above n (n + 1) (by omega)]
theorem ch_step : ∀ (n k : Nat), (k + 1) * ch (n + 1) (k + 1) = (n + 1) * ch n k
  | 0, 0 => rfl
  | 0, k + 1 => by simp [ch]
  | n + 1, 0 => by
    have h := ch_step n 0
    have e : ch (n + 1 + 1) (0 + 1) = ch (n + 1) 0 + ch (n + 1) (0 + 1) := rfl
    rw [ch_zero] at h
    rw [e, ch_zero]
    omega
  | n + 1, k + 1 => by
    have h1 := ch_step n k
    have h2 := ch_step n (k + 1)
    have e : ch (n + 1 + 1) (k + 1 + 1) = ch (n + 1) (k + 1) + ch (n + 1) (k + 1 + 1) := rfl
    have e3 : ch (n + 1) (k + 1) = ch n k + ch n (k + 1) := rfl
    rw [e, Nat.mul_add, h2]
    have : (k + 1 + 1) * ch (n + 1) (k + 1) = (n + 1) * ch n k + ch (n + 1) (k + 1) := by
      rw [← h1, Nat.add_mul (k + 1) 1, Nat.one_mul]
    rw [this, e3, Nat.add_mul (n + 1) 1, Nat.one_mul, Nat.mul_add]
    omega
def sumTo : Nat → (Nat → Nat) → Nat
  | 0, _ => 0
  | n + 1, f => sumTo n f + f n
theorem sumTo_congr (f g : Nat → Nat) : ∀ n, (∀ k, k < n → f k = g k) → sumTo n f = sumTo n g
  | 0, _ => rfl
  | n + 1, h => by
    rw [sumTo, sumTo, sumTo_congr f g n (fun k hk => h k (by omega)), h n (by omega)]
theorem sumTo_add (f g : Nat → Nat) : ∀ n, sumTo n (fun k => f k + g k) = sumTo n f + sumTo n g
  | 0 => rfl
  | n + 1 => by simp only [sumTo]; rw [sumTo_add f g n]; omega
theorem sumTo_mul (a : Nat) (f : Nat → Nat) : ∀ n, sumTo n (fun k => a * f k) = a * sumTo n f
  | 0 => rfl
  | n + 1 => by simp only [sumTo]; rw [sumTo_mul a f n, Nat.mul_add]
theorem sumTo_front (f : Nat → Nat) : ∀ n, sumTo (n + 1) f = f 0 + sumTo n (fun k => f (k + 1))
  | 0 => by simp [sumTo]
  | n + 1 => by rw [sumTo, sumTo_front f n]; simp only [sumTo]; omega
theorem sumTo_dvd (p : Nat) (f : Nat → Nat) : ∀ n, (∀ k, k < n → p ∣ f k) → p ∣ sumTo n f
  | 0, _ => Nat.dvd_zero p
  | n + 1, h => Nat.dvd_add (sumTo_dvd p f n (fun k hk => h k (by omega))) (h n (by omega))
theorem binom (a : Nat) : ∀ n, (a + 1) ^ n = sumTo (n + 1) (fun k => ch n k * a ^ k)
  | 0 => by simp [sumTo, ch]
  | n + 1 => by
    rw [Nat.pow_succ, binom a n, Nat.mul_add, Nat.mul_one]
    rw [sumTo_front (fun k => ch (n + 1) k * a ^ k) (n + 1)]
    have e : sumTo (n + 1) (fun k => ch (n + 1) (k + 1) * a ^ (k + 1))
        = sumTo (n + 1) (fun k => a * (ch n k * a ^ k)) + sumTo (n + 1) (fun k => ch n (k + 1) * a ^ (k + 1)) := by
      rw [← sumTo_add]
      refine sumTo_congr _ _ _ ?_
      intro k _
      show (ch n k + ch n (k + 1)) * a ^ (k + 1) = _
      rw [Nat.add_mul, Nat.pow_succ]
      have : ch n k * (a ^ k * a) = a * (ch n k * a ^ k) := by
        rw [Nat.mul_comm a, Nat.mul_assoc]
      rw [this]
    rw [e, sumTo_mul]
    have e2 : sumTo (n + 1) (fun k => ch n k * a ^ k)
        = ch n 0 * a ^ 0 + sumTo n (fun k => ch n (k + 1) * a ^ (k + 1)) := sumTo_front (fun k => ch n k * a ^ k) n
    have e3 : sumTo (n + 1) (fun k => ch n (k + 1) * a ^ (k + 1)) = sumTo n (fun k => ch n (k + 1) * a ^ (k + 1)) := by
      rw [sumTo, ch_above n (n + 1) (by omega), Nat.zero_mul, Nat.add_zero]
    have e4 : ch (n + 1) 0 * a ^ 0 = ch n 0 * a ^ 0 := by rw [ch_zero, ch_zero]
    rw [e3, e4, Nat.mul_comm _ a]
    omega
theorem IsP.ch_dvd {p k : Nat} (h : IsP p) (hk : k + 1 < p) : p ∣ ch p (k + 1) := by
  obtain ⟨n, rfl⟩ : ∃ n, p = n + 1 := ⟨p - 1, by have := h.1; omega⟩
  have e := ch_step n k
  have hd : (n + 1) ∣ (k + 1) * ch (n + 1) (k + 1) := e ▸ Nat.dvd_mul_right _ _
  exact (h.cop (by omega) hk).dvd_of_dvd_mul_left hd
theorem IsP.frob {p : Nat} (h : IsP p) (a : Nat) : (a + 1) ^ p % p = (a ^ p + 1) % p := by
  obtain ⟨n, rfl⟩ : ∃ n, p = n + 1 := ⟨p - 1, by have := h.1; omega⟩
  rw [binom, sumTo, sumTo_front, ch_self, ch_zero]
  obtain ⟨c, hc⟩ : (n + 1) ∣ sumTo n (fun k => ch (n + 1) (k + 1) * a ^ (k + 1)) :=
    sumTo_dvd _ _ _ (fun k hk => Nat.dvd_mul_right_of_dvd (h.ch_dvd (by omega)) _)
  rw [hc]
  have : 1 * a ^ 0 + (n + 1) * c + 1 * a ^ (n + 1) = (a ^ (n + 1) + 1) + (n + 1) * c := by
    rw [Nat.pow_zero]; omega
  rw [this, Nat.add_mul_mod_self_left]
theorem IsP.fermat {p : Nat} (h : IsP p) : ∀ a, a ^ p % p = a % p
  | 0 => by
    rw [Nat.zero_pow (by have := h.1; omega)]
  | a + 1 => by
    rw [h.frob, Nat.add_mod, h.fermat a, ← Nat.add_mod]
theorem IsP.cancel {p a x y : Nat} (h : IsP p) (ha : ¬ p ∣ a) (e : a * x % p = a * y % p) : x % p = y % p := by
  have key : ∀ x y, y ≤ x → a * x % p = a * y % p → x % p = y % p := by
    intro x y hle e
    have h1 : p ∣ a * x - a * y := Nat.dvd_of_mod_eq_zero (Nat.sub_mod_eq_zero_of_mod_eq e)
    rw [← Nat.mul_sub] at h1
    obtain ⟨c, hc⟩ := (h.cop_of ha).dvd_of_dvd_mul_left h1
    have : x = y + p * c := by omega
    rw [this, Nat.add_mul_mod_self_left]
  rcases Nat.le_total y x with hle | hle
  · exact key x y hle e
  · exact (key y x hle e.symm).symm
theorem IsP.fermat1 {p : Nat} (h : IsP p) (a : Nat) (ha : ¬ p ∣ a) : a ^ (p - 1) % p = 1 := by
  obtain ⟨n, rfl⟩ : ∃ n, p = n + 1 := ⟨p - 1, by have := h.1; omega⟩
  have e := h.fermat a
  rw [Nat.pow_succ, Nat.mul_comm] at e
  have := h.cancel ha (x := a ^ n) (y := 1) (by rw [e, Nat.mul_one])
  rw [Nat.add_sub_cancel, this, Nat.mod_eq_of_lt h.1]
/-! powers that are 1 -/
theorem pow_gcd (b r : Nat) (hr : 1 < r) (x y : Nat) : b ^ x % r = 1 → b ^ y % r = 1 → b ^ (Nat.gcd x y) % r = 1 := by
  induction x, y using Nat.gcd.induction with
  | H0 n => intro _ h; rw [Nat.gcd_zero_left]; exact h
  | H1 m n hm ih =>
    intro h1 h2
    rw [Nat.gcd_rec]
    refine ih ?_ h1
    have e : b ^ n = (b ^ m) ^ (n / m) * b ^ (n % m) := by
      rw [← Nat.pow_mul, ← Nat.pow_add, Nat.div_add_mod]
    rw [e, Nat.mul_mod, Nat.pow_mod, h1, Nat.one_pow, Nat.mod_eq_of_lt hr, Nat.one_mul, Nat.mod_mod] at h2
    exact h2
theorem exists_prime : ∀ n, 2 ≤ n → ∃ r, IsP r ∧ r ∣ n ∧ (IsP n ∨ r * r ≤ n) := by
  intro n
  induction n using Nat.strongRecOn with
  | _ n ih =>
    intro hn
    by_cases hp : IsP n
    · exact ⟨n, hp, Nat.dvd_refl n, Or.inl hp⟩
    · have : ∃ m, m ∣ n ∧ m ≠ 1 ∧ m ≠ n := by
        refine Classical.byContradiction fun hc => hp ⟨hn, fun m hm => ?_⟩
        refine Classical.byContradiction fun hc2 => hc ⟨m, hm, fun e => hc2 (Or.inl e), fun e => hc2 (Or.inr e)⟩
      obtain ⟨m, ⟨k, hk⟩, h1, h2⟩ := this
      have hm0 : m ≠ 0 := by intro e; rw [e, Nat.zero_mul] at hk; omega
      have hk0 : k ≠ 0 := by intro e; rw [e, Nat.mul_zero] at hk; omega
      have hk1 : k ≠ 1 := by intro e; rw [e, Nat.mul_one] at hk; omega
      have hmn : m < n := by
        have := Nat.le_of_dvd (by omega) (⟨k, hk⟩ : m ∣ n); omega
      have hkn : k < n := by
        have := Nat.mul_le_mul_right k (show 2 ≤ m by omega); omega
      rcases Nat.le_total m k with hle | hle
      · obtain ⟨r, hr, hrd, _⟩ := ih m hmn (by omega)
        have hrm := Nat.le_of_dvd (by omega) hrd
        refine ⟨r, hr, Nat.dvd_trans hrd ⟨k, hk⟩, Or.inr ?_⟩
        rw [hk]; exact Nat.mul_le_mul hrm (Nat.le_trans hrm hle)
      · obtain ⟨r, hr, hrd, _⟩ := ih k hkn (by omega)
        have hrm := Nat.le_of_dvd (by omega) hrd
        refine ⟨r, hr, Nat.dvd_trans hrd ⟨m, by rw [hk, Nat.mul_comm]⟩, Or.inr ?_⟩
        rw [hk]; exact Nat.mul_le_mul (Nat.le_trans hrm hle) hrm
/-! what of a prime of n - 1 goes into the primes of n -/
theorem part {n q a r : Nat} (hq : IsP q) (hr : IsP r) (hrn : r ∣ n) (hn : 1 < n)
    (h1 : a ^ (n - 1) % n = 1) (hd : q ∣ n - 1) (h2 : Nat.gcd (a ^ ((n - 1) / q) % n + (n - 1)) n = 1) : q ∣ r - 1 := by
  have hr2 := hr.1
  have toR : ∀ x y, x % n = y % n → x % r = y % r := by
    intro x y e
    rw [← Nat.mod_mod_of_dvd x hrn, e, Nat.mod_mod_of_dvd y hrn]
  have hm : a ^ (n - 1) % r = 1 := by
    have := toR (a ^ (n - 1)) 1 (by rw [h1, Nat.mod_eq_of_lt hn])
    rw [this, Nat.mod_eq_of_lt hr2]
  have hra : ¬ r ∣ a := by
    intro hc
    have hz : a ^ (n - 1) % r = 0 := Nat.mod_eq_zero_of_dvd (Nat.dvd_trans hc (by
      have : a ^ 1 ∣ a ^ (n - 1) := Nat.pow_dvd_pow a (by omega)
      rwa [Nat.pow_one] at this))
    omega
  have hb : (a ^ ((n - 1) / q)) ^ q % r = 1 := by
    rw [← Nat.pow_mul, Nat.div_mul_cancel hd]; exact hm
  have hbr : ¬ r ∣ a ^ ((n - 1) / q) := by
    intro hc
    have : r ∣ (a ^ ((n - 1) / q)) ^ q := Nat.dvd_trans hc (by
      have : (a ^ ((n - 1) / q)) ^ 1 ∣ (a ^ ((n - 1) / q)) ^ q := Nat.pow_dvd_pow _ (by have := hq.1; omega)
      rwa [Nat.pow_one] at this)
    have := Nat.mod_eq_zero_of_dvd this
    omega
  have hg := pow_gcd _ r hr2 q (r - 1) hb (hr.fermat1 _ hbr)
  rcases hq.2 _ (Nat.gcd_dvd_left q (r - 1)) with e | e
  · rw [e, Nat.pow_one] at hg
    exfalso
    have hx : r ∣ a ^ ((n - 1) / q) % n + (n - 1) := by
      refine Nat.dvd_of_mod_eq_zero ?_
      have e1 : (a ^ ((n - 1) / q) % n) % r = 1 := by rw [Nat.mod_mod_of_dvd _ hrn]; exact hg
      have e2 : (n - 1 + 1) % r = 0 := by
        rw [Nat.sub_add_cancel (by omega)]; exact Nat.mod_eq_zero_of_dvd hrn
      have : (a ^ ((n - 1) / q) % n + (n - 1)) % r = (1 + (n - 1)) % r := by
        rw [Nat.add_mod, e1, Nat.add_mod 1 (n - 1), Nat.mod_eq_of_lt hr2]
      rw [this, Nat.add_comm, e2]
    have := Nat.dvd_gcd hx hrn
    rw [h2] at this
    have := Nat.le_of_dvd (by omega) this
    omega
  · rw [← e]; exact Nat.gcd_dvd_right _ _
theorem pock {n f : Nat} (hn : 1 < n) (hf : n < (f + 1) * (f + 1))
    (hall : ∀ r, IsP r → r ∣ n → f ∣ r - 1) : IsP n := by
  obtain ⟨r, hr, hrn, h | h⟩ := exists_prime n hn
  · exact h
  · have := Nat.le_of_dvd (by have := hr.1; omega) (hall r hr hrn)
    have h2 : f + 1 ≤ r := by have := hr.1; omega
    have := Nat.mul_le_mul h2 h2
    omega
/-! trial -/
def trial (n : Nat) : Nat → Nat → Bool
  | 0, _ => true
  | k + 1, d => (n % d != 0) && trial n k (d + 1)
theorem trial_no (n : Nat) : ∀ k d, trial n k d = true → ∀ m, d ≤ m → m < d + k → ¬ m ∣ n
  | 0, _, _, m, _, _ => by omega
  | k + 1, d, h, m, h1, h2 => by
    simp only [trial, Bool.and_eq_true, bne_iff_ne, ne_eq] at h
    rcases Nat.lt_or_ge d m with hlt | hge
    · exact trial_no n k (d + 1) h.2 m hlt (by omega)
    · have : m = d := by omega
      subst this
      intro hd
      exact h.1 (Nat.mod_eq_zero_of_dvd hd)
theorem small {n k : Nat} (hn : 2 ≤ n) (ht : trial n k 2 = true) (hk : n < (k + 2) * (k + 2)) : IsP n := by
  obtain ⟨r, hr, hrn, h | h⟩ := exists_prime n hn
  · exact h
  · have h2 := hr.1
    have hlt : r < 2 + k := by
      refine Classical.byContradiction fun hc => ?_
      have := Nat.mul_le_mul (show k + 2 ≤ r by omega) (show k + 2 ≤ r by omega)
      omega
    exact absurd hrn (trial_no n k 2 ht r h2 hlt)
/-! powers, reckoned -/
def pm (n : Nat) : Nat → Nat → Nat → Nat → Nat
  | 0, _, _, acc => acc
  | k + 1, a, e, acc => pm n k (a * a % n) (e / 2) (if e % 2 = 1 then acc * a % n else acc)
theorem pm_eq (n : Nat) : ∀ k a e acc, e < 2 ^ k → acc < n → pm n k a e acc = acc * a ^ e % n
  | 0, a, e, acc, h, ha => by
    have : e = 0 := by simpa using h
    subst this
    rw [pm, Nat.pow_zero, Nat.mul_one, Nat.mod_eq_of_lt ha]
  | k + 1, a, e, acc, h, ha => by
    have hn : 0 < n := by omega
    have hacc : (if e % 2 = 1 then acc * a % n else acc) < n := by
      split
      · exact Nat.mod_lt _ hn
      · exact ha
    rw [pm, pm_eq n k _ _ _ (by rw [Nat.pow_succ] at h; omega) hacc]
    have hsq : ∀ y, y * (a * a % n) ^ (e / 2) % n = y * (a * a) ^ (e / 2) % n := by
      intro y
      rw [Nat.mul_mod, ← Nat.pow_mod, ← Nat.mul_mod]
    rw [hsq]
    have he : a ^ e = a ^ (e % 2) * (a * a) ^ (e / 2) := by
      have : (a * a) = a ^ 2 := by rw [Nat.pow_succ, Nat.pow_one]
      rw [this, ← Nat.pow_mul, ← Nat.pow_add, Nat.mod_add_div]
    rw [he]
    split
    · rename_i h1
      rw [h1, Nat.pow_one, Nat.mul_mod, Nat.mod_mod, ← Nat.mul_mod, Nat.mul_assoc]
    · rename_i h1
      have : e % 2 = 0 := by omega
      rw [this, Nat.pow_zero, Nat.one_mul]
theorem part' {n q a r k : Nat} (hq : IsP q) (hr : IsP r) (hrn : r ∣ n) (hn : 1 < n) (hk : n < 2 ^ k)
    (h1 : pm n k a (n - 1) 1 = 1) (hd : (n - 1) % q = 0) (h2 : Nat.gcd (pm n k a ((n - 1) / q) 1 + (n - 1)) n = 1) : q ∣ r - 1 := by
  rw [pm_eq n k a (n - 1) 1 (by omega) hn, Nat.one_mul] at h1
  rw [pm_eq n k a _ 1 (Nat.lt_of_le_of_lt (Nat.div_le_self _ _) (by omega)) hn, Nat.one_mul] at h2
  exact part hq hr hrn hn h1 (Nat.dvd_of_mod_eq_zero hd) h2
/-! the two primes -/
theorem x21 : IsP 1627771 := small (k := 1275) (by decide) (by decide +kernel) (by decide)
theorem x30 : IsP 545358713 := small (k := 23352) (by decide) (by decide +kernel) (by decide)
theorem x26 : IsP 44706919 := small (k := 6686) (by decide) (by decide +kernel) (by decide)
theorem x17 : IsP 120233 := small (k := 346) (by decide) (by decide +kernel) (by decide)
theorem x27 : IsP 107590001 := small (k := 10372) (by decide) (by decide +kernel) (by decide)
theorem x23 : IsP 7240687 := small (k := 2690) (by decide) (by decide +kernel) (by decide)
theorem x16 : IsP 96557 := small (k := 310) (by decide) (by decide +kernel) (by decide)
theorem x39 : IsP 297159362677 :=
  pock (f := 1627771) (by decide) (by decide +kernel) (fun r hr hd => part' (k := 39) (a := 2) x21 hr hd (by decide) (by decide +kernel) (by decide +kernel) (by decide +kernel) (by decide +kernel))
theorem c95 : IsP 29047611873442575647497758179 :=
  pock (f := (545358713 * 297159362677)) (by decide) (by decide +kernel) (fun r hr hd => Nat.Coprime.mul_dvd_of_dvd_of_dvd (by decide +kernel) (part' (k := 95) (a := 2) x30 hr hd (by decide) (by decide +kernel) (by decide +kernel) (by decide +kernel) (by decide +kernel)) (part' (k := 95) (a := 2) x39 hr hd (by decide) (by decide +kernel) (by decide +kernel) (by decide +kernel) (by decide +kernel)))
theorem b68 : IsP 174723607534414371449 :=
  pock (f := (44706919 * 120233)) (by decide) (by decide +kernel) (fun r hr hd => Nat.Coprime.mul_dvd_of_dvd_of_dvd (by decide +kernel) (part' (k := 68) (a := 2) x26 hr hd (by decide) (by decide +kernel) (by decide +kernel) (by decide +kernel) (by decide +kernel)) (part' (k := 68) (a := 2) x17 hr hd (by decide) (by decide +kernel) (by decide +kernel) (by decide +kernel) (by decide +kernel)))
theorem c109 : IsP 341948486974166000522343609283189 :=
  pock (f := 29047611873442575647497758179) (by decide) (by decide +kernel) (fun r hr hd => part' (k := 109) (a := 2) c95 hr hd (by decide) (by decide +kernel) (by decide +kernel) (by decide +kernel) (by decide +kernel))
theorem pN : IsP 115792089237316195423570985008687907852837564279074904382605163141518161494337 :=
  pock (f := (174723607534414371449 * 341948486974166000522343609283189)) (by decide) (by decide +kernel) (fun r hr hd => Nat.Coprime.mul_dvd_of_dvd_of_dvd (by decide +kernel) (part' (k := 256) (a := 2) b68 hr hd (by decide) (by decide +kernel) (by decide +kernel) (by decide +kernel) (by decide +kernel)) (part' (k := 256) (a := 2) c109 hr hd (by decide) (by decide +kernel) (by decide +kernel) (by decide +kernel) (by decide +kernel)))
theorem e128 : IsP 255515944373312847190720520512484175977 :=
  pock (f := (107590001 * 7240687 * 96557)) (by decide) (by decide +kernel) (fun r hr hd => Nat.Coprime.mul_dvd_of_dvd_of_dvd (by decide +kernel) (Nat.Coprime.mul_dvd_of_dvd_of_dvd (by decide +kernel) (part' (k := 128) (a := 2) x27 hr hd (by decide) (by decide +kernel) (by decide +kernel) (by decide +kernel) (by decide +kernel)) (part' (k := 128) (a := 2) x23 hr hd (by decide) (by decide +kernel) (by decide +kernel) (by decide +kernel) (by decide +kernel))) (part' (k := 128) (a := 2) x16 hr hd (by decide) (by decide +kernel) (by decide +kernel) (by decide +kernel) (by decide +kernel)))
theorem q237 : IsP 205115282021455665897114700593932402728804164701536103180137503955397371 :=
  pock (f := 255515944373312847190720520512484175977) (by decide) (by decide +kernel) (fun r hr hd => part' (k := 237) (a := 2) e128 hr hd (by decide) (by decide +kernel) (by decide +kernel) (by decide +kernel) (by decide +kernel))
theorem pP : IsP 115792089237316195423570985008687907853269984665640564039457584007908834671663 :=
  pock (f := 205115282021455665897114700593932402728804164701536103180137503955397371) (by decide) (by decide +kernel) (fun r hr hd => part' (k := 256) (a := 2) q237 hr hd (by decide) (by decide +kernel) (by decide +kernel) (by decide +kernel) (by decide +kernel))
end Go.Proofs.Ytifkmkllljfeaaa.NT
namespace Go.Proofs.Ytifkmkllljfeaaa.EC
/-- A line through two points of the curve (or at one, twice): its slope l. -/
structure Line {P : Nat} [NeZero P] (x1 y1 x2 y2 l : Fin P) : Prop where
  go : y2 = y1 + l * (x2 - x1)
  on : l * (y1 + y2) = x1 ^ 2 + x1 * x2 + x2 ^ 2
variable {P : Nat} [NeZero P]
theorem on_curve (x1 y1 x2 y2 l x4 y4 : Fin P) (h1 : y1 ^ 2 = x1 ^ 3 + 7) (h2 : y2 ^ 2 = x2 ^ 3 + 7) (hl : Line x1 y1 x2 y2 l) (hx : x4 = l ^ 2 - x1 - x2) (hy : y4 = l * (x1 - x4) - y1) : y4 ^ 2 = x4 ^ 3 + 7 := by
  obtain ⟨e, h⟩ := hl
  subst hy hx e
  grobner
set_option maxHeartbeats 40000000 in
set_option maxRecDepth 100000 in
theorem assoc_x (x1 y1 x2 x3 l1 l2 y2 y3 x4 y4 x5 y5 : Fin P) (L1 : Line x1 y1 x2 y2 l1) (L2 : Line x2 y2 x3 y3 l2)
    (e4 : x4 = l1 ^ 2 - x1 - x2) (f4 : y4 = l1 * (x1 - x4) - y1) (e5 : x5 = l2 ^ 2 - x2 - x3) (f5 : y5 = l2 * (x2 - x5) - y2) :
    ((y4 - y3) ^ 2 - (x4 + x3) * (x4 - x3) ^ 2) * (x5 - x1) ^ 2 = ((y5 - y1) ^ 2 - (x1 + x5) * (x5 - x1) ^ 2) * (x4 - x3) ^ 2 := by
  obtain ⟨e2, h2⟩ := L1
  obtain ⟨e3, h3⟩ := L2
  subst f4 f5 e4 e5 e3 e2
  grobner
set_option maxHeartbeats 40000000 in
set_option maxRecDepth 100000 in
theorem assoc_y (x1 y1 x2 x3 l1 l2 y2 y3 x4 y4 x5 y5 : Fin P) (L1 : Line x1 y1 x2 y2 l1) (L2 : Line x2 y2 x3 y3 l2)
    (e4 : x4 = l1 ^ 2 - x1 - x2) (f4 : y4 = l1 * (x1 - x4) - y1) (e5 : x5 = l2 ^ 2 - x2 - x3) (f5 : y5 = l2 * (x2 - x5) - y2) :
    ((y4 - y3) ^ 2 - (x3 + x4) * (x4 - x3) ^ 2) * ((y5 - y1) * (x4 - x3) - (y4 - y3) * (x5 - x1)) + (x4 - x3) ^ 2 * (((y4 - y3) * x3 - y3 * (x4 - x3)) * (x5 - x1) - ((y5 - y1) * x1 - y1 * (x5 - x1)) * (x4 - x3)) = 0 := by
  obtain ⟨e2, h2⟩ := L1
  obtain ⟨e3, h3⟩ := L2
  subst f4 f5 e4 e5 e3 e2
  grobner (ringSteps := 100000000)
set_option maxHeartbeats 40000000 in
set_option maxRecDepth 100000 in
/-- Where C = A + B. -/
theorem assoc_x2 (x1 y1 x2 x3 l1 l2 y2 y3 x5 y5 : Fin P) (L1 : Line x1 y1 x2 y2 l1) (L2 : Line x2 y2 x3 y3 l2)
    (e4 : x3 = l1 ^ 2 - x1 - x2) (f4 : y3 = l1 * (x1 - x3) - y1) (e5 : x5 = l2 ^ 2 - x2 - x3) (f5 : y5 = l2 * (x2 - x5) - y2) :
    (9 * x3 ^ 4 - 8 * x3 * y3 ^ 2) * (x5 - x1) ^ 2 = ((y5 - y1) ^ 2 - (x1 + x5) * (x5 - x1) ^ 2) * (4 * y3 ^ 2) := by
  obtain ⟨e2, h2⟩ := L1
  obtain ⟨e3, h3⟩ := L2
  subst f5 e5 f4 e4 e2
  grobner (ringSteps := 100000000)
set_option maxHeartbeats 40000000 in
set_option maxRecDepth 100000 in
theorem assoc_y2 (x1 y1 x2 x3 l1 l2 y2 y3 x5 y5 : Fin P) (L1 : Line x1 y1 x2 y2 l1) (L2 : Line x2 y2 x3 y3 l2)
    (e4 : x3 = l1 ^ 2 - x1 - x2) (f4 : y3 = l1 * (x1 - x3) - y1) (e5 : x5 = l2 ^ 2 - x2 - x3) (f5 : y5 = l2 * (x2 - x5) - y2) :
    (3 * x3 ^ 2 * (x3 * (4 * y3 ^ 2) - (9 * x3 ^ 4 - 8 * x3 * y3 ^ 2)) - 2 * y3 ^ 2 * (4 * y3 ^ 2)) * (x5 - x1) = ((y5 - y1) * (x1 * (4 * y3 ^ 2) - (9 * x3 ^ 4 - 8 * x3 * y3 ^ 2)) - y1 * (x5 - x1) * (4 * y3 ^ 2)) * (2 * y3) := by
  obtain ⟨e2, h2⟩ := L1
  obtain ⟨e3, h3⟩ := L2
  subst f5 e5 f4 e4 e2
  grobner (ringSteps := 100000000)
end Go.Proofs.Ytifkmkllljfeaaa.EC
namespace Go.Proofs.Ytifkmkllljfeaaa.EC
variable {P : Nat} [NeZero P]
theorem val_zero : (0 : Fin P).val = 0 := by simp
theorem val_one (h : NT.IsP P) : (1 : Fin P).val = 1 := by
  have h2 := h.1
  show 1 % P = 1
  exact Nat.mod_eq_of_lt (by omega)
/-- No product of two that are not 0 is 0. -/
theorem nzd (h : NT.IsP P) {a b : Fin P} (e : a * b = 0) : a = 0 ∨ b = 0 := by
  have h1 : a.val * b.val % P = 0 := by
    have := congrArg Fin.val e
    rw [Fin.val_mul, val_zero] at this
    exact this
  rcases h.euclid (Nat.dvd_of_mod_eq_zero h1) with h2 | h2
  · exact Or.inl (Fin.ext (by rw [val_zero]; exact Nat.eq_zero_of_dvd_of_lt h2 a.isLt))
  · exact Or.inr (Fin.ext (by rw [val_zero]; exact Nat.eq_zero_of_dvd_of_lt h2 b.isLt))
theorem mul_ne (h : NT.IsP P) {a b : Fin P} (ha : a ≠ 0) (hb : b ≠ 0) : a * b ≠ 0 := fun e => (nzd h e).elim ha hb
theorem cancel (h : NT.IsP P) {a b c : Fin P} (ha : a ≠ 0) (e : b * a = c * a) : b = c := by
  have h1 : (b - c) * a = 0 := by grobner
  rcases nzd h h1 with h2 | h2
  · grobner
  · exact absurd h2 ha
/-- The inverse. -/
def inv (a : Fin P) : Fin P := Fin.ofNat P (a.val ^ (P - 2))
theorem inv_mul (h : NT.IsP P) {a : Fin P} (ha : a ≠ 0) : inv a * a = 1 := by
  apply Fin.ext
  have h2 := h.1
  have hn : ¬ P ∣ a.val := fun hd => ha (Fin.ext (by rw [val_zero]; exact Nat.eq_zero_of_dvd_of_lt hd a.isLt))
  rw [Fin.val_mul, val_one h]
  show a.val ^ (P - 2) % P * a.val % P = 1
  rw [Nat.mod_mul_mod, ← Nat.pow_succ, show (P - 2).succ = P - 1 by omega]
  exact h.fermat1 _ hn
end Go.Proofs.Ytifkmkllljfeaaa.EC
namespace Go.Proofs.Ytifkmkllljfeaaa.EC
variable {P : Nat} [NeZero P]
/-- A point, or nothing. -/
abbrev Pt (P : Nat) := Option (Fin P × Fin P)
def On : Pt P → Prop
  | none => True
  | some (x, y) => y ^ 2 = x ^ 3 + 7
def neg : Pt P → Pt P
  | none => none
  | some (x, y) => some (x, -y)
def slope (x1 y1 x2 y2 : Fin P) : Fin P := if x1 = x2 then 3 * x1 ^ 2 * inv (2 * y1) else (y2 - y1) * inv (x2 - x1)
/-- What a slope makes of two points. -/
def third (x1 y1 x2 l : Fin P) : Pt P := some (l ^ 2 - x1 - x2, l * (x1 - (l ^ 2 - x1 - x2)) - y1)
def add : Pt P → Pt P → Pt P
  | none, b => b
  | a, none => a
  | some (x1, y1), some (x2, y2) => if x1 = x2 ∧ y2 = -y1 then none else third x1 y1 x2 (slope x1 y1 x2 y2)
theorem same_y (h : NT.IsP P) {x y1 y2 : Fin P} (h1 : y1 ^ 2 = x ^ 3 + 7) (h2 : y2 ^ 2 = x ^ 3 + 7) (ho : ¬ y2 = -y1) : y2 = y1 := by
  have e : (y2 - y1) * (y2 + y1) = 0 := by grobner
  rcases nzd h e with e | e
  · grobner
  · exact absurd (by grobner) ho
theorem twice_ne {x y1 : Fin P} (h : NT.IsP P) (h2 : (2 : Fin P) ≠ 0) (ho : ¬ (x = x ∧ y1 = -y1)) : 2 * y1 ≠ 0 := fun e => by
  rcases nzd h e with e | e
  · exact h2 e
  · exact ho ⟨rfl, by rw [e]; grobner⟩
theorem slope_line (h : NT.IsP P) (h2 : (2 : Fin P) ≠ 0) {x1 y1 x2 y2 : Fin P} (o1 : y1 ^ 2 = x1 ^ 3 + 7) (o2 : y2 ^ 2 = x2 ^ 3 + 7) (ho : ¬ (x1 = x2 ∧ y2 = -y1)) : Line x1 y1 x2 y2 (slope x1 y1 x2 y2) := by
  unfold slope
  by_cases hx : x1 = x2
  · subst hx
    rw [if_pos rfl]
    have hy := same_y h o1 o2 (fun e => ho ⟨rfl, e⟩)
    subst hy
    have hi := inv_mul h (twice_ne h h2 ho)
    generalize inv (2 * y2) = i at hi
    exact ⟨by grobner, by grobner⟩
  · rw [if_neg hx]
    have hd : x2 - x1 ≠ 0 := fun e => hx (by grobner)
    have hi := inv_mul h hd
    generalize inv (x2 - x1) = i at hi
    refine ⟨by grobner, cancel h hd (by grobner)⟩
theorem line_unique (h : NT.IsP P) (h2 : (2 : Fin P) ≠ 0) {x1 y1 x2 y2 l m : Fin P} (o1 : y1 ^ 2 = x1 ^ 3 + 7) (o2 : y2 ^ 2 = x2 ^ 3 + 7) (ho : ¬ (x1 = x2 ∧ y2 = -y1)) (L : Line x1 y1 x2 y2 l) (M : Line x1 y1 x2 y2 m) : l = m := by
  obtain ⟨a1, b1⟩ := L
  obtain ⟨a2, b2⟩ := M
  by_cases hx : x1 = x2
  · subst hx
    have hy := same_y h o1 o2 (fun e => ho ⟨rfl, e⟩)
    subst hy
    exact cancel h (twice_ne h h2 ho) (by grobner)
  · have hd : x2 - x1 ≠ 0 := fun e => hx (by grobner)
    exact cancel h hd (by grobner)
theorem add_line (h : NT.IsP P) (h2 : (2 : Fin P) ≠ 0) {x1 y1 x2 y2 l : Fin P} (o1 : y1 ^ 2 = x1 ^ 3 + 7) (o2 : y2 ^ 2 = x2 ^ 3 + 7) (ho : ¬ (x1 = x2 ∧ y2 = -y1)) (L : Line x1 y1 x2 y2 l) : add (some (x1, y1)) (some (x2, y2)) = third x1 y1 x2 l := by
  show (if x1 = x2 ∧ y2 = -y1 then none else third x1 y1 x2 (slope x1 y1 x2 y2)) = _
  rw [if_neg ho, line_unique h h2 o1 o2 ho (slope_line h h2 o1 o2 ho) L]
theorem add_opp {x1 y1 x2 y2 : Fin P} (ho : x1 = x2 ∧ y2 = -y1) : add (some (x1, y1)) (some (x2, y2)) = none := by
  show (if x1 = x2 ∧ y2 = -y1 then none else third x1 y1 x2 (slope x1 y1 x2 y2)) = _
  rw [if_pos ho]
theorem add_none (a : Pt P) : add a none = a := by cases a <;> rfl
theorem Line.swap {x1 y1 x2 y2 l : Fin P} (L : Line x1 y1 x2 y2 l) : Line x2 y2 x1 y1 l := by
  obtain ⟨a, b⟩ := L
  exact ⟨by grobner, by grobner⟩
theorem third_swap {x1 y1 x2 y2 l : Fin P} (L : Line x1 y1 x2 y2 l) : third x1 y1 x2 l = third x2 y2 x1 l := by
  obtain ⟨a, b⟩ := L
  unfold third
  have e1 : l ^ 2 - x1 - x2 = l ^ 2 - x2 - x1 := by grobner
  have e2 : l * (x1 - (l ^ 2 - x1 - x2)) - y1 = l * (x2 - (l ^ 2 - x2 - x1)) - y2 := by grobner
  rw [e2, e1]
theorem add_comm (h : NT.IsP P) (h2 : (2 : Fin P) ≠ 0) (a b : Pt P) (ha : On a) (hb : On b) : add a b = add b a := by
  rcases a with _ | ⟨x1, y1⟩
  · rw [add_none]; rfl
  · rcases b with _ | ⟨x2, y2⟩
    · rfl
    · by_cases ho : x1 = x2 ∧ y2 = -y1
      · rw [add_opp ho, add_opp ⟨ho.1.symm, by rw [ho.2]; grobner⟩]
      · have ho' : ¬ (x2 = x1 ∧ y1 = -y2) := fun e => ho ⟨e.1.symm, by rw [e.2]; grobner⟩
        have L := slope_line h h2 ha hb ho
        rw [add_line h h2 ha hb ho L, add_line h h2 hb ha ho' L.swap, third_swap L]
theorem add_on (h : NT.IsP P) (h2 : (2 : Fin P) ≠ 0) (a b : Pt P) (ha : On a) (hb : On b) : On (add a b) := by
  rcases a with _ | ⟨x1, y1⟩
  · exact hb
  · rcases b with _ | ⟨x2, y2⟩
    · exact ha
    · by_cases ho : x1 = x2 ∧ y2 = -y1
      · rw [add_opp ho]; trivial
      · have L := slope_line h h2 ha hb ho
        rw [add_line h h2 ha hb ho L]
        exact on_curve x1 y1 x2 y2 _ _ _ ha hb L rfl rfl
end Go.Proofs.Ytifkmkllljfeaaa.EC
namespace Go.Proofs.Ytifkmkllljfeaaa.EC
variable {P : Nat} [NeZero P]
theorem neg_on {a : Pt P} (h : On a) : On (neg a) := by
  rcases a with _ | ⟨x, y⟩
  · trivial
  · have h' : y ^ 2 = x ^ 3 + 7 := h
    show (-y) ^ 2 = x ^ 3 + 7
    grobner
theorem neg_neg' (a : Pt P) : neg (neg a) = a := by
  rcases a with _ | ⟨x, y⟩
  · rfl
  · show some (x, - -y) = some (x, y)
    have : - -y = y := by grobner
    rw [this]
theorem add_neg (a : Pt P) : add a (neg a) = none := by
  rcases a with _ | ⟨x, y⟩
  · rfl
  · exact add_opp ⟨rfl, rfl⟩
theorem Line.neg {x1 y1 x2 y2 l : Fin P} (L : Line x1 y1 x2 y2 l) : Line x1 (-y1) x2 (-y2) (-l) := by
  obtain ⟨a, b⟩ := L
  exact ⟨by grobner, by grobner⟩
theorem neg_add (h : NT.IsP P) (h2 : (2 : Fin P) ≠ 0) {a b : Pt P} (ha : On a) (hb : On b) : neg (add a b) = add (neg a) (neg b) := by
  rcases a with _ | ⟨x1, y1⟩
  · rfl
  · rcases b with _ | ⟨x2, y2⟩
    · rfl
    · by_cases ho : x1 = x2 ∧ y2 = -y1
      · rw [add_opp ho]
        exact (add_opp ⟨ho.1, by rw [ho.2]⟩).symm
      · have L := slope_line h h2 ha hb ho
        have ho' : ¬ (x1 = x2 ∧ -y2 = - -y1) := fun e => ho ⟨e.1, by have := e.2; grobner⟩
        rw [add_line h h2 ha hb ho L]
        refine Eq.trans ?_ (add_line h h2 (neg_on (a := some (x1, y1)) ha) (neg_on (a := some (x2, y2)) hb) ho' L.neg).symm
        generalize slope x1 y1 x2 y2 = l
        unfold third
        show some (l ^ 2 - x1 - x2, -(l * (x1 - (l ^ 2 - x1 - x2)) - y1)) = some ((-l) ^ 2 - x1 - x2, -l * (x1 - ((-l) ^ 2 - x1 - x2)) - -y1)
        have e1 : (-l) ^ 2 = l ^ 2 := by grobner
        rw [e1]
        have e2 : -(l * (x1 - (l ^ 2 - x1 - x2)) - y1) = -l * (x1 - (l ^ 2 - x1 - x2)) - -y1 := by grobner
        rw [e2]
theorem Line.back {x2 y2 x3 y3 l x5 y5 : Fin P} (L : Line x2 y2 x3 y3 l) (e5 : x5 = l ^ 2 - x2 - x3) (f5 : y5 = l * (x2 - x5) - y2) : Line x2 (-y2) x5 y5 (-l) := by
  obtain ⟨a, b⟩ := L
  subst f5 e5 a
  exact ⟨by grobner, by grobner (ringSteps := 10000000)⟩
theorem back_x {x2 x3 x5 l : Fin P} (e5 : x5 = l ^ 2 - x2 - x3) : (-l) ^ 2 - x2 - x5 = x3 := by
  subst e5
  grobner
theorem back_y {x2 x3 y2 y3 l : Fin P} (a : y3 = y2 + l * (x3 - x2)) : -l * (x2 - x3) - -y2 = y3 := by
  subst a
  grobner
theorem no_y {x y : Fin P} (z : y = 0) (hb : y ^ 2 = x ^ 3 + 7) : x ^ 3 + 7 = 0 := by
  have e : y * y = 0 := by rw [z]; exact Fin.ext (by rw [Fin.val_mul, val_zero]; simp)
  grobner
/-- -B + (B + C) is C. -/
theorem neg_add_add (h : NT.IsP P) (h2 : (2 : Fin P) ≠ 0) (h7 : ∀ x : Fin P, x ^ 3 + 7 ≠ 0) {b c : Pt P} (hb : On b) (hc : On c) : add (neg b) (add b c) = c := by
  rcases b with _ | ⟨x2, y2⟩
  · rfl
  · rcases c with _ | ⟨x3, y3⟩
    · rw [add_none]
      exact add_opp ⟨rfl, by grobner⟩
    · have hb' : y2 ^ 2 = x2 ^ 3 + 7 := hb
      have hc' : y3 ^ 2 = x3 ^ 3 + 7 := hc
      by_cases ho : x2 = x3 ∧ y3 = -y2
      · rw [add_opp ho, add_none, ho.1, ho.2]
        rfl
      · have L := slope_line h h2 hb hc ho
        have hon := on_curve x2 y2 x3 y3 _ _ _ hb hc L rfl rfl
        rw [add_line h h2 hb hc ho L]
        generalize slope x2 y2 x3 y3 = l at L hon
        obtain ⟨x5, e5⟩ : ∃ x5, x5 = l ^ 2 - x2 - x3 := ⟨_, rfl⟩
        unfold third
        rw [← e5] at hon ⊢
        obtain ⟨y5, f5⟩ : ∃ y5, y5 = l * (x2 - x5) - y2 := ⟨_, rfl⟩
        rw [← f5] at hon ⊢
        have M := L.back e5 f5
        have a := L.go
        clear L
        have ho' : ¬ (x2 = x5 ∧ y5 = - -y2) := fun e => by
          obtain ⟨u, v⟩ := e
          have z : 2 * y2 = 0 := by
            clear hon hb' hc' h7 M ho a e5 h2
            grobner
          rcases nzd h z with z | z
          · exact h2 z
          · exact h7 x2 (no_y z hb')
        refine (add_line h h2 (neg_on (a := some (x2, y2)) hb) hon ho' M).trans ?_
        unfold third
        rw [back_x e5, back_y a]
end Go.Proofs.Ytifkmkllljfeaaa.EC
namespace Go.Proofs.Ytifkmkllljfeaaa.EC
variable {P : Nat} [NeZero P]
theorem gen_x (h : NT.IsP P) {x1 x3 x4 x5 y1 y3 y4 y5 l3 l4 : Fin P} (d3 : x4 - x3 ≠ 0) (d4 : x5 - x1 ≠ 0) (g3 : y4 - y3 = l3 * (x4 - x3)) (g4 : y5 - y1 = l4 * (x5 - x1))
    (hx : ((y4 - y3) ^ 2 - (x4 + x3) * (x4 - x3) ^ 2) * (x5 - x1) ^ 2 = ((y5 - y1) ^ 2 - (x1 + x5) * (x5 - x1) ^ 2) * (x4 - x3) ^ 2) : l3 ^ 2 - x4 - x3 = l4 ^ 2 - x1 - x5 := by
  rw [g3, g4] at hx
  generalize x4 - x3 = a at d3 hx
  generalize x5 - x1 = b at d4 hx
  clear g3 g4
  refine cancel h (mul_ne h (mul_ne h d3 d3) (mul_ne h d4 d4)) ?_
  grobner
theorem gen_y (h : NT.IsP P) {x1 x3 x4 x5 y1 y3 y4 y5 l3 l4 X : Fin P} (d3 : x4 - x3 ≠ 0) (d4 : x5 - x1 ≠ 0) (g3 : y4 - y3 = l3 * (x4 - x3)) (g4 : y5 - y1 = l4 * (x5 - x1)) (hX : l3 ^ 2 - x4 - x3 = X)
    (hy : ((y4 - y3) ^ 2 - (x3 + x4) * (x4 - x3) ^ 2) * ((y5 - y1) * (x4 - x3) - (y4 - y3) * (x5 - x1)) + (x4 - x3) ^ 2 * (((y4 - y3) * x3 - y3 * (x4 - x3)) * (x5 - x1) - ((y5 - y1) * x1 - y1 * (x5 - x1)) * (x4 - x3)) = 0) : l3 * (x4 - X) - y4 = l4 * (x1 - X) - y1 := by
  rw [g3, g4] at hy
  have e4 : y4 = y3 + l3 * (x4 - x3) := by clear hy hX; grobner
  have e5 : x4 + x3 = l3 ^ 2 - X := by clear hy; grobner
  rw [e4]
  obtain ⟨a, ha⟩ : ∃ a, x4 - x3 = a := ⟨_, rfl⟩
  rw [ha] at d3 hy ⊢
  generalize x5 - x1 = b at d4 hy
  have e6 : (l4 * (x1 - X) - y1 - (l3 * (x3 - X) - y3)) * (a * a * a * b) = 0 := by
    have e7 : x3 + x4 = l3 ^ 2 - X := by rw [← e5]; clear hy; grobner
    rw [e7] at hy
    clear e5 e7 e4 hX g3 g4 ha
    grobner
  rcases nzd h e6 with e | e
  · have e8 : x4 = x3 + a := by clear hy e6 e e5 e4 hX g3 g4; grobner
    rw [e8]
    clear hy e6 e5 e4 hX g3 g4 ha e8
    grobner
  · exact absurd e (mul_ne h (mul_ne h (mul_ne h d3 d3) d3) d4)
theorem dbl_x (h : NT.IsP P) {x1 x3 x5 y1 y3 y5 l3 l4 : Fin P} (t3 : 2 * y3 ≠ 0) (d4 : x5 - x1 ≠ 0) (g3 : l3 * (2 * y3) = 3 * x3 ^ 2) (g4 : y5 - y1 = l4 * (x5 - x1))
    (hx : (9 * x3 ^ 4 - 8 * x3 * y3 ^ 2) * (x5 - x1) ^ 2 = ((y5 - y1) ^ 2 - (x1 + x5) * (x5 - x1) ^ 2) * (4 * y3 ^ 2)) : l3 ^ 2 - x3 - x3 = l4 ^ 2 - x1 - x5 := by
  rw [g4] at hx
  generalize x5 - x1 = b at d4 hx
  clear g4
  refine cancel h (mul_ne h (mul_ne h t3 t3) (mul_ne h d4 d4)) ?_
  have e : 9 * x3 ^ 4 = (l3 * (2 * y3)) * (l3 * (2 * y3)) := by rw [g3]; clear hx g3; grobner
  rw [e] at hx
  clear e g3
  grobner
theorem dbl_y (h : NT.IsP P) {x1 x3 x5 y1 y3 y5 l3 l4 X : Fin P} (t3 : 2 * y3 ≠ 0) (d4 : x5 - x1 ≠ 0) (g3 : l3 * (2 * y3) = 3 * x3 ^ 2) (g4 : y5 - y1 = l4 * (x5 - x1)) (hX : l3 ^ 2 - x3 - x3 = X)
    (hy : (3 * x3 ^ 2 * (x3 * (4 * y3 ^ 2) - (9 * x3 ^ 4 - 8 * x3 * y3 ^ 2)) - 2 * y3 ^ 2 * (4 * y3 ^ 2)) * (x5 - x1) = ((y5 - y1) * (x1 * (4 * y3 ^ 2) - (9 * x3 ^ 4 - 8 * x3 * y3 ^ 2)) - y1 * (x5 - x1) * (4 * y3 ^ 2)) * (2 * y3)) : l3 * (x3 - X) - y3 = l4 * (x1 - X) - y1 := by
  rw [g4] at hy
  generalize x5 - x1 = b at d4 hy
  clear g4
  have e : 9 * x3 ^ 4 - 8 * x3 * y3 ^ 2 = X * (4 * y3 ^ 2) := by
    have e1 : 9 * x3 ^ 4 = (l3 * (2 * y3)) * (l3 * (2 * y3)) := by rw [g3]; clear hy g3; grobner
    rw [e1, ← hX]
    clear hy e1 g3 hX
    grobner
  rw [e, ← g3] at hy
  clear e g3 hX
  refine cancel h (mul_ne h (mul_ne h (mul_ne h t3 t3) t3) d4) ?_
  grobner
end Go.Proofs.Ytifkmkllljfeaaa.EC
