import Derived.WalkKit
import Derived.Test.YtfgjdidnnbjalaaRows
import Derived.Lib.Mul64
import Derived.Laws.Bits64b
import Derived.Laws.Externs
import Derived.Sort.Row
import Derived.Below
import Derived.Deep.LoopGhost
import Derived.Deep.QuietTactic
import Derived.StillTailTactics
import Derived.BigRegion
import Derived.BigQuiet
import Derived.WalkSpells
import Derived.WalkLawsBesides
import Derived.Deep.Draws
import Derived.Deep.OwnRows
import Derived.Lib.LazyBuf
import Derived.Lib.ConvBytes
import Derived.Laws.MathBits
import Derived.Deep.MidRow
import Derived.OrdersHeld
import Derived.Deep.AppendSrc
import Derived.Laws.AppendOwn
import Derived.Lib.AppendZeros
import Derived.Deep.Heap
import Derived.Deep.RegionLaw
import Derived.Test.YtfgjdidnnbjalaaZ1
set_option linter.unusedVariables false
set_option linter.unusedSimpArgs false
namespace Go.Proofs.Ytfgjdidnnbjalaa.SP
open Go.RowKit Go.Sort Go.Deep
attribute [local go_sem] bits_xor8
theorem holds_one (w : World) (x : UInt8) : Holds encB (w.alloc (.cells #[.int .u8 (ub x)] 5)) w.heap.size 0 #[x] := by
  have h := Holds.new (enc := encB) w 5 #[x]
  have e : Array.map encB #[x] = #[.int .u8 (ub x)] := by simp [encB]
  rw [e] at h
  exact h
/-- The bytes with the ending and k noughts behind them. -/
def padT (l : List UInt8) (e : UInt8) (k : Nat) : List UInt8 := l ++ e :: List.replicate k 0
theorem padT_length (l : List UInt8) (e : UInt8) (k : Nat) : (padT l e k).length = l.length + 1 + k := by
  unfold padT
  rw [List.length_append, List.length_cons, List.length_replicate]
  omega
theorem padT_next (l : List UInt8) (e : UInt8) (k : Nat) : padT l e k ++ [0] = padT l e (k + 1) := by
  unfold padT
  rw [List.append_assoc, List.cons_append, List.replicate_succ']
theorem padT_total (l : List UInt8) (e : UInt8) : (padT l e (135 - l.length % 136)).set (l.length + (135 - l.length % 136)) ((padT l e (135 - l.length % 136))[l.length + (135 - l.length % 136)]! ^^^ 128) = total l e := by
  unfold padT total tailpad
  rw [List.set_append_right _ _ (by omega), Nat.add_sub_cancel_left, list_app_back _ _ _ (by omega) (by rw [List.length_cons, List.length_replicate]; omega), Nat.add_sub_cancel_left]
theorem list_set_at (l : List UInt8) (i j : Nat) (x : UInt8) (hj : j < l.length) : (l.set i x)[j]! = if i = j then x else l[j]! := by
  rw [getElem!_pos (l.set i x) j (by rw [List.length_set]; exact hj), List.getElem_set, getElem!_pos l j hj]
theorem total_at (l : List UInt8) (e : UInt8) (cur : Bs) (L k : Nat) (hk : k = 135 - l.length % 136) (hL : L = l.length + 1 + k) (hc : L ≤ cur.size) (hT : ∀ j, j < L → cur[j]! = (padT l e k)[j]!) :
    ∀ j, j < L → (cur.setIfInBounds (L - 1) (cur[L - 1]! ^^^ 128))[j]! = (total l e)[j]! := by
  intro j hj
  have hpl := padT_length l e k
  rw [← padT_total, ← hk, list_set_at _ _ _ _ (by omega), show l.length + k = L - 1 by omega]
  by_cases h : j = L - 1
  · rw [if_pos h.symm, h, getElem!_set_same _ _ _ (by omega), hT _ (by omega)]
  · rw [if_neg (by omega), getElem!_set_other _ _ _ _ h, hT _ hj]
theorem stream_bytes (o : ByteArray) (d : St) (n m : Nat) (ho : o.size = 136 * m) (hnm : n ≤ 136 * m) (h : ∀ j, j < 136 * m → o.data[j]! = streamAt d j) : o.extract 0 n = ⟨streamL d n⟩ := by
  apply ByteArray.ext
  have hd : (o.extract 0 n).data = o.data.extract 0 n := ByteArray.data_extract
  have hs : o.data.size = 136 * m := ho
  rw [hd]
  refine bs_ext _ _ n (by rw [Array.size_extract, hs]; omega) (streamL_size _ _) (fun j hj => ?_)
  have h1 : j < (o.data.extract 0 n).size := by rw [Array.size_extract, hs]; omega
  have h2 : j < o.data.size := by omega
  have h3 := h j (by omega)
  rw [getElem!_pos o.data j h2] at h3
  rw [streamL_at _ _ _ hj, ← h3, getElem!_pos (o.data.extract 0 n) j h1, Array.getElem_extract]
  simp only [Nat.zero_add]
theorem out_next (o : ByteArray) (d : St) (m : Nat) (p : Bs) (hp : p.size = 136) (hpa : ∀ j, j < 136 → p[j]! = byteOf (permN d m) j) (ho : o.size = 136 * m) (h : ∀ j, j < 136 * m → o.data[j]! = streamAt d j) :
    (o ++ ⟨p⟩).size = 136 * (m + 1) ∧ ∀ j, j < 136 * (m + 1) → (o ++ (⟨p⟩ : ByteArray)).data[j]! = streamAt d j := by
  have hd : (o ++ (⟨p⟩ : ByteArray)).data = o.data ++ p := ByteArray.data_append
  have hs : o.data.size = 136 * m := ho
  refine ⟨?_, fun j hj => ?_⟩
  · show (o ++ (⟨p⟩ : ByteArray)).data.size = _
    rw [hd, Array.size_append, hp, hs]
    omega
  · rw [hd]
    by_cases h1 : j < 136 * m
    · have h2 : j < o.data.size := by omega
      have h3 := h j h1
      rw [getElem!_pos o.data j h2] at h3
      rw [app_front _ _ j h2, h3]
    · rw [app_back _ _ j (by omega) (by omega), hs, hpa _ (by omega)]
      unfold streamAt
      rw [show j / 136 = m by omega, show j % 136 = j - 136 * m by omega]
theorem conv200 (w : World) (p : Bs) (h : p.size = 200) :
    ∃ sc w', (convert 9 32 (.string ⟨p⟩)).run Try.prog w = .ok (.slice (some ⟨w.heap.size, 0, none⟩) 200 sc) w' ∧ 200 ≤ sc ∧ Holds encB w' w.heap.size 0 p ∧ Below w.heap.size w w' := by
  obtain ⟨v, w', hcv, own, hb, hv⟩ := conv_bytes (w := w) (B := 0) ⟨p⟩ (Nat.zero_le _)
  have hps : (ByteArray.mk p).size = 200 := h
  have hpl : (ByteArray.mk p).data.toList.length = 200 := by rw [Array.length_toList]; exact h
  rw [hv] at hcv own
  rw [hps] at hcv own
  obtain ⟨_, _, hle, hH⟩ := own.holds
  exact ⟨_, _, hcv, by omega, by simpa using hH, hb⟩
theorem front_front (d : St) : Array.size (front d 136) ≤ Array.size (front d 200) ∧ ∀ j, j < (front d 136).size → (front d 136)[j]! = (front d 200)[j]! := by
  refine ⟨by rw [front_size, front_size]; omega, fun j hj => ?_⟩
  rw [front_size] at hj
  rw [front_at _ _ _ hj, front_at _ _ _ (by omega)]
set_option maxHeartbeats 2000000 in
set_option maxRecDepth 100000 in
theorem refSponge_any (s : ByteArray) (e : UInt8) (n : Nat) (w : World) (hs : s.size ≤ 1048576) (hn : n ≤ 16384) :
    Calls Try.prog 46 #[.string s, .int .u8 (ub e), .int .i64 (n : Int)] w fun r w' => r = .returned (.string ⟨streamL (absorb s.data.toList e) n⟩) ∧ Below w.heap.size w w' := by
  obtain ⟨v0, w0, hcv, own0, hb0, hv0⟩ := conv_bytes (w := w) (B := w.heap.size) s (Nat.le_refl _)
  rw [hv0] at hcv own0
  have hsz0 : w.heap.size ≤ w0.heap.size := hb0.size
  have hX := holds_one w0 e
  have hbx : Below w0.heap.size w0 (w0.alloc (.cells #[.int .u8 (ub e)] 5)) := (Below.refl _ _).alloc (Nat.le_refl _) _
  have hl : s.data.toList.length = s.size := Array.length_toList
  obtain ⟨v1, w1, hap, own1, hb1⟩ := append_own (c := 1) (own0.below hbx) hX (by rw [World.size_alloc]; omega) (by rw [hl]; simp; omega) 1 rfl
  have hbb1 : Below w.heap.size w w1 := (hb0.trans (hbx.mono hsz0)).trans hb1
  have own1' : Own w.heap.size w1 v1 (padT s.data.toList e 0) := own1
  clear hv0 own0 hX own1 hb1 hbx
  have hmk200 : ∀ w : World, (Instr.makeSlice 32 (.int .i64 200) (.int .i64 200)).run Try.prog w = .ok (.slice (some ⟨w.heap.size, 0, none⟩) 200 200) (w.alloc (.cells (madeCells #[.int .u8 0] 200) 5)) :=
    run_make_row' (P := Try.prog) 32 5 (.int .u8 0) 1 slice22 info5 rfl .i64 .i64 200 (by omega) (by omega)
  have HM200 : Hid _ := hmk200
  clear hmk200
  go_enter Try.func46, Try.ntmps46
  go_wp2_with (at_builtin; refine Lib.wpList_append_run _ rfl _ _ 32 32 rfl _ _ rfl rfl _ _ hap ?_)
  clear hap hcv hb0
  obtain ⟨h, hh⟩ : ∃ h, s.data.toList.length % 136 = h := ⟨_, rfl⟩
  have h136 : h < 136 := by rw [← hh]; exact Nat.mod_lt _ (by decide)
  have Hh : Hid (s.data.toList.length % 136 = h) := hh
  clear hh
  go_loopg [7] (135 - h) (fun g s7 wr => ∃ k, k + g = 135 - h ∧ Own w.heap.size wr s7 (padT s.data.toList e k) ∧ Below w.heap.size w wr)
  case atStart => exact ⟨0, by omega, own1', hbb1⟩
  case round =>
    clear own1' hbb1
    obtain ⟨k, hk, own, hb⟩ := hrel
    have own' := own
    obtain ⟨g, cap, cur, rfl, hg, hgl, hcs, hlc, hH, hT⟩ := own'
    have hL := padT_length s.data.toList e k
    generalize hLL : (padT s.data.toList e k).length = L at *
    have hL' : L = s.size + 1 + k := by rw [hL, hl]
    have HL' : Hid (L = s.size + 1 + k) := hL'
    have hLb : L ≤ 1048900 := by omega
    have hL0 : 1 ≤ L := by omega
    have tm : (L : Int).tmod 136 = (L : Int) % 136 := Int.tmod_eq_emod_of_nonneg (by omega)
    by_cases hlt : k < 135 - h
    · have hb2 : ((L : Int) % 136 != 0) = true := by rw [bne_iff_ne]; have := Hh.out; rw [hl] at this; omega
      have hX := holds_one wr 0
      have hbx : Below wr.heap.size wr (wr.alloc (.cells #[.int .u8 (ub 0)] 5)) := (Below.refl _ _).alloc (Nat.le_refl _) _
      obtain ⟨v2, w2, hap, own2, hbb⟩ := append_own (c := 1) (own.below hbx) hX (by rw [World.size_alloc]; have := hb.size; omega) (by rw [hLL]; simp; omega) 1 rfl
      have own3 : Own w.heap.size w2 v2 (padT s.data.toList e (k + 1)) := by rw [← padT_next]; exact own2
      have hb3 : Below w.heap.size w w2 := (hb.trans (hbx.mono hb.size)).trans hbb
      clear hL hL' hLL own own2 hX hbb hbx hH hT
      go_wp2_with (at_builtin; refine Lib.wpList_append_run _ rfl _ _ 32 32 rfl _ _ rfl rfl _ _ hap ?_)
      go_roundg (gk - 1)
      case measure => omega
      case rel => exact ⟨k + 1, by omega, own3, hb3⟩
    · have hb2 : ((L : Int) % 136 != 0) = false := by
        rw [bne_eq_false_iff_eq]; have := Hh.out; rw [hl] at this; omega
      have hk0 : k = 135 - s.data.toList.length % 136 := by have := Hh.out; omega
      obtain ⟨x, hx⟩ : ∃ x, cur[L - 1]! = x := ⟨_, rfl⟩
      obtain ⟨c0, f0⟩ := at_byte hH (L - 1) (by omega) hx
      rw [Nat.zero_add] at c0 f0
      have hx80 := xor80 x
      have hTot := total_at s.data.toList e cur L k hk0 hL (by omega) hT
      rw [hx] at hTot
      have hH2 := Holds.set hH (i := L - 1) (by omega) (x ^^^ 128)
      rw [Nat.zero_add] at hH2
      have htl : (total s.data.toList e).length = L := by rw [total_length]; omega
      have hTA : Holds encB (wr.setCell ⟨g, L - 1, none⟩ (.int .u8 (ub (x ^^^ 128)))) g 0 (total s.data.toList e).toArray :=
        Holds.front hH2 (by rw [Array.size_setIfInBounds, List.size_toArray, htl]; omega) (fun j hj => by rw [list_arr_at]; exact (hTot j (by simpa [htl] using hj)).symm)
      have hb4 : Below w.heap.size w (wr.setCell ⟨g, L - 1, none⟩ (.int .u8 (ub (x ^^^ 128)))) := hb.setCell (p := ⟨g, L - 1, none⟩) hg _
      have hg4 : g < (wr.setCell ⟨g, L - 1, none⟩ (.int .u8 (ub (x ^^^ 128)))).heap.size := by rw [World.size_setCell]; exact hgl
      obtain ⟨M, hM⟩ : ∃ M, s.data.toList.length / 136 + 1 = M := ⟨_, rfl⟩
      have hLM : L = 136 * M := by have := Hh.out; omega
      have HLM : Hid (L = 136 * M) := hLM
      have HM : Hid (s.data.toList.length / 136 + 1 = M) := hM
      have z1 : (0 : Int) ≤ (L : Int) - 1 := by omega
      have z2 : (L : Int) - 1 < (L : Int) := by omega
      have z3 : ((L : Int) - 1).toNat = L - 1 := by omega
      have hmk := HM200.out
      clear hM hLM hTot hH2 hH hT hx hL hL' hLL own hk0
      go_wp2
      clear hmk c0 f0 hb2 tm hx80
      have hW2 : (wr.setCell ⟨g, L - 1, none⟩ (.int .u8 (ub (x ^^^ 128)))).heap.size = wr.heap.size := by rw [World.size_setCell]
      generalize wr.setCell ⟨g, L - 1, none⟩ (.int .u8 (ub (x ^^^ 128))) = W2 at hTA hb4 hg4 hW2 ⊢
      have hS0 : Holds encB (W2.alloc (.cells (madeCells #[.int .u8 0] 200) 5)) W2.heap.size 0 (refSt (total s.data.toList e) 0) := Holds.made (enc := encB) W2 5 200 0
      have hb5' : Below W2.heap.size W2 (W2.alloc (.cells (madeCells #[.int .u8 0] 200) 5)) := (Below.refl _ _).alloc (Nat.le_refl _) _
      have hs5 : W2.heap.size < (W2.alloc (.cells (madeCells #[.int .u8 0] 200) 5)).heap.size := by simp
      have hTA5 := Holds.below hTA hb5' hg4
      have hb5 := hb4.trans (hb5'.mono hb4.size)
      have hz4 := hb4.size
      rw [hW2] at hS0 hs5 hg4 hz4
      generalize hSG : wr.heap.size = SG at *
      generalize (W2.alloc _) = W3 at hS0 hb5 hs5 hTA5 ⊢
      clear hTA hb4 hb5' hSG hW2
      go_loopg [8, 9] M (fun g2 s8 s9 wr => ∃ (i sg sc : Nat), i + g2 = M ∧ s9 = .int .i64 ((136 * i : Nat) : Int) ∧ s8 = .slice (some ⟨sg, 0, none⟩) 200 sc ∧ 200 ≤ sc ∧ w.heap.size ≤ sg ∧ sg ≠ g ∧ Holds encB wr sg 0 (refSt (total s.data.toList e) i) ∧ Holds encB wr g 0 (total s.data.toList e).toArray ∧ Below w.heap.size w wr)
      case atStart => exact ⟨0, SG, 200, by omega, rfl, rfl, Nat.le_refl _, by omega, by omega, hS0, hTA5, hb5⟩
      case round =>
        clear hS0 hTA5 hb5 hs5
        obtain ⟨i, sg, sc, hi, rfl, rfl, hsc, hsg, hne, hS, hTA, hb⟩ := hrel
        have hrs : (refSt (total s.data.toList e) i).size = 200 := by
          cases i with
          | zero => rw [refSt, Array.size_replicate]
          | succ i => rw [refSt, permB, front_size]
        have hgz : g < wr.heap.size := Holds.lt hTA (by rw [List.size_toArray, htl]; omega)
        by_cases hlt : i < M
        · have hlt' : ((136 * i : Nat) : Int) < (L : Int) := by have := HLM.out; omega
          have hii : 136 * i + 136 ≤ L := by have := HLM.out; omega
          generalize hI : 136 * i = I at *
          have HI : Hid (136 * i = I) := hI
          clear hI
          go_wp2
          have hD0 : Holds encB wr sg 0 (xorB (refSt (total s.data.toList e) i) (total s.data.toList e) I 0) := hS
          generalize hR : refSt (total s.data.toList e) i = R at *
          have HR : Hid (R = refSt (total s.data.toList e) i) := hR.symm
          clear hR
          go_loopg [10] 136 (fun g3 s10 wq => ∃ (k : Nat) (st : Bs), k + g3 = 136 ∧ s10 = .int .i64 k ∧ Holds encB wq sg 0 st ∧ Only sg 0 200 wr wq ∧ Hid (st = xorB R (total s.data.toList e) I k))
          case atStart => exact ⟨0, _, rfl, rfl, hD0, Only.refl _ _ _ _, rfl⟩
          case round =>
            clear hD0
            obtain ⟨k, st, hk, rfl, hSt, hO, HE⟩ := hrel
            have hsts : st.size = 200 := by rw [HE.out, xorB_size]; exact hrs
            have hTq := Holds.other hTA hO (Ne.symm hne) (by rw [List.size_toArray, htl]; omega)
            by_cases hltk : k < 136
            · obtain ⟨y, hy⟩ : ∃ y, (total s.data.toList e)[I + k]! = y := ⟨_, rfl⟩
              obtain ⟨c0, f0⟩ := at_byte (x := y) hTq (I + k) (by rw [List.size_toArray, htl]; omega) (by rw [list_arr_at]; exact hy)
              obtain ⟨z, hz⟩ : ∃ z, st[k]! = z := ⟨_, rfl⟩
              obtain ⟨c1, f1⟩ := at_byte hSt k (by omega) hz
              rw [Nat.zero_add] at c0 c1 f1
              have HY : Hid ((total s.data.toList e)[I + k]! = y) := hy
              have HZ : Hid (st[k]! = z) := hz
              have k136 : (k : Int) < 136 := by omega
              have k200 : (k : Int) < 200 := by omega
              have ik0 : (0 : Int) ≤ (I : Int) + (k : Int) := by omega
              have ik1 : (I : Int) + (k : Int) < (L : Int) := by omega
              have ik2 : ((I : Int) + (k : Int)).toNat = I + k := by omega
              have ik3 : IntKind.i64.wrap ((I : Int) + (k : Int)) = (I : Int) + (k : Int) := IntWalk.i64_in _ (by omega)
              clear hy hz f0 hTq
              go_wp2_with fail
              go_still_tail 14, mixed
              go_wp2
              go_roundg (gk - 1)
              case measure => omega
              case rel =>
                refine ⟨k + 1, st.setIfInBounds k (z ^^^ y), by omega, by go_num, ?_, ?_, ?_⟩
                · have := Holds.set hSt (i := k) (by omega) (z ^^^ y)
                  rw [Nat.zero_add] at this
                  exact Holds.drew this
                · exact (hO.setCell (o := k) (by omega) (by omega) _).drew
                · show _ = (xorB R (total s.data.toList e) I k).setIfInBounds k ((xorB R (total s.data.toList e) I k)[k]! ^^^ (total s.data.toList e)[I + k]!)
                  rw [← HE.out, HZ.out, HY.out]
            · have hk136 : k = 136 := by omega
              subst hk136
              have hgz2 := Holds.lt hSt (by omega)
              have kc := conv_str Try.prog 32 9 5 slice22 int5 str9 _ sg 0 200 sc st hSt hsts
              have hbq := hb.trans (hO.below hb.size hsg)
              obtain ⟨PB, hPB⟩ : ∃ x, permB st = x := ⟨_, rfl⟩
              have hps : PB.size = 200 := by rw [← hPB, permB, front_size]
              have HE2 : Hid (PB = refSt (total s.data.toList e) (i + 1)) := by
                show PB = permB (xorB (refSt (total s.data.toList e) i) (total s.data.toList e) (136 * i) 136)
                rw [← HR.out, HI.out, ← HE.out, hPB]
              have HPB : Hid (PB = permB st) := hPB.symm
              clear hPB HE
              go_wp2_with fail
              refine (refPermute_any ⟨st⟩ _ hsts).mono ?_
              rintro r w5 ⟨rfl, hb5⟩
              have e5 : (ByteArray.mk (permB (ByteArray.mk st).data)) = ByteArray.mk PB := congrArg ByteArray.mk HPB.out.symm
              rw [e5]
              clear e5
              obtain ⟨sc6, w6, hcv6, hle6, hH6, hb6⟩ := conv200 w5 PB hps
              have hgq := Holds.lt hTq (by rw [List.size_toArray, htl]; omega)
              have hg5 : g < w5.heap.size := Nat.lt_of_lt_of_le hgq hb5.size
              have hT6 := Holds.below (Holds.below hTq hb5 hgq) hb6 hg5
              have hb8 : Below w.heap.size w w6 := (hbq.trans (hb5.mono hbq.size)).trans (hb6.mono (by have := hb5.size; have := hbq.size; omega))
              rw [HE2.out] at hH6
              have hz5 : w.heap.size ≤ w5.heap.size := by have := hb5.size; have := hbq.size; omega
              go_wp2
              go_roundg (M - (i + 1))
              case measure => omega
              case rel => exact ⟨i + 1, w5.heap.size, sc6, by omega, by rw [← HI.out]; go_num, rfl, hle6, hz5, by omega, hH6, hT6, hb8⟩
        · have hiM : i = M := by omega
          have hge : (L : Int) ≤ ((136 * i : Nat) : Int) := by have := HLM.out; omega
          obtain ⟨d, hd⟩ : ∃ d, absorb s.data.toList e = d := ⟨_, rfl⟩
          obtain ⟨F, hF⟩ : ∃ F, front (permN d 0) 200 = F := ⟨_, rfl⟩
          have hSf : Holds encB wr sg 0 F := by
            have := refSt_total s.data.toList e
            rw [HM.out, ← hiM, hd] at this
            rw [this] at hS
            rw [← hF, permN]
            exact hS
          have hab : d.size = 25 := by rw [← hd]; exact absorb_size s.data.toList e
          have HDD : Hid (d = absorb s.data.toList e) := hd.symm
          have HFF : Hid (F = front (permN d 0) 200) := hF.symm
          clear hS hrs hTA hgz hiM hlt hi hd hF
          generalize hI : 136 * i = I at *
          clear hI
          have hdec : decide ((I : Int) < (L : Int)) = false := decide_eq_false (by omega)
          have hdec2 : decide (I < L) = false := decide_eq_false (by omega)
          go_wp2
          go_loopg [8, 11] (n + 136) (fun g4 s8 s11 wq => ∃ (m sg sc : Nat) (o : ByteArray) (Fm : Bs), 136 * m + g4 = n + 136 ∧ 1 ≤ g4 ∧ s11 = .string o ∧ o.size = 136 * m ∧ s8 = .slice (some ⟨sg, 0, none⟩) 200 sc ∧ 200 ≤ sc ∧ Holds encB wq sg 0 Fm ∧ Fm.size = 200 ∧ Below w.heap.size w wq ∧ Hid (Fm = front (permN d m) 200) ∧ Hid (∀ j, j < 136 * m → o.data[j]! = streamAt d j))
          case atStart => exact ⟨0, sg, sc, ByteArray.empty, F, by omega, by omega, rfl, rfl, rfl, hsc, hSf, by rw [HFF.out, front_size], hb, HFF, fun j hj => by omega⟩
          case round =>
            clear hSf HFF hsc
            obtain ⟨m, sg, sc, o, Fm, hg4, hg41, rfl, ho, rfl, hsc, hF, hFs, hb, HF, HO⟩ := hrel
            have Ho : Hid (o.size = 136 * m) := ho
            have hob : o.size ≤ n + 136 := by omega
            by_cases hlt : o.size < n
            · have hlt' : (o.size : Int) < (n : Int) := by omega
              obtain ⟨Q, hQ⟩ : ∃ Q, front (permN d m) 136 = Q := ⟨_, rfl⟩
              have hQs : Q.size = 136 := by rw [← hQ, front_size]
              have hQa : ∀ j, j < 136 → Q[j]! = byteOf (permN d m) j := fun j hj => by rw [← hQ, front_at _ _ _ hj]
              have hHQ : Holds encB wr sg 0 Q := by
                have h1 := front_front (permN d m)
                rw [← HF.out, hQ] at h1
                exact Holds.front hF h1.1 h1.2
              have hnx := out_next o d m Q hQs hQa ho HO
              have HNX : Hid ((o ++ ⟨Q⟩).size = 136 * (m + 1) ∧ ∀ j, j < 136 * (m + 1) → (o ++ (⟨Q⟩ : ByteArray)).data[j]! = streamAt d j) := hnx
              obtain ⟨PB, hPB⟩ : ∃ x, permB Fm = x := ⟨_, rfl⟩
              have hps : PB.size = 200 := by rw [← hPB, permB, front_size]
              have HN : Hid (PB = front (permN d (m + 1)) 200) := by
                show PB = front (perm (permN d m)) 200
                rw [← hPB, HF.out, permB_front _ (permN_size d hab m)]
              have HPB : Hid (PB = permB Fm) := hPB.symm
              have kc1 := conv_str Try.prog 32 9 5 slice22 int5 str9 wr sg 0 136 sc Q hHQ hQs
              have kc2 := conv_str Try.prog 32 9 5 slice22 int5 str9 wr sg 0 200 sc Fm hF hFs
              have hsc0 : (sc = 0) = False := eq_false (by omega)
              have hsc1 : (136 : Int) ≤ (sc : Int) := by omega
              clear hQ hQa hHQ hnx hPB HO ho
              go_wp2_with fail
              refine (refPermute_any ⟨Fm⟩ _ hFs).mono ?_
              rintro r w5 ⟨rfl, hb5⟩
              have e5 : (ByteArray.mk (permB (ByteArray.mk Fm).data)) = ByteArray.mk PB := congrArg ByteArray.mk HPB.out.symm
              rw [e5]
              clear e5
              obtain ⟨sc6, w6, hcv6, hle6, hH6, hb6⟩ := conv200 w5 PB hps
              have hb8 : Below w.heap.size w w6 := (hb.trans (hb5.mono hb.size)).trans (hb6.mono (by have := hb5.size; have := hb.size; omega))
              go_wp2
              go_roundg (gk - 136)
              case measure => have := Ho.out; omega
              case rel => exact ⟨m + 1, w5.heap.size, sc6, o ++ (ByteArray.mk Q), PB, by have := Ho.out; omega, by have := Ho.out; omega, rfl, HNX.out.1, rfl, hle6, hH6, hps, hb8, HN, HNX.out.2⟩
            · have hge : (n : Int) ≤ (o.size : Int) := by omega
              have hex := stream_bytes o d n m ho (by omega) HO
              have HEX : Hid (o.extract 0 n = ⟨streamL d n⟩) := hex
              clear hex ho HO
              go_wp2
              go_ret
              rw [← HDD.out, ← HEX.out]
              exact ⟨rfl, hb⟩
end Go.Proofs.Ytfgjdidnnbjalaa.SP
namespace Go.Proofs.Ytfgjdidnnbjalaa.SP
open Go.RowKit Go.Sort Go.Deep
/-- What is at the front is held. -/
theorem Holds.prefix {α : Type} [Inhabited α] {f : α → Value} {w : World} {b o : Nat} {d e : Array α} (h : Holds f w b o d) (hs : e.size ≤ d.size) (he : ∀ j, j < e.size → e[j]! = d[j]!) : Holds f w b o e := by
  intro j hj
  rw [he j hj]
  exact h j (by omega)
theorem lentTo_front (s : ByteArray) (k j : Nat) (hj : j < s.data.size) : (lentTo s k)[j]! = s.data[j]! := by
  induction k with
  | zero => rw [lent_front s j hj, getElem!_pos s.data j hj]
  | succ k ih =>
    show ((lentTo s k).setIfInBounds (s.size + k) (fill (s.size + k)))[j]! = _
    have : s.data.size = s.size := rfl
    rw [getElem!_set_other _ _ _ _ (by omega), ih]
theorem holds_text {w : World} {b : Nat} (s : ByteArray) (h : Holds encB w b 0 (lent s)) : Holds encB w b 0 s.data := by
  have : s.data.size = s.size := rfl
  exact Holds.prefix h (by rw [lent_size]; omega) (fun j hj => (lentTo_front s 160 j hj).symm)
end Go.Proofs.Ytfgjdidnnbjalaa.SP
namespace Go.Proofs.Ytfgjdidnnbjalaa.SP
open Go.RowKit Go.Sort Go.Deep
set_option maxHeartbeats 1000000 in
theorem refHash_any (s : ByteArray) (w : World) (hs : s.size ≤ 1048576) :
    Calls Try.prog 41 #[.string s] w fun r w' => r = .returned (.string ⟨hashL s.data.toList⟩) ∧ Below w.heap.size w w' := by
  go_enter Try.func41, Try.ntmps41
  go_wp2_with fail
  refine (refSponge_any s 6 32 _ hs (by decide)).mono ?_
  rintro r w1 ⟨rfl, hb⟩
  rw [← hash_stream]
  go_wp2
  go_ret
  exact ⟨rfl, hb⟩
theorem strmL_size (l : List UInt8) (n : Nat) : (strmL l n).size = n := by rw [strmL, streamL_size]
end Go.Proofs.Ytfgjdidnnbjalaa.SP
namespace Go.Proofs.Ytfgjdidnnbjalaa.SP
open Go.RowKit Go.Sort Go.Deep
set_option maxHeartbeats 2000000 in
set_option maxRecDepth 100000 in
theorem refTag_any (label : ByteArray) (pa : Option Addr) (pcap : Nat) (ps : List ByteArray) (w : World) (hlab : label.size ≤ 1048576) (hpl : ps.length ≤ 1048576)
    (hP : ps.length = 0 ∨ ∃ pb po, pa = some ⟨pb, po, none⟩ ∧ ∀ j, j < ps.length → w.cell? ⟨pb, po + j, none⟩ = some (.string ps[j]!)) (hsz : ∀ j, j < ps.length → (ps[j]!).size ≤ 1048576)
    (htot : (framesL label.data.toList (ps.map fun s => s.data.toList)).length ≤ 1048576) :
    Calls Try.prog 33 #[.string label, .slice pa ps.length pcap] w fun e w' => e = .returned (.string ⟨tagL label.data.toList (ps.map fun s => s.data.toList)⟩) ∧ Below w.heap.size w w' := by
  obtain ⟨n, hn⟩ : ∃ n, ps.length = n := ⟨_, rfl⟩
  rw [hn]
  have Hn : Hid (ps.length = n) := hn
  have hn20 : n ≤ 1048576 := by omega
  clear hn
  go_enter Try.func33, Try.ntmps33
  go_wp2_with fail
  refine (Frame_any label _ hlab).mono ?_
  rintro e w1 ⟨o1, rfl, ho1, hb1⟩
  go_wp2
  go_loopg [5, 6] n (fun g s5 s6 wr => ∃ (k : Nat) (o : ByteArray), k + g = n ∧ s6 = .int .i64 k ∧ s5 = .string o ∧ Below w.heap.size w wr ∧ Hid (o.data.toList = framesL label.data.toList ((ps.map fun s => s.data.toList).take k)))
  case atStart =>
    refine ⟨0, o1, by omega, rfl, rfl, hb1, ?_⟩
    rw [List.take_zero]
    unfold framesL
    rw [List.flatMap_nil, List.append_nil]
    exact ho1
  case round =>
    clear ho1 hb1
    obtain ⟨k, o, hk, rfl, rfl, hb, HE⟩ := hrel
    by_cases hlt : k < n
    · obtain ⟨pb, po, rfl, hPj⟩ : ∃ pb po, pa = some ⟨pb, po, none⟩ ∧ ∀ j, j < ps.length → w.cell? ⟨pb, po + j, none⟩ = some (.string ps[j]!) := by
        rcases hP with h | h
        · have := Hn.out; omega
        · exact h
      have hvc := hPj k (by have := Hn.out; omega)
      have hszk := hsz k (by have := Hn.out; omega)
      obtain ⟨s, hs⟩ : ∃ s, ps[k]! = s := ⟨_, rfl⟩
      rw [hs] at hvc hszk
      have HS : Hid (s = ps[k]!) := hs.symm
      have hvc' : wr.cell? ⟨pb, po + k, none⟩ = some (.string s) := by rw [hb.cell (p := ⟨pb, po + k, none⟩) (World.block_lt_of_cell? _ _ hvc)]; exact hvc
      have l1 : (k : Int) < (n : Int) := by omega
      clear hs hvc hPj
      go_wp2_with fail
      refine (Frame_any s _ hszk).mono ?_
      rintro e w2 ⟨o2, rfl, ho2, hb2⟩
      have HO2 : Hid (o2.data.toList = frameL s.data.toList) := ho2
      have hos : o.size ≤ 1048576 := by
        have h1 : o.data.toList.length = o.size := Array.length_toList
        rw [HE.out] at h1
        have := framesL_take label.data.toList (ps.map fun s => s.data.toList) k
        omega
      have ho2s : o2.size ≤ 1048580 := by
        have h1 : o2.data.toList.length = o2.size := Array.length_toList
        have h2 : s.data.toList.length = s.size := Array.length_toList
        rw [ho2, frameL_length] at h1
        omega
      clear ho2
      go_wp2
      go_roundg (gk - 1)
      case measure => omega
      case rel =>
        refine ⟨k + 1, o ++ o2, by omega, by go_num, rfl, hb.trans (hb2.mono hb.size), ?_⟩
        have hkl : k < (ps.map fun s => s.data.toList).length := by rw [List.length_map]; have := Hn.out; omega
        have hkl2 : k < ps.length := by have := Hn.out; omega
        rw [take_snoc_getD _ k hkl, framesL_snoc, ByteArray.data_append, Array.toList_append, HE.out, HO2.out, getElem!_pos (ps.map fun s => s.data.toList) k hkl, List.getElem_map, HS.out, getElem!_pos ps k hkl2]
        rfl
    · have l1 : (n : Int) ≤ (k : Int) := by omega
      have HE2 : Hid (o.data.toList = framesL label.data.toList (ps.map fun s => s.data.toList)) := by
        have e1 : (ps.map fun s => s.data.toList).take k = ps.map fun s => s.data.toList := List.take_of_length_le (by rw [List.length_map]; have := Hn.out; omega)
        rw [e1] at HE
        exact HE
      have hos : o.size ≤ 1048576 := by
        have h1 : o.data.toList.length = o.size := Array.length_toList
        rw [HE2.out] at h1
        omega
      clear HE
      go_wp2_with fail
      refine (refHash_any o _ hos).mono ?_
      rintro e w3 ⟨rfl, hb3⟩
      rw [HE2.out]
      go_wp2
      go_ret
      exact ⟨rfl, hb.trans (hb3.mono hb.size)⟩
end Go.Proofs.Ytfgjdidnnbjalaa.SP
namespace Go.Proofs.Ytfgjdidnnbjalaa
open Go.RowKit
/-- Four words, the lowest first. -/
def val (a b c d : Nat) : Nat := a + 18446744073709551616 * b + 340282366920938463463374607431768211456 * c + 6277101735386680763835789423207666416102355444464034512896 * d
def ag (a b c d : Nat) : Value := .agg #[.int .u64 (a : Int), .int .u64 (b : Int), .int .u64 (c : Int), .int .u64 (d : Int)]
/-- A value of four words is the number n. -/
def Four (v : Value) (n : Nat) : Prop := ∃ a b c d : Nat, v = .agg #[.int .u64 (a : Int), .int .u64 (b : Int), .int .u64 (c : Int), .int .u64 (d : Int)] ∧
  a < 18446744073709551616 ∧ b < 18446744073709551616 ∧ c < 18446744073709551616 ∧ d < 18446744073709551616 ∧ n = val a b c d
def top : Nat := 115792089237316195423570985008687907853269984665640564039457584007913129639936
theorem val_lt {a b c d : Nat} (ha : a < 18446744073709551616) (hb : b < 18446744073709551616) (hc : c < 18446744073709551616) (hd : d < 18446744073709551616) : val a b c d < top := by
  unfold val top; omega
theorem Four.lt {v : Value} {n : Nat} (h : Four v n) : n < top := by
  obtain ⟨a, b, c, d, -, ha, hb, hc, hd, rfl⟩ := h
  exact val_lt ha hb hc hd
theorem val_inj {a b c d p q r s : Nat} (ha : a < 18446744073709551616) (hb : b < 18446744073709551616) (hc : c < 18446744073709551616)
    (hp : p < 18446744073709551616) (hq : q < 18446744073709551616) (hr : r < 18446744073709551616) (h : val a b c d = val p q r s) : a = p ∧ b = q ∧ c = r ∧ d = s := by
  unfold val at h; omega
theorem Four.inj {v v' : Value} {n : Nat} (h : Four v n) (h' : Four v' n) : v = v' := by
  obtain ⟨a, b, c, d, rfl, ha, hb, hc, hd, e⟩ := h
  obtain ⟨p, q, r, s, rfl, hp, hq, hr, hs, e'⟩ := h'
  obtain ⟨rfl, rfl, rfl, rfl⟩ := val_inj ha hb hc hp hq hr (e.symm.trans e')
  rfl
theorem Four.num {v : Value} {n m : Nat} (h : Four v n) (h' : Four v m) : n = m := by
  obtain ⟨a, b, c, d, rfl, ha, hb, hc, hd, rfl⟩ := h
  obtain ⟨p, q, r, s, e, hp, hq, hr, hs, rfl⟩ := h'
  simp only [Value.agg.injEq, Array.mk.injEq, List.cons.injEq, Value.int.injEq, true_and, and_true, Int.ofNat_inj] at e
  obtain ⟨rfl, rfl, rfl, rfl⟩ := e
  rfl
theorem Four.mk {a b c d n : Nat} (ha : a < 18446744073709551616) (hb : b < 18446744073709551616) (hc : c < 18446744073709551616) (hd : d < 18446744073709551616) (hn : n = val a b c d) :
    Four (.agg #[.int .u64 (a : Int), .int .u64 (b : Int), .int .u64 (c : Int), .int .u64 (d : Int)]) n := ⟨a, b, c, d, rfl, ha, hb, hc, hd, hn⟩
theorem ret_int {k : IntKind} {a b : Int} (h : a = b) : Ending.returned (.int k a) = .returned (.int k b) := by rw [h]
/-- What Mul64 answers, as words. -/
theorem mul_parts (x y : Nat) : x * y / 18446744073709551616 * 18446744073709551616 + x * y % 18446744073709551616 = x * y := by
  omega
end Go.Proofs.Ytfgjdidnnbjalaa
namespace Go.Proofs.Ytfgjdidnnbjalaa
open Go.RowKit Go.Sort
theorem mixed : Try.prog.follows .mixedOrders = true := by kernel_rfl
theorem maskN (a : Nat) (ha : a < 18446744073709551616) : bits .and .u64 (a : Int) 4294967295 = ((a % 4294967296 : Nat) : Int) := by
  have h := bits_and_u64_nat a 4294967295 ha (by omega)
  rw [show a &&& 4294967295 = a % 4294967296 from Nat.and_two_pow_sub_one_eq_mod a 32] at h
  exact h
theorem divN (a : Nat) : (a : Int) / 4294967296 = ((a / 4294967296 : Nat) : Int) := by omega
theorem mulN (a b : Nat) : (a : Int) * (b : Int) = ((a * b : Nat) : Int) := (Int.natCast_mul a b).symm
theorem addN (a b : Nat) : (a : Int) + (b : Int) = ((a + b : Nat) : Int) := (Int.natCast_add a b).symm
theorem wrapN (a : Nat) (ha : a < 18446744073709551616) : IntKind.u64.wrap (a : Int) = (a : Int) := by rw [IntKind.wrap_u64]; omega
theorem wrapM (a : Nat) : IntKind.u64.wrap (a : Int) = ((a % 18446744073709551616 : Nat) : Int) := by rw [IntKind.wrap_u64]; omega
end Go.Proofs.Ytfgjdidnnbjalaa
namespace Go.Proofs.Ytfgjdidnnbjalaa
open Go.RowKit Go.Sort
/-- It returned a value, of which something holds. -/
def Ret (Q : Value → World → Prop) (e : Ending) (w : World) : Prop := ∃ v, e = .returned v ∧ Q v w
theorem below1 (w : World) (o1 : Obj) : Below w.heap.size w (w.alloc o1) := (Below.refl _ _).alloc (Nat.le_refl _) o1
theorem below2 (w : World) (o1 o2 : Obj) : Below w.heap.size w ((w.alloc o1).alloc o2) := (below1 w o1).alloc (by simp) o2
theorem below3 (w : World) (o1 o2 o3 : Obj) : Below w.heap.size w (((w.alloc o1).alloc o2).alloc o3) := (below2 w o1 o2).alloc (by simp; omega) o3
theorem below4 (w : World) (o1 o2 o3 o4 : Obj) : Below w.heap.size w ((((w.alloc o1).alloc o2).alloc o3).alloc o4) := (below3 w o1 o2 o3).alloc (by simp; omega) o4
theorem mul_val (x a b c d : Nat) : x * val a b c d = val (x * a) (x * b) (x * c) (x * d) := by
  unfold val
  rw [Nat.mul_add, Nat.mul_add, Nat.mul_add, Nat.mul_left_comm x _ b, Nat.mul_left_comm x _ c, Nat.mul_left_comm x _ d]
theorem row_sum {x a b c d p q r s l0 l1 l2 l3 h0 h1 h2 h3 m n : Nat} (em : m = val a b c d) (en : n = val p q r s)
    (e0 : l0 + 18446744073709551616 * h0 = x * a + p + 0) (e1 : l1 + 18446744073709551616 * h1 = x * b + q + h0)
    (e2 : l2 + 18446744073709551616 * h2 = x * c + r + h1) (e3 : l3 + 18446744073709551616 * h3 = x * d + s + h2) :
    l0 + 18446744073709551616 * val l1 l2 l3 h3 = x * m + n := by
  rw [em, en, mul_val x a b c d]
  generalize x * a = xa at *
  generalize x * b = xb at *
  generalize x * c = xc at *
  generalize x * d = xd at *
  unfold val
  omega
end Go.Proofs.Ytfgjdidnnbjalaa
namespace Go.Proofs.Ytfgjdidnnbjalaa
open Go.RowKit Go.Sort
/-- Four words lie in a block of their own. -/
structure At4 (w : World) (k a b c d : Nat) : Prop where
  c0 : w.cell? ⟨k, 0, none⟩ = some (.int .u64 (a : Int))
  c1 : w.cell? ⟨k, 1, none⟩ = some (.int .u64 (b : Int))
  c2 : w.cell? ⟨k, 2, none⟩ = some (.int .u64 (c : Int))
  c3 : w.cell? ⟨k, 3, none⟩ = some (.int .u64 (d : Int))
  f : ∀ o, w.frozen? ⟨k, o, none⟩ = false
variable {w w1 : World} {k a b c d : Nat}
theorem At4.lt (h : At4 w k a b c d) : k < w.heap.size := World.block_lt_of_cell? _ _ h.c0
theorem At4.below {B : Nat} (h : At4 w k a b c d) (hb : Below B w w1) (hk : k < B) : At4 w1 k a b c d :=
  ⟨by rw [hb.cell (p := ⟨k, 0, none⟩) hk]; exact h.c0, by rw [hb.cell (p := ⟨k, 1, none⟩) hk]; exact h.c1, by rw [hb.cell (p := ⟨k, 2, none⟩) hk]; exact h.c2, by rw [hb.cell (p := ⟨k, 3, none⟩) hk]; exact h.c3,
    fun o => by rw [hb.frozen (p := ⟨k, o, none⟩) hk]; exact h.f o⟩
theorem At4.call (h : At4 w k a b c d) (hb : Below w.heap.size w w1) : At4 w1 k a b c d := h.below hb h.lt
theorem At4.alloc (h : At4 w k a b c d) (o : Obj) : At4 (w.alloc o) k a b c d := h.call (below1 w o)
theorem At4.drewN (h : At4 w k a b c d) (q : Nat) : At4 (w.drewN q) k a b c d := ⟨h.c0, h.c1, h.c2, h.c3, h.f⟩
theorem At4.new (w : World) (t : TypeId) (a b c d : Nat) : At4 (w.alloc (.cells #[.int .u64 (a : Int), .int .u64 (b : Int), .int .u64 (c : Int), .int .u64 (d : Int)] t)) w.heap.size a b c d :=
  ⟨by rw [World.cell?_alloc_new]; rfl, by rw [World.cell?_alloc_new]; rfl, by rw [World.cell?_alloc_new]; rfl, by rw [World.cell?_alloc_new]; rfl, fun o => World.frozen?_alloc_new _ _ _ _⟩
theorem At4.made (w : World) (t : TypeId) (a b c d : Nat) {k : Nat} (hk : w.heap.size = k) : At4 (w.alloc (.cells #[.int .u64 (a : Int), .int .u64 (b : Int), .int .u64 (c : Int), .int .u64 (d : Int)] t)) k a b c d :=
  hk ▸ At4.new w t a b c d
theorem ne_addr {i j : Nat} {o o' : Nat} (h : i ≠ j ∨ o ≠ o') : (⟨i, o, none⟩ : Addr) ≠ ⟨j, o', none⟩ := by
  intro e
  simp only [Addr.mk.injEq, and_true] at e
  omega
theorem At4.other {j o : Nat} (h : At4 w k a b c d) (hj : j ≠ k) (v : Value) : At4 (w.setCell ⟨j, o, none⟩ v) k a b c d :=
  ⟨by rw [World.cell?_setCell_other _ _ _ _ (ne_addr (Or.inl hj))]; exact h.c0, by rw [World.cell?_setCell_other _ _ _ _ (ne_addr (Or.inl hj))]; exact h.c1,
   by rw [World.cell?_setCell_other _ _ _ _ (ne_addr (Or.inl hj))]; exact h.c2, by rw [World.cell?_setCell_other _ _ _ _ (ne_addr (Or.inl hj))]; exact h.c3, fun o => by rw [World.frozen?_setCell]; exact h.f o⟩
theorem At4.set0 (h : At4 w k a b c d) (x : Nat) : At4 (w.setCell ⟨k, 0, none⟩ (.int .u64 (x : Int))) k x b c d :=
  ⟨World.cell?_setCell_same _ _ _ h.c0, by rw [World.cell?_setCell_other _ _ _ _ (ne_addr (Or.inr (by decide)))]; exact h.c1,
   by rw [World.cell?_setCell_other _ _ _ _ (ne_addr (Or.inr (by decide)))]; exact h.c2, by rw [World.cell?_setCell_other _ _ _ _ (ne_addr (Or.inr (by decide)))]; exact h.c3, fun o => by rw [World.frozen?_setCell]; exact h.f o⟩
theorem At4.set1 (h : At4 w k a b c d) (x : Nat) : At4 (w.setCell ⟨k, 1, none⟩ (.int .u64 (x : Int))) k a x c d :=
  ⟨by rw [World.cell?_setCell_other _ _ _ _ (ne_addr (Or.inr (by decide)))]; exact h.c0, World.cell?_setCell_same _ _ _ h.c1,
   by rw [World.cell?_setCell_other _ _ _ _ (ne_addr (Or.inr (by decide)))]; exact h.c2, by rw [World.cell?_setCell_other _ _ _ _ (ne_addr (Or.inr (by decide)))]; exact h.c3, fun o => by rw [World.frozen?_setCell]; exact h.f o⟩
theorem At4.set2 (h : At4 w k a b c d) (x : Nat) : At4 (w.setCell ⟨k, 2, none⟩ (.int .u64 (x : Int))) k a b x d :=
  ⟨by rw [World.cell?_setCell_other _ _ _ _ (ne_addr (Or.inr (by decide)))]; exact h.c0, by rw [World.cell?_setCell_other _ _ _ _ (ne_addr (Or.inr (by decide)))]; exact h.c1,
   World.cell?_setCell_same _ _ _ h.c2, by rw [World.cell?_setCell_other _ _ _ _ (ne_addr (Or.inr (by decide)))]; exact h.c3, fun o => by rw [World.frozen?_setCell]; exact h.f o⟩
theorem At4.set3 (h : At4 w k a b c d) (x : Nat) : At4 (w.setCell ⟨k, 3, none⟩ (.int .u64 (x : Int))) k a b c x :=
  ⟨by rw [World.cell?_setCell_other _ _ _ _ (ne_addr (Or.inr (by decide)))]; exact h.c0, by rw [World.cell?_setCell_other _ _ _ _ (ne_addr (Or.inr (by decide)))]; exact h.c1,
   by rw [World.cell?_setCell_other _ _ _ _ (ne_addr (Or.inr (by decide)))]; exact h.c2, World.cell?_setCell_same _ _ _ h.c3, fun o => by rw [World.frozen?_setCell]; exact h.f o⟩
theorem At4.drew (h : At4 w k a b c d) : At4 w.drew k a b c d := ⟨h.c0, h.c1, h.c2, h.c3, h.f⟩
/-- Four cells of a block, written one behind the other. -/
def set4 (w : World) (k : Nat) (x y z t : Value) : World := (((w.setCell ⟨k, 0, none⟩ x).setCell ⟨k, 1, none⟩ y).setCell ⟨k, 2, none⟩ z).setCell ⟨k, 3, none⟩ t
theorem At4.self4 (h : At4 w k a b c d) (x y z t : Nat) : At4 (set4 w k (.int .u64 (x : Int)) (.int .u64 (y : Int)) (.int .u64 (z : Int)) (.int .u64 (t : Int))) k x y z t := (((h.set0 x).set1 y).set2 z).set3 t
theorem At4.other4 {j : Nat} (h : At4 w k a b c d) (hj : j ≠ k) (x y z t : Value) : At4 (set4 w j x y z t) k a b c d := (((h.other hj x).other hj y).other hj z).other hj t
theorem below_set4 {B j : Nat} {w0 : World} (h : Below B w0 w) (hj : B ≤ j) (x y z t : Value) : Below B w0 (set4 w j x y z t) :=
  (((h.setCell (p := ⟨j, 0, none⟩) hj x).setCell (p := ⟨j, 1, none⟩) hj y).setCell (p := ⟨j, 2, none⟩) hj z).setCell (p := ⟨j, 3, none⟩) hj t
theorem size_set4 (w : World) (j : Nat) (x y z t : Value) : (set4 w j x y z t).heap.size = w.heap.size := by simp [set4]
/-- A prime: 2^256 less its gap, which has three words. -/
def PrimeV (p : Value) (g0 g1 g2 : Nat) : Prop := p = .agg #[.agg #[.int .u64 (g0 : Int), .int .u64 (g1 : Int), .int .u64 (g2 : Int), .int .u64 0]]
end Go.Proofs.Ytfgjdidnnbjalaa
namespace Go.Proofs.Ytfgjdidnnbjalaa
open Go.RowKit Go.Sort Go.Deep
abbrev Bs := Array UInt8
/-- A byte's number; a byte as the model holds it. -/
def ub (x : UInt8) : Int := (x.toNat : Int)
def encB (x : UInt8) : Value := .int .u8 (ub x)
theorem ub_lt (x : UInt8) : ub x < 256 := by
  have := x.toNat_lt
  unfold ub
  omega
theorem ub_nonneg (x : UInt8) : 0 ≤ ub x := Int.natCast_nonneg _
/-- Of all that was there, only the cells off .. off + n - 1 of block b may have turned; no block has gone. -/
structure Only (b off n : Nat) (w w' : World) : Prop where
  os : w'.os = w.os
  tape : w'.tape = w.tape
  output : w'.output = w.output
  size : w.heap.size ≤ w'.heap.size
  block : ∀ k, k < w.heap.size → k ≠ b → w'.heap[k]? = w.heap[k]?
  cell : ∀ o, (o < off ∨ off + n ≤ o) → w'.cell? ⟨b, o, none⟩ = w.cell? ⟨b, o, none⟩
  froz : ∀ o, w'.frozen? ⟨b, o, none⟩ = w.frozen? ⟨b, o, none⟩
variable {b off n : Nat} {w w1 w2 : World}
theorem Only.refl (b off n : Nat) (w : World) : Only b off n w w := ⟨rfl, rfl, rfl, Nat.le_refl _, fun _ _ _ => rfl, fun _ _ => rfl, fun _ => rfl⟩
theorem Only.trans (h : Only b off n w w1) (k : Only b off n w1 w2) : Only b off n w w2 :=
  ⟨k.os.trans h.os, k.tape.trans h.tape, k.output.trans h.output, Nat.le_trans h.size k.size,
    fun i hi hn => (k.block i (Nat.lt_of_lt_of_le hi h.size) hn).trans (h.block i hi hn),
    fun o ho => (k.cell o ho).trans (h.cell o ho), fun o => (k.froz o).trans (h.froz o)⟩
theorem Only.drewN (h : Only b off n w w1) (q : Nat) : Only b off n w (w1.drewN q) := ⟨h.os, h.tape, h.output, h.size, h.block, h.cell, h.froz⟩
theorem Only.drew (h : Only b off n w w1) : Only b off n w w1.drew := ⟨h.os, h.tape, h.output, h.size, h.block, h.cell, h.froz⟩
theorem Only.setCell (h : Only b off n w w1) {o : Nat} (h1 : off ≤ o) (h2 : o < off + n) (v : Value) : Only b off n w (w1.setCell ⟨b, o, none⟩ v) := by
  refine h.trans ⟨rfl, rfl, rfl, by simp, fun k _ hn => Below.heap_setCell _ _ _ _ hn, fun o' ho => ?_, fun o' => by simp⟩
  exact World.cell?_setCell_other _ _ _ _ (by intro e; simp only [Addr.mk.injEq, and_true, true_and] at e; omega)
theorem Only.alloc (h : Only b off n w w1) (hb : b < w1.heap.size) (o : Obj) : Only b off n w (w1.alloc o) := by
  refine h.trans ⟨rfl, rfl, rfl, by simp, fun k hk _ => Below.heap_alloc _ _ _ hk, fun o' _ => ?_, fun o' => ?_⟩
  · exact World.cell?_alloc_lt _ _ _ hb
  · exact World.frozen?_alloc_old _ _ _ (by show b ≠ _; omega)
theorem Only.below (h : Only b off n w w1) {B : Nat} (hB : B ≤ w.heap.size) (hb : B ≤ b) : Below B w w1 :=
  ⟨h.os, h.tape, h.output, h.size, fun k hk => h.block k (by omega) (by omega)⟩
/-- What only makes memory turns nothing of the row. -/
theorem Only.of_below {B : Nat} (h : Below B w w1) (hB : B = w.heap.size) (hb : b < B) : Only b off n w w1 :=
  ⟨h.os, h.tape, h.output, h.size, fun k hk _ => h.block k (by omega), fun o _ => h.cell (p := ⟨b, o, none⟩) hb, fun o => h.frozen (p := ⟨b, o, none⟩) hb⟩
theorem Only.other (h : Only b off n w w1) {c o : Nat} (hc : c ≠ b) (hs : c < w.heap.size) : w1.cell? ⟨c, o, none⟩ = w.cell? ⟨c, o, none⟩ ∧ w1.frozen? ⟨c, o, none⟩ = w.frozen? ⟨c, o, none⟩ :=
  ⟨World.cell?_of_block (w := w) (h.block c hs hc), World.frozen?_of_block (w := w) (h.block c hs hc)⟩
/-- What was done to a block of one's own, just made, turned nothing that was there. -/
theorem Only.fresh {o m : Nat} {x : Obj} (h : Only w.heap.size o m (w.alloc x) w1) : Below w.heap.size w w1 :=
  ((Below.refl _ _).alloc (Nat.le_refl _) x).trans (h.below (by simp) (Nat.le_refl _))
section
variable {α : Type} [Inhabited α] {enc : α → Value} {d : Array α}
theorem Holds.lt (h : Holds enc w b off d) (hd : 0 < d.size) : b < w.heap.size := World.block_lt_of_cell? _ _ (h 0 hd).1
theorem Holds.other {c o : Nat} (h : Holds enc w c o d) (k : Only b off n w w1) (hc : c ≠ b) (hd : 0 < d.size) : Holds enc w1 c o d := by
  intro j hj
  have := h j hj
  have := k.other (o := o + j) hc (Holds.lt h hd)
  rw [this.1, this.2]
  exact h j hj
theorem Holds.same {o : Nat} (h : Holds enc w b o d) (k : Only b off n w w1) (hd : o + d.size ≤ off ∨ off + n ≤ o) : Holds enc w1 b o d := by
  intro j hj
  rw [k.cell _ (by omega), k.froz]
  exact h j hj
theorem Holds.below {B : Nat} (h : Holds enc w b off d) (k : Below B w w1) (hb : b < B) : Holds enc w1 b off d := by
  intro j hj
  rw [k.cell (p := ⟨b, off + j, none⟩) hb, k.frozen (p := ⟨b, off + j, none⟩) hb]
  exact h j hj
theorem Holds.drewN (h : Holds enc w b off d) (q : Nat) : Holds enc (w.drewN q) b off d := h
theorem Holds.drew (h : Holds enc w b off d) : Holds enc w.drew b off d := h
theorem Holds.set (h : Holds enc w b off d) {i : Nat} (hi : i < d.size) (x : α) : Holds enc (w.setCell ⟨b, off + i, none⟩ (enc x)) b off (d.setIfInBounds i x) := by
  intro j hj
  rw [Array.size_setIfInBounds] at hj
  rw [World.frozen?_setCell]
  by_cases e : j = i
  · subst e
    rw [getElem!_set_same d j x hi]
    exact ⟨World.cell?_setCell_same _ _ _ (h j hj).1, (h j hj).2⟩
  · rw [getElem!_set_other d i j x e, World.cell?_setCell_other _ _ _ _ (by intro e'; simp only [Addr.mk.injEq, and_true, true_and] at e'; omega)]
    exact h j hj
/-- A block of one's own, just made. -/
theorem Holds.new (w : World) (t : TypeId) (d : Array α) : Holds enc (w.alloc (.cells (d.map enc) t)) w.heap.size 0 d := by
  intro j hj
  rw [World.cell?_alloc_new, World.frozen?_alloc_new]
  refine ⟨?_, rfl⟩
  simp only [Nat.zero_add, Array.getElem?_map, Array.getElem?_eq_getElem hj, Option.map_some, getElem!_pos d j hj]
/-- A block of one's own, made by 'make'. -/
theorem Holds.made (w : World) (t : TypeId) (n : Nat) (x : α) : Holds enc (w.alloc (.cells (madeCells #[enc x] n) t)) w.heap.size 0 (Array.replicate n x) := by
  intro j hj
  rw [Array.size_replicate] at hj
  rw [World.cell?_alloc_new, World.frozen?_alloc_new]
  refine ⟨?_, rfl⟩
  rw [getElem!_pos _ j (by simpa using hj), Array.getElem_replicate]
  simp [madeCells, hj, Nat.mod_one]
end
section
/-- What Lent lays at place i behind the text. -/
def fill (i : Nat) : UInt8 := UInt8.ofNat (i % 251) ^^^ 165
theorem fill_int (i : Nat) : bits .xor .u8 ((i : Int) % 251) 165 = ub (fill i) := by
  have H : ∀ j : Fin 251, bits .xor .u8 (j.val : Int) 165 = ub (UInt8.ofNat j.val ^^^ 165) := by decide +kernel
  have := H ⟨i % 251, Nat.mod_lt _ (by decide)⟩
  simpa [fill] using this
def lentTo (s : ByteArray) : Nat → Bs
  | 0 => s.data ++ Array.replicate 160 0
  | k + 1 => (lentTo s k).setIfInBounds (s.size + k) (fill (s.size + k))
def lent (s : ByteArray) : Bs := lentTo s 160
theorem lentTo_size (s : ByteArray) (k : Nat) : (lentTo s k).size = s.size + 160 := by
  induction k with
  | zero => simp [lentTo]
  | succ k ih => simp [lentTo, ih]
theorem lent_size (s : ByteArray) : (lent s).size = s.size + 160 := lentTo_size s 160
variable {w w1 : World} {b o n : Nat}
theorem heap_setCells (b : Nat) {k : Nat} (hk : k ≠ b) : ∀ (vs : List Value) (p : Nat) (w : World), (w.setCells b p vs).heap[k]? = w.heap[k]?
  | [], _, _ => rfl
  | v :: r, p, w => by rw [World.setCells, heap_setCells b hk r (p + 1) _, Below.heap_setCell _ _ _ _ hk]
theorem Only.setCells (h : Only b o n w w1) (vs : List Value) (p : Nat) (hp : o ≤ p) (hn : p + vs.length ≤ o + n) : Only b o n w (w1.setCells b p vs) := by
  have h0 := below_setCells (B := 0) (b := b) (Nat.zero_le _) vs p w1 (Below.refl 0 w1)
  exact h.trans ⟨h0.os, h0.tape, h0.output, h0.size, fun k _ hk => heap_setCells b hk vs p w1,
    fun q hq => World.cell?_setCells_out b vs p w1 ⟨b, q, none⟩ (fun _ _ => by simp only; omega), fun q => World.frozen?_setCells b vs p w1 _⟩
/-- A row behind 'copy': what was copied stands at its place, all else as it stood. -/
theorem Holds.setCells {bs r : Bs} (h : Holds encB w b o bs) (vs : List Value) (p : Nat) (hr : r.size = bs.size) (hp : p + vs.length ≤ bs.size)
    (h1 : ∀ j (hj : j < vs.length), vs[j] = encB r[p + j]!) (h2 : ∀ j, j < bs.size → j < p ∨ p + vs.length ≤ j → r[j]! = bs[j]!) : Holds encB (w.setCells b (o + p) vs) b o r := by
  intro j hj
  rw [hr] at hj
  rw [World.frozen?_setCells]
  refine ⟨?_, (h j hj).2⟩
  by_cases hin : j < p ∨ p + vs.length ≤ j
  · rw [World.cell?_setCells_out b vs (o + p) w ⟨b, o + j, none⟩ (fun _ _ => by simp only; omega), h2 j hj hin]
    exact (h j hj).1
  · have hj2 : j - p < vs.length := by omega
    have := World.cell?_setCells_in b vs (o + p) w (fun i hi => by
      have := (h (p + i) (by omega)).1
      rw [← Nat.add_assoc] at this
      rw [this]; rfl) (j - p) hj2
    rw [show o + p + (j - p) = o + j by omega] at this
    rw [this, h1 (j - p) hj2, show p + (j - p) = j by omega]
theorem app_front (a r : Bs) (j : Nat) (hj : j < a.size) : (a ++ r)[j]! = a[j] := by
  have h : j < (a ++ r).size := by rw [Array.size_append]; omega
  rw [getElem!_pos (a ++ r) j h, Array.getElem_append_left hj]
theorem app_back (a r : Bs) (j : Nat) (h1 : a.size ≤ j) (h2 : j < a.size + r.size) : (a ++ r)[j]! = r[j - a.size]! := by
  have h : j < (a ++ r).size := by rw [Array.size_append]; omega
  have h3 : j - a.size < r.size := by omega
  rw [getElem!_pos (a ++ r) j h, Array.getElem_append_right h1, getElem!_pos r (j - a.size) h3]
theorem rep_at (n j : Nat) (h : j < n) : (Array.replicate n (0 : UInt8))[j]! = 0 := by
  have h' : j < (Array.replicate n (0 : UInt8)).size := by rw [Array.size_replicate]; exact h
  rw [getElem!_pos (Array.replicate n (0 : UInt8)) j h', Array.getElem_replicate]
theorem lent_front (s : ByteArray) (j : Nat) (hj : j < s.data.size) : (lentTo s 0)[j]! = s.data[j] := app_front _ _ j hj
theorem lent_back (s : ByteArray) (j : Nat) (h1 : s.data.size ≤ j) (h2 : j < s.data.size + 160) : (lentTo s 0)[j]! = 0 := by
  rw [lentTo, app_back _ _ j h1 (by rw [Array.size_replicate]; exact h2), rep_at _ _ (by omega)]
theorem holds_lent0 (s : ByteArray) (n : Nat) (hn : s.size + 160 = n) (h : Holds encB w b 0 (Array.replicate n (0 : UInt8))) :
    Holds encB (w.setCells b 0 (s.data.toList.map fun x => Value.int .u8 (x.toNat : Int))) b 0 (lentTo s 0) := by
  have hl : s.data.size = s.size := rfl
  refine Holds.setCells (o := 0) (p := 0) h _ (by rw [lentTo_size, Array.size_replicate, hn]) (by rw [List.length_map, Array.length_toList, Array.size_replicate]; omega) (fun j hj => ?_) (fun j hj hout => ?_)
  · rw [List.length_map, Array.length_toList] at hj
    rw [Nat.zero_add, lent_front s j hj, List.getElem_map, Array.getElem_toList]
    rfl
  · rw [Array.size_replicate] at hj
    rw [List.length_map, Array.length_toList] at hout
    rw [lent_back s j (by omega) (by omega), rep_at n j hj]
theorem size_of5 (P : Program) (e : TypeId) (h : (P.info? e).map (·.size) = some 1) : ∀ w, (Go.sizeOf e).run P w = .ok 1 w := by
  intro w
  cases hq : P.info? e with
  | none => simp [hq] at h
  | some i =>
    simp [hq] at h
    simp [Go.sizeOf, typeInfo, hq, h]
theorem conv_str (P : Program) (src dst e : TypeId) (hs : P.underlying src = some (.slice e)) (he : P.underlying e = some (.int .u8)) (hd : P.underlying dst = some .string)
    (w : World) (b o n cap : Nat) (bs : Bs) (hB : Holds encB w b o bs) (hn : bs.size = n) : (convert src dst (.slice (some ⟨b, o, none⟩) n cap)).run P w = .ok (.string ⟨bs⟩) w := by
  have h := run_convert_bytes_back (P := P) w src dst e ⟨b, o, none⟩ cap bs.toList hs he hd (fun j hj => by
    have hj' : j < bs.size := by simpa using hj
    have hc := (hB j hj').1
    rw [getElem!_pos bs j hj'] at hc
    have e1 : (⟨b, o, none⟩ : Addr).add j = ⟨b, o + j, none⟩ := by
      unfold Addr.add
      by_cases h0 : j = 0
      · subst h0; rfl
      · rw [if_neg h0]
    rw [e1, hc]
    simp [encB, ub])
  simpa [hn] using h
end
section
theorem slice22 : Try.prog.underlying 32 = some (.slice 5) := by kernel_rfl
theorem info5 : (Try.prog.info? 5).map (fun i => (i.zero, i.size, i.bytes)) = some (some (.int .u8 0), 1, 1) := by kernel_rfl
theorem int5 : Try.prog.underlying 5 = some (.int .u8) := by kernel_rfl
theorem str9 : Try.prog.underlying 9 = some .string := by kernel_rfl
theorem size5 : ∀ w, (Go.sizeOf 5).run Try.prog w = .ok 1 w := size_of5 Try.prog 5 (by kernel_rfl)
theorem lent_step (s : ByteArray) (k : Nat) : lentTo s (k + 1) = (lentTo s k).setIfInBounds (s.size + k) (fill (s.size + k)) := rfl
set_option maxHeartbeats 1000000 in
set_option maxRecDepth 100000 in
theorem Lent_any (s : ByteArray) (w : World) (hs : s.size ≤ 16384) :
    Calls Try.prog 7 #[.string s] w fun e w' => e = .returned (.slice (some ⟨w.heap.size, 0, none⟩) (s.size + 160) (s.size + 160)) ∧ Below w.heap.size w w' ∧ Holds encB w' w.heap.size 0 (lent s) := by
  obtain ⟨n, hn⟩ : ∃ n, s.size + 160 = n := ⟨_, rfl⟩
  have hmk := run_make_row' (P := Try.prog) 32 5 (.int .u8 0) 1 slice22 info5 rfl .i64 .i64 n (by omega) (by omega)
  rw [← hn, show ((s.size + 160 : Nat) : Int) = (s.size : Int) + 160 from by omega, hn] at hmk
  have hH0 : Holds encB (w.alloc (.cells (madeCells #[.int .u8 0] n) 5)) w.heap.size 0 (Array.replicate n 0) := Holds.made (enc := encB) w 5 n 0
  have hcp := run_copy_string (P := Try.prog) (w.alloc (.cells (madeCells #[.int .u8 0] n) 5)) 32 9 3 5 w.heap.size 0 n n s slice22 size5 (by omega)
    (fun j hj => by rw [(hH0 j (by rw [Array.size_replicate]; omega)).1]; rfl) (fun j hj => (hH0 j (by rw [Array.size_replicate]; omega)).2)
  have hH1 : Holds encB ((w.alloc (.cells (madeCells #[.int .u8 0] n) 5)).setCells w.heap.size 0 (s.data.toList.map fun x => Value.int .u8 (x.toNat : Int))) w.heap.size 0 (lentTo s 0) := by
    exact holds_lent0 s n hn hH0
  have hb1 : Below w.heap.size w ((w.alloc (.cells (madeCells #[.int .u8 0] n) 5)).setCells w.heap.size 0 (s.data.toList.map fun x => Value.int .u8 (x.toNat : Int))) :=
    below_setCells (Nat.le_refl _) _ _ _ ((Below.refl _ _).alloc (Nat.le_refl _) _)
  have hsz : w.heap.size < ((w.alloc (.cells (madeCells #[.int .u8 0] n) 5)).setCells w.heap.size 0 (s.data.toList.map fun x => Value.int .u8 (x.toNat : Int))).heap.size := by
    have := (below_setCells (B := 0) (b := w.heap.size) (Nat.zero_le _) (s.data.toList.map fun x => Value.int .u8 (x.toNat : Int)) 0 (w.alloc (.cells (madeCells #[.int .u8 0] n) 5)) (Below.refl 0 _)).size
    rw [World.size_alloc] at this
    omega
  go_enter Try.func7, Try.ntmps7
  go_wp2
  generalize World.setCells _ _ _ _ = W2 at hH1 hb1 hsz ⊢
  clear hmk hcp hH0
  have n160 : (n : Int) = (s.size : Int) + 160 := by omega
  have Hn : Hid (s.size + 160 = n) := hn
  have hnb : n ≤ 16544 := by omega
  have hsn : s.size ≤ n := by omega
  clear hn n160
  go_loopg [4] 160 (fun g s4 wr => ∃ (k : Nat) (bs : Bs), k + g = 160 ∧ s4 = .int .i64 ((s.size + k : Nat) : Int) ∧ Holds encB wr w.heap.size 0 bs ∧ Only w.heap.size 0 n W2 wr ∧ Hid (bs = lentTo s k))
  case atStart => exact ⟨0, _, rfl, rfl, hH1, Only.refl _ _ _ _, rfl⟩
  case round =>
    obtain ⟨k, bs, hk, rfl, hB, hO, HE⟩ := hrel
    have hbs : bs.size = n := by rw [HE.out, lentTo_size]; exact Hn.out
    obtain ⟨i, hi⟩ : ∃ i, s.size + k = i := ⟨_, rfl⟩
    have Hi : Hid (s.size + k = i) := hi
    rw [hi]
    clear hi
    by_cases hlt : k < 160
    · have hin : i < n := by have := Hi.out; have := Hn.out; omega
      obtain ⟨c0, f0⟩ := hB i (by omega)
      rw [Nat.zero_add] at c0 f0
      have hin' : (i : Int) < (n : Int) := by omega
      have hf := fill_int i
      go_wp2
      go_roundg (gk - 1)
      case measure => omega
      case rel =>
        refine ⟨k + 1, bs.setIfInBounds i (fill i), by omega, ?_, ?_, ?_, ?_⟩
        · rw [← Hi.out]; go_num
        · have := Holds.set hB (i := i) (by omega) (fill i)
          rw [Nat.zero_add] at this
          exact this
        · exact hO.setCell (o := i) (by omega) (by omega) _
        · show _ = lentTo s (k + 1)
          rw [lent_step, Hi.out, HE.out]
    · have hin : (n : Int) ≤ (i : Int) := by have := Hi.out; have := Hn.out; omega
      have hk0 : k = 160 := by omega
      go_wp2
      go_ret
      refine ⟨?_, hb1.trans (hO.below (by omega) (Nat.le_refl _)), ?_⟩
      · rw [Hn.out]; rfl
      · unfold lent
        rw [HE.out, hk0] at hB
        exact hB
set_option maxHeartbeats 1000000 in
set_option maxRecDepth 100000 in
theorem Still_any (b : Nat) (bs : Bs) (s : ByteArray) (w : World) (hs : s.size ≤ 16384) (hB : Holds encB w b 0 bs) (hbs : bs = lent s) :
    Calls Try.prog 10 #[.slice (some ⟨b, 0, none⟩) (s.size + 160) (s.size + 160), .string s] w fun e w' => e = .returned (.bool true) ∧ Below w.heap.size w w' := by
  have hb := Holds.lt hB (by rw [hbs, lent_size]; omega)
  go_enter Try.func10, Try.ntmps10
  go_wp2_with fail
  refine (Lent_any s _ hs).mono ?_
  rintro e w1 ⟨rfl, hb1, hL⟩
  have k1 := conv_str Try.prog 32 9 5 slice22 int5 str9 w1 b 0 (s.size + 160) (s.size + 160) _ (Holds.below hB hb1 hb) (by rw [hbs, lent_size])
  have k2 := conv_str Try.prog 32 9 5 slice22 int5 str9 w1 w.heap.size 0 (s.size + 160) (s.size + 160) _ hL (lent_size s)
  rw [hbs] at k1
  go_wp2
  go_ret
  exact ⟨rfl, hb1⟩
end
end Go.Proofs.Ytfgjdidnnbjalaa
namespace Go.Proofs.Ytfgjdidnnbjalaa
open Go.RowKit Go.Sort Go.Deep
/-- A text as bytes of one's own. -/
theorem conv_of (s : ByteArray) (w : World) :
    ∃ cap w', (convert 9 32 (.string s)).run Try.prog w = .ok (.slice (some ⟨w.heap.size, 0, none⟩) s.size cap) w' ∧ s.size ≤ cap ∧ Below w.heap.size w w' ∧ Holds encB w' w.heap.size 0 s.data ∧ w.heap.size < w'.heap.size := by
  have h := Lib.run_convert_string_bytes (P := Try.prog) w 9 32 5 s str9 slice22 int5
  have hcap : s.size ≤ grownCap w s.size 0 5 := by
    unfold grownCap Question.cut
    exact Nat.le_add_right _ _
  have hl : s.data.size = s.size := rfl
  refine ⟨_, _, h, hcap, ?_, ?_, by rw [Lib.bytesWorld_size]; omega⟩
  · refine ⟨?_, ?_, ?_, ?_, fun k hk => Lib.bytesWorld_at_old w 5 s k hk⟩
    · unfold Lib.bytesWorld World.freeze
      rw [if_neg (by decide)]
      rfl
    · unfold Lib.bytesWorld World.freeze
      rw [if_neg (by decide)]
      rfl
    · unfold Lib.bytesWorld World.freeze
      rw [if_neg (by decide)]
      rfl
    · rw [Lib.bytesWorld_size]; omega
  · intro j hj
    have hb := Lib.bytesWorld_at_new w 5 s
    have hsz : (Lib.bytesCells w 5 s).size = grownCap w s.size 0 5 := by
      unfold Lib.bytesCells
      rw [Array.size_append, Array.size_map, Array.size_replicate]
      omega
    have hc : (Lib.bytesCells w 5 s) = (s.data ++ Array.replicate (grownCap w s.size 0 5 - s.size) 0).map encB := by
      unfold Lib.bytesCells
      rw [Array.map_append, Array.map_replicate]
      rfl
    have hj2 : j < (s.data ++ Array.replicate (grownCap w s.size 0 5 - s.size) 0).size := by rw [Array.size_append, Array.size_replicate]; omega
    have hget : (s.data ++ Array.replicate (grownCap w s.size 0 5 - s.size) 0)[j] = s.data[j]! := by
      rw [Array.getElem_append_left hj, getElem!_pos s.data j hj]
    constructor
    · unfold World.cell?
      rw [hb]
      simp only [Nat.zero_add]
      rw [if_neg (by decide), hc, Array.getElem?_map, Array.getElem?_eq_getElem hj2, Option.map_some, hget]
    · unfold World.frozen?
      rw [hb]
      simp only [Nat.zero_add, hsz]
      simp
      omega
end Go.Proofs.Ytfgjdidnnbjalaa
namespace Go.Proofs.Ytfgjdidnnbjalaa
open Go.RowKit Go.Sort Go.Deep
/-- The greatest power of two below n. -/
def hf (n : Nat) : Nat := 2 ^ Nat.log2 (n - 1)
theorem hf_lt {n : Nat} (h : 2 ≤ n) : 1 ≤ hf n ∧ hf n < n ∧ n ≤ 2 * hf n := by
  unfold hf
  have h0 : n - 1 ≠ 0 := by omega
  have h1 := Nat.log2_self_le h0
  have h2 := Nat.lt_log2_self (n := n - 1)
  rw [Nat.pow_succ] at h2
  have h3 := Nat.two_pow_pos (Nat.log2 (n - 1))
  omega
def leafH (b : Bs) : Bs := SP.tagL [108, 101, 97, 102] [b.toList]
def nodeH (x y : Bs) : Bs := SP.tagL [110, 111, 100, 101] [x.toList, y.toList]
/-- What a path leads to; the path's last entry first. -/
def lead (leaf : Bs) : List Bs → Nat → Nat → Bs × Bool
  | [], n, _ => if n = 1 then (leafH leaf, true) else (#[], false)
  | e :: r, n, i => if n = 1 then (leafH leaf, false) else
    if hf n ≤ i then (nodeH e (lead leaf r (n - hf n) (i - hf n)).1, (lead leaf r (n - hf n) (i - hf n)).2) else (nodeH (lead leaf r (hf n) i).1 e, (lead leaf r (hf n) i).2)
theorem lead_hi {lb e : Bs} {r : List Bs} {n i : Nat} (h1 : ¬ n = 1) (hk : hf n ≤ i) : lead lb (e :: r) n i = (nodeH e (lead lb r (n - hf n) (i - hf n)).1, (lead lb r (n - hf n) (i - hf n)).2) := by
  rw [lead, if_neg h1, if_pos hk]
theorem lead_lo {lb e : Bs} {r : List Bs} {n i : Nat} (h1 : ¬ n = 1) (hk : ¬ hf n ≤ i) : lead lb (e :: r) n i = (nodeH (lead lb r (hf n) i).1 e, (lead lb r (hf n) i).2) := by
  rw [lead, if_neg h1, if_neg hk]
section
variable {P : Program} {ops : Array Oper} {rest : List Oper} {op : Oper} {a : Act} {w : World} {Q : Exit → Act → World → Prop}
theorem wpList_idx (v : Value) (hgd : op.guard = none) (c : Value) (t : Tmp) (T : TypeId) (ho : op.op = .index T (.const c) (.tmp t)) (hr : (Instr.index T c (a.eval (.tmp t))).run P w = .ok v w) (h : wpList P ops Q rest (a.put op.dst v) w) : wpList P ops Q (op :: rest) a w :=
  wpList_plain hgd fun K hK => by
    unfold Oper.wp
    have : (execOp a.eval op).run P w = .ok (.value v) w := by
      unfold execOp
      rw [ho]
      show ((Instr.index T c (a.eval (.tmp t))) >>= fun v => pure (Next.value v)).run P w = _
      rw [Sem.run_bind, hr]
      rfl
    rw [this]
    exact hK _ _ h
end
theorem idx_run (s : ByteArray) (y n : Nat) (hy : y < s.size) (hn : ((s[y]'hy).toNat) = n) (w : World) : (Instr.index 9 (.string s) (.int .u8 (y : Int))).run Try.prog w = .ok (.int .u8 (n : Int)) w := by
  rw [run_index_string (t := 9) (s := s) (k := .u8) (i := (y : Int)) (h := str9)]
  subst hn
  simp [hy]
end Go.Proofs.Ytfgjdidnnbjalaa
set_option linter.unusedVariables false
set_option linter.unusedSimpArgs false
namespace Go.Proofs.Ytfgjdidnnbjalaa.RG
open Go Go.RowKit
/-- A value, or the address of one of the call's own blocks. -/
inductive SV where
  | v (x : Value)
  | p (b o : Nat)
  | s (b n c : Nat)
  | t (b n c : Nat) (y : Value)
def SV.at (μ : Nat → Nat) : SV → Value
  | .v x => x
  | .p b o => .pointer (some ⟨μ b, o, none⟩)
  | .s b n c => .slice (some ⟨μ b, 0, none⟩) n c
  | .t b n c y => .tuple #[.slice (some ⟨μ b, 0, none⟩) n c, y]
def SV.blk : SV → Option Nat
  | .v _ => none
  | .p b _ => some b
  | .s b _ _ => some b
  | .t b _ _ _ => some b
theorem SV.at_congr {μ ν : Nat → Nat} {s : SV} (h : ∀ b, s.blk = some b → μ b = ν b) : s.at μ = s.at ν := by
  cases s with
  | v x => rfl
  | p b o => show Value.pointer (some ⟨μ b, o, none⟩) = .pointer (some ⟨ν b, o, none⟩); rw [h b rfl]
  | s b n c => show Value.slice (some ⟨μ b, 0, none⟩) n c = .slice (some ⟨ν b, 0, none⟩) n c; rw [h b rfl]
  | t b n c y => show Value.tuple #[.slice (some ⟨μ b, 0, none⟩) n c, y] = .tuple #[.slice (some ⟨ν b, 0, none⟩) n c, y]; rw [h b rfl]
inductive Kind where
  | stay
  | pass
  | call
  | make (b : Nat)
  | put (b : Nat)
/-- What an operation of a region does; 'need': slots, and the operations that fill them. -/
structure It where
  dst : Option Tmp
  need : List (Tmp × Nat)
  out : SV
  kind : Kind
/-- A block: what lies in it, what is stored into it, which operation makes it and which stores into it. -/
structure Bl where
  before : List Value
  after : List Value
  al : Option Nat
  st : Option Nat
def on (L : Array Bool) (i : Nat) : Bool := L.getD i false
def Bl.live (e : Bl) (L : Array Bool) : Bool := (e.al.map (on L)).getD true
def Bl.put (e : Bl) (L : Array Bool) : Bool := (e.st.map (on L)).getD false
def Bl.now (e : Bl) (L : Array Bool) : List Value := if e.put L = true then e.after else e.before
theorem on_set {L : Array Bool} {i j : Nat} (h : i < L.size) : on (L.setIfInBounds i true) j = (on L j || i == j) := by
  unfold on
  simp only [Array.getD_eq_getD_getElem?, Array.getElem?_setIfInBounds]
  by_cases hij : i = j
  · subst hij; simp [h]
  · simp [hij]
theorem live_set {e : Bl} {L : Array Bool} {i : Nat} (h : i < L.size) : e.live (L.setIfInBounds i true) = (e.live L || e.al == some i) := by
  unfold Bl.live
  cases ha : e.al with
  | none => rfl
  | some j =>
    show on _ j = (on L j || _)
    rw [on_set h]
    by_cases hij : i = j
    · subst hij; simp
    · have h1 : (i == j) = false := by simpa using hij
      have h2 : (some j == some i) = false := by simpa using fun h => hij h.symm
      rw [h1, h2]
theorem put_set {e : Bl} {L : Array Bool} {i : Nat} (h : i < L.size) : e.put (L.setIfInBounds i true) = (e.put L || e.st == some i) := by
  unfold Bl.put
  cases ha : e.st with
  | none => rfl
  | some j =>
    show on _ j = (on L j || _)
    rw [on_set h]
    by_cases hij : i = j
    · subst hij; simp
    · have h1 : (i == j) = false := by simpa using hij
      have h2 : (some j == some i) = false := by simpa using fun h => hij h.symm
      rw [h1, h2]
theorem range_below {B k o : Nat} {w w' : World} {cs : List Value} (h : w.rangeAt k o cs) (hb : Below B w w') (hk : k < B) : w'.rangeAt k o cs := fun j v hv => by
  rw [hb.cell (p := ⟨k, o + j, none⟩) hk]; exact h j v hv
theorem there_below {B k o n : Nat} {w w' : World} (h : w.there k o n) (hb : Below B w w') (hk : k < B) : w'.there k o n := fun j hj => by
  rw [hb.cell (p := ⟨k, o + j, none⟩) hk, hb.frozen (p := ⟨k, o + j, none⟩) hk]; exact h j hj
theorem below_setCells {B k : Nat} {w0 : World} (hk : B ≤ k) : ∀ (vs : List Value) (o : Nat) (w : World), Below B w0 w → Below B w0 (w.setCells k o vs)
  | [], _, _, h => h
  | v :: r, o, w, h => below_setCells hk r (o + 1) _ (h.setCell (p := ⟨k, o, none⟩) hk v)
theorem setCells_size (k : Nat) : ∀ (vs : List Value) (o : Nat) (w : World), (w.setCells k o vs).heap.size = w.heap.size
  | [], _, _ => rfl
  | v :: r, o, w => by
    rw [World.setCells, setCells_size k r (o + 1)]
    simp [World.setCell]
theorem there_setCells {k b o n : Nat} : ∀ (vs : List Value) (i : Nat) (w : World), w.there b o n → (w.setCells k i vs).there b o n
  | [], _, _, h => h
  | v :: r, i, w, h => there_setCells r (i + 1) _ fun j hj => ⟨World.isSome_setCells k [v] i w _ (h j hj).1, by rw [World.frozen?_setCell]; exact (h j hj).2⟩
/-- Nothing below k0 was turned, but for the blocks of X. -/
structure BelX (k0 : Nat) (X : List Nat) (w w' : World) : Prop where
  os : w'.os = w.os
  tape : w'.tape = w.tape
  output : w'.output = w.output
  size : w.heap.size ≤ w'.heap.size
  block : ∀ j, j < k0 → j ∉ X → w'.heap[j]? = w.heap[j]?
theorem BelX.below {k0 : Nat} {w w' : World} (h : BelX k0 [] w w') : Below k0 w w' := ⟨h.os, h.tape, h.output, h.size, fun j hj => h.block j hj List.not_mem_nil⟩
theorem BelX.drew {k0 : Nat} {X : List Nat} {w w' : World} (h : BelX k0 X w w') : BelX k0 X w w'.drew := ⟨h.os, h.tape, h.output, h.size, h.block⟩
theorem BelX.refl (k0 : Nat) (X : List Nat) (w : World) : BelX k0 X w w := ⟨rfl, rfl, rfl, Nat.le_refl _, fun _ _ _ => rfl⟩
theorem BelX.trans {k0 : Nat} {X : List Nat} {a b c : World} (h : BelX k0 X a b) (k : BelX k0 X b c) : BelX k0 X a c :=
  ⟨k.os.trans h.os, k.tape.trans h.tape, k.output.trans h.output, Nat.le_trans h.size k.size, fun i hi hx => (k.block i hi hx).trans (h.block i hi hx)⟩
/-- What is known of the world, where the operations of L are done. -/
structure Wd (w0 : World) (k0 : Nat) (X : List Nat) (bl : List Bl) (L : Array Bool) (μ : Nat → Nat) (w : World) : Prop where
  bel : BelX k0 X w0 w
  le : k0 ≤ w.heap.size
  has : ∀ (b : Nat) (e : Bl), bl[b]? = some e → e.live L = true → w.rangeAt (μ b) 0 (e.now L) ∧ w.there (μ b) 0 e.before.length ∧ μ b < w.heap.size ∧ (k0 ≤ μ b ∨ μ b ∈ X)
  inj : ∀ (b c : Nat) (e f : Bl), bl[b]? = some e → bl[c]? = some f → e.live L = true → f.live L = true → b ≠ c → μ b ≠ μ c
variable {w0 w w' : World} {k0 : Nat} {X : List Nat} {bl : List Bl} {L : Array Bool} {μ : Nat → Nat}
theorem Wd.drew (h : Wd w0 k0 X bl L μ w) : Wd w0 k0 X bl L μ w.drew := ⟨h.bel.drew, h.le, h.has, h.inj⟩
theorem Wd.same {L' : Array Bool} (h : Wd w0 k0 X bl L μ w) (hl : ∀ (b : Nat) (e : Bl), bl[b]? = some e → e.live L' = e.live L ∧ e.put L' = e.put L) : Wd w0 k0 X bl L' μ w := by
  refine ⟨h.bel, h.le, fun b e hb hv => ?_, fun b c e f hb hc he hf => h.inj b c e f hb hc ((hl b e hb).1 ▸ he) ((hl c f hc).1 ▸ hf)⟩
  have := h.has b e hb ((hl b e hb).1 ▸ hv)
  unfold Bl.now at this ⊢
  rw [(hl b e hb).2]
  exact this
theorem Wd.call (h : Wd w0 k0 X bl L μ w) (hb : Below w.heap.size w w') : Wd w0 k0 X bl L μ w' := by
  refine ⟨h.bel.trans ⟨hb.os, hb.tape, hb.output, hb.size, fun k hk _ => hb.block k (Nat.lt_of_lt_of_le hk h.le)⟩, Nat.le_trans h.le hb.size, fun b e hbe hv => ?_, h.inj⟩
  obtain ⟨h1, h2, h3, h4⟩ := h.has b e hbe hv
  exact ⟨range_below h1 hb h3, there_below h2 hb h3, Nat.lt_of_lt_of_le h3 hb.size, h4⟩
def upd (μ : Nat → Nat) (b k : Nat) : Nat → Nat := fun c => if c = b then k else μ c
/-- A new block k; there lies c; nothing that was there was turned. -/
structure Made (w : World) (k : Nat) (c : List Value) (w' : World) : Prop where
  bel : Below w.heap.size w w'
  le : w.heap.size ≤ k
  lt : k < w'.heap.size
  range : w'.rangeAt k 0 c
  there : w'.there k 0 c.length
theorem Made.alloc (w : World) (c : List Value) (t : TypeId) : Made w w.heap.size c (w.alloc (.cells c.toArray t)) := by
  refine ⟨below1 w _, Nat.le_refl _, by rw [World.size_alloc]; omega, fun j v hj => ?_, fun j hj => ⟨?_, World.frozen?_alloc_new _ _ _ _⟩⟩
  · rw [Nat.zero_add, World.cell?_alloc_new]
    simpa using hj
  · rw [Nat.zero_add, World.cell?_alloc_new]
    simp [hj]
theorem Wd.make {i b k : Nat} {e : Bl} (h : Wd w0 k0 X bl L μ w) (hi : i < L.size) (hb : bl[b]? = some e) (ha : e.al = some i) (hne : ∀ (c : Nat) (f : Bl), bl[c]? = some f → c ≠ b → f.al ≠ some i)
    (hst : ∀ (c : Nat) (f : Bl), bl[c]? = some f → f.st ≠ some i) (hp : e.put L = false) (hm : Made w k e.before w') :
    Wd w0 k0 X bl (L.setIfInBounds i true) (upd μ b k) w' := by
  have hput : ∀ (c : Nat) (f : Bl), bl[c]? = some f → f.put (L.setIfInBounds i true) = f.put L := fun c f hc => by
    rw [put_set hi, show (f.st == some i) = false by simpa using hst c f hc, Bool.or_false]
  have hliv : ∀ (c : Nat) (f : Bl), bl[c]? = some f → c ≠ b → f.live (L.setIfInBounds i true) = f.live L := fun c f hc hcb => by
    rw [live_set hi, show (f.al == some i) = false by simpa using hne c f hc hcb, Bool.or_false]
  have hold : ∀ (c : Nat) (f : Bl), bl[c]? = some f → c ≠ b → f.live (L.setIfInBounds i true) = true → μ c < w.heap.size := fun c f hc hcb hv => (h.has c f hc (hliv c f hc hcb ▸ hv)).2.2.1
  have hal := hm.bel
  have hmk := hm.le
  refine ⟨h.bel.trans ⟨hal.os, hal.tape, hal.output, hal.size, fun k hk _ => hal.block k (Nat.lt_of_lt_of_le hk h.le)⟩, Nat.le_trans h.le hal.size, fun c f hc hv => ?_, fun c d f g hc hd hf hg hcd => ?_⟩
  · by_cases hcb : c = b
    · subst hcb
      rw [hb] at hc
      obtain rfl : e = f := Option.some.inj hc
      have hn : e.now (L.setIfInBounds i true) = e.before := by unfold Bl.now; rw [hput c e hb, hp]; rfl
      rw [hn]
      unfold upd
      rw [if_pos rfl]
      exact ⟨hm.range, hm.there, hm.lt, Or.inl (Nat.le_trans h.le hmk)⟩
    · obtain ⟨h1, h2, h3, h4⟩ := h.has c f hc (hliv c f hc hcb ▸ hv)
      unfold upd
      rw [if_neg hcb]
      have hn : f.now (L.setIfInBounds i true) = f.now L := by unfold Bl.now; rw [hput c f hc]
      rw [hn]
      exact ⟨range_below h1 hal h3, there_below h2 hal h3, Nat.lt_of_lt_of_le h3 hal.size, h4⟩
  · unfold upd
    by_cases hcb : c = b
    · subst hcb
      rw [if_pos rfl, if_neg (fun h => hcd h.symm)]
      exact Nat.ne_of_gt (Nat.lt_of_lt_of_le (hold d g hd (fun h => hcd h.symm) hg) hmk)
    · by_cases hdb : d = b
      · subst hdb
        rw [if_pos rfl, if_neg hcb]
        exact Nat.ne_of_lt (Nat.lt_of_lt_of_le (hold c f hc hcb hf) hmk)
      · rw [if_neg hcb, if_neg hdb]
        exact h.inj c d f g hc hd (hliv c f hc hcb ▸ hf) (hliv d g hd hdb ▸ hg) hcd
/-- Of what was there, block k alone was written; there lies cs now. -/
structure PutTo (k n : Nat) (cs : List Value) (w w' : World) : Prop where
  os : w'.os = w.os
  tape : w'.tape = w.tape
  output : w'.output = w.output
  size : w.heap.size ≤ w'.heap.size
  block : ∀ j, j < w.heap.size → j ≠ k → w'.heap[j]? = w.heap[j]?
  range : w'.rangeAt k 0 cs
  there : w'.there k 0 n
theorem setCells_other (k : Nat) : ∀ (vs : List Value) (o : Nat) (w : World) (j : Nat), j ≠ k → (w.setCells k o vs).heap[j]? = w.heap[j]?
  | [], _, _, _, _ => rfl
  | v :: r, o, w, j, h => by
    rw [World.setCells, setCells_other k r (o + 1) _ j h, Below.heap_setCell _ _ _ _ h]
theorem setCells_os (k : Nat) : ∀ (vs : List Value) (o : Nat) (w : World), (w.setCells k o vs).os = w.os ∧ (w.setCells k o vs).tape = w.tape ∧ (w.setCells k o vs).output = w.output
  | [], _, _ => ⟨rfl, rfl, rfl⟩
  | v :: r, o, w => by rw [World.setCells]; exact setCells_os k r (o + 1) _
/-- A store of some cells into a block. -/
theorem PutTo.store {k n o : Nat} {before after vs : List Value} (ht : w.there k 0 n) (hr : w.rangeAt k 0 before) (hl : o + vs.length ≤ n) (ha : ∀ j, after[j]? = if o ≤ j ∧ j < o + vs.length then vs[j - o]? else before[j]?) : PutTo k n after w (w.setCells k o vs) := by
  obtain ⟨h1, h2, h3⟩ := setCells_os k vs o w
  refine ⟨h1, h2, h3, by rw [setCells_size]; exact Nat.le_refl _, fun j _ hj => setCells_other k vs o w j hj, fun j v hv => ?_, there_setCells _ _ _ ht⟩
  have hto : w.there k o vs.length := fun j hj => by have := ht (o + j) (by omega); rwa [Nat.zero_add] at this
  rw [ha j] at hv
  rw [Nat.zero_add]
  by_cases hj : o ≤ j ∧ j < o + vs.length
  · rw [if_pos hj] at hv
    have := World.rangeAt_setCells_same w k o vs hto (j - o) v hv
    rwa [show o + (j - o) = j by omega] at this
  · rw [if_neg hj] at hv
    have h5 : w.rangeAt k j [v] := fun i u hu => by
      cases i with
      | zero =>
        obtain rfl : v = u := by simpa using hu
        have := hr j v hv
        rwa [Nat.zero_add] at this
      | succ i => simp at hu
    have h6 := World.rangeAt_setCells_apart h5 k o vs (Or.inr (by simp only [List.length_cons, List.length_nil]; omega))
    have := h6 0 v rfl
    exact this
theorem PutTo.whole {k : Nat} {before after : List Value} (ht : w.there k 0 before.length) (hr : w.rangeAt k 0 before) (hl : after.length = before.length) : PutTo k before.length after w (w.setCells k 0 after) :=
  PutTo.store ht hr (by omega) (fun j => by
    by_cases hj : 0 ≤ j ∧ j < 0 + after.length
    · rw [if_pos hj]; rfl
    · rw [if_neg hj, List.getElem?_eq_none (by omega), List.getElem?_eq_none (by omega)])
theorem Wd.put {i b : Nat} {e : Bl} (h : Wd w0 k0 X bl L μ w) (hi : i < L.size) (hb : bl[b]? = some e) (hs : e.st = some i) (hv : e.live L = true) (hp : PutTo (μ b) e.before.length e.after w w')
    (hne : ∀ (c : Nat) (f : Bl), bl[c]? = some f → c ≠ b → f.st ≠ some i) (hal : ∀ (c : Nat) (f : Bl), bl[c]? = some f → f.al ≠ some i) :
    Wd w0 k0 X bl (L.setIfInBounds i true) μ w' := by
  have hliv : ∀ (c : Nat) (f : Bl), bl[c]? = some f → f.live (L.setIfInBounds i true) = f.live L := fun c f hc => by
    rw [live_set hi, show (f.al == some i) = false by simpa using hal c f hc, Bool.or_false]
  obtain ⟨g1, g2, g3, g4⟩ := h.has b e hb hv
  have hle := h.le
  refine ⟨h.bel.trans ⟨hp.os, hp.tape, hp.output, hp.size, fun j hj hx => hp.block j (by omega) (fun e => g4.elim (fun h => by omega) (fun h => hx (e ▸ h)))⟩, Nat.le_trans h.le hp.size, fun c f hc hvc => ?_, fun c d f g hc hd hf hg => h.inj c d f g hc hd (hliv c f hc ▸ hf) (hliv d g hd ▸ hg)⟩
  rw [hliv c f hc] at hvc
  obtain ⟨h1, h2, h3, h4⟩ := h.has c f hc hvc
  by_cases hcb : c = b
  · subst hcb
    rw [hb] at hc
    obtain rfl : e = f := Option.some.inj hc
    have hn : e.now (L.setIfInBounds i true) = e.after := by
      unfold Bl.now
      rw [put_set hi, hs]
      simp
    rw [hn]
    exact ⟨hp.range, hp.there, Nat.lt_of_lt_of_le h3 hp.size, h4⟩
  · have hn : f.now (L.setIfInBounds i true) = f.now L := by
      unfold Bl.now
      rw [put_set hi, show (f.st == some i) = false by simpa using hne c f hc hcb, Bool.or_false]
    rw [hn]
    have hsame := hp.block (μ c) h3 (h.inj c b f e hc hb hvc hv hcb)
    refine ⟨fun j v hj => ?_, fun j hj => ?_, Nat.lt_of_lt_of_le h3 hp.size, h4⟩
    · rw [World.cell?_of_block (w := w) (a := ⟨μ c, 0 + j, none⟩) hsame]; exact h1 j v hj
    · rw [World.cell?_of_block (w := w) (a := ⟨μ c, 0 + j, none⟩) hsame, World.frozen?_of_block (w := w) (a := ⟨μ c, 0 + j, none⟩) hsame]; exact h2 j hj
end Go.Proofs.Ytfgjdidnnbjalaa.RG
namespace Go.Proofs.Ytfgjdidnnbjalaa
open Go.RowKit Go.Sort Go.Deep
theorem part_tag {w : World} {r : Nat} {l : List UInt8} {ps : List (List UInt8)} (h : Holds encB w r 0 (SP.tagL l ps)) : SP.PartOk w (.slice (some ⟨r, 0, none⟩) 32 32) (SP.tagL l ps).toList :=
  ⟨_, r, 0, 32, SP.tagL l ps, by rw [SP.tagL_size], rfl, by rw [SP.tagL_size]; exact Nat.le_refl _, by rw [SP.tagL_size]; decide, Or.inr ⟨rfl, h⟩⟩
theorem results_ttt2 {P : Program} {w : World} {fn : Func} {a : Act} (t u x : Tmp) (hr : fn.results = #[.tmp t, .tmp u, .tmp x]) (v v' v'' : Value) (ht : a.tmps[t]? = some v) (hu : a.tmps[u]? = some v') (hx : a.tmps[x]? = some v'') : (results fn a.tmps).run P w = .ok (.tuple #[v, v', v'']) w := by
  have h2 : a.tmps.getD t undef = v := by rw [Array.getD_eq_getD_getElem?, ht]; rfl
  have h3 : a.tmps.getD u undef = v' := by rw [Array.getD_eq_getD_getElem?, hu]; rfl
  have h4 : a.tmps.getD x undef = v'' := by rw [Array.getD_eq_getD_getElem?, hx]; rfl
  unfold results
  rw [hr]
  simp only [Array.mapM_eq_mapM_toList, List.mapM_cons, List.mapM_nil, h2, h3, h4]
  simp [Sem.run_bind]
/-- Bytes that are answered: in a slice. -/
def PartS (w : World) (v : Value) (b : List UInt8) : Prop := (∃ q n c, v = .slice q n c) ∧ SP.PartOk w v b
/-- Lists of bytes in a row of cells. -/
def Lists (w : World) (q : Option Addr) (n : Nat) (S : Nat → Bs) : Prop := 0 < n → ∃ gg oo, q = some ⟨gg, oo, none⟩ ∧ gg < w.heap.size ∧ ∀ j, j < n → ∃ v, w.cell? ⟨gg, oo + j, none⟩ = some v ∧ PartS w v (S j).toList
theorem Lists.below {w w1 : World} {q : Option Addr} {n : Nat} {S : Nat → Bs} (h : Lists w q n S) (hb : Below w.heap.size w w1) : Lists w1 q n S := fun hn => by
  obtain ⟨gg, oo, h1, h2, h3⟩ := h hn
  refine ⟨gg, oo, h1, Nat.lt_of_lt_of_le h2 hb.size, fun j hj => ?_⟩
  obtain ⟨v, h4, h5⟩ := h3 j hj
  exact ⟨v, by rw [hb.cell (p := ⟨gg, oo + j, none⟩) h2]; exact h4, h5.1, h5.2.below hb⟩
theorem Lists.less {w : World} {q : Option Addr} {n m : Nat} {S : Nat → Bs} (h : Lists w q n S) (hm : m ≤ n) : Lists w q m S := fun hn => by
  obtain ⟨gg, oo, h1, h2, h3⟩ := h (by omega)
  exact ⟨gg, oo, h1, h2, fun j hj => h3 j (by omega)⟩
/-- The first m entries, the last first. -/
def revL (S : Nat → Bs) : Nat → List Bs
  | 0 => []
  | m + 1 => S m :: revL S m
theorem Hid.mk2 {p : Prop} (h : p) : Hid p := h
theorem part_nil2 (w : World) : SP.PartOk w (.slice none 0 0) (#[] : Bs).toList := ⟨none, 0, 0, 0, #[], rfl, rfl, Nat.le_refl _, by decide, Or.inl rfl⟩
theorem wr64 {n : Int} (h0 : 0 ≤ n) (h1 : n < 9223372036854775808) : wrap64 n = n := by unfold wrap64; omega
end Go.Proofs.Ytfgjdidnnbjalaa
namespace Go.Proofs.Ytfgjdidnnbjalaa
open Go.RowKit Go.Sort Go.Deep
theorem part_size {w : World} {q : Option Addr} {n c : Nat} {b : Bs} (h : SP.PartOk w (.slice q n c) b.toList) : n = b.size := by
  obtain ⟨a, sb, so, cap, bs, h1, h2, -⟩ := h
  cases h1
  rw [Array.ext' h2]
theorem part_conv {w : World} {q : Option Addr} {n c : Nat} {b : Bs} (h : SP.PartOk w (.slice q n c) b.toList) : (convert 32 9 (.slice q n c)).run Try.prog w = .ok (.string ⟨b⟩) w := by
  obtain ⟨a, sb, so, cap, bs, h1, h2, h3, -, h5⟩ := h
  cases h1
  obtain rfl := Array.ext' h2
  rcases h5 with h5 | ⟨rfl, h6⟩
  · have hb : bs = #[] := Array.eq_empty_of_size_eq_zero h5
    subst hb
    cases q with
    | none => exact run_convert_bytes_nil (P := Try.prog) (w := w) 32 5 slice22 int5 0 c 9 str9
    | some a => exact run_convert_bytes_back (P := Try.prog) w 32 9 5 a c [] slice22 int5 str9 (fun j hj => by cases hj)
  · exact SP.conv_str Try.prog 32 9 5 slice22 int5 str9 w sb so bs.size c bs h6 rfl
theorem beq3 (a b : Bs) : ((⟨a⟩ : ByteArray).toList == (⟨b⟩ : ByteArray).toList) = decide (a = b) := by
  by_cases h : a = b
  · subst h
    simp
  · rw [decide_eq_false h]
    have : ¬ ((⟨a⟩ : ByteArray).toList = (⟨b⟩ : ByteArray).toList) := fun e => by
      rw [ByteArray.toList_eq, ByteArray.toList_eq] at e
      exact h (Array.toList_inj.1 e)
    simpa using this
theorem equal_c (q q' : Option Addr) (n c n' c' : Nat) (b b' : Bs) (w : World) (hv : SP.PartOk w (.slice q n c) b.toList) (hv' : SP.PartOk w (.slice q' n' c') b'.toList) : Calls Try.prog 47 #[.slice q n c, .slice q' n' c'] w fun e w' => e = .returned (.bool (decide (b = b'))) ∧ w' = w := by
  have h1 := part_conv hv
  have h2 := part_conv hv'
  have h3 := beq3 b b'
  clear hv hv'
  go_enter Try.func47, Try.ntmps47
  go_wp2
  go_ret
  exact ⟨by first | rfl | simp [h3], rfl⟩
/-- What Lies answers. -/
def liesT (root leaf : Bs) (n i : Int) (S : Nat → Bs) (m : Nat) : Bool :=
  if (1 ≤ n ∧ n ≤ 1048576) ∧ (0 ≤ i ∧ i ≤ n - 1) ∧ (∀ j, j < m → (S j).size = 32) then (lead leaf (revL S m) n.toNat i.toNat).2 && decide ((lead leaf (revL S m) n.toNat i.toNat).1 = root) else false
end Go.Proofs.Ytfgjdidnnbjalaa
namespace Go.Proofs.Ytfgjdidnnbjalaa
open Go.RowKit Go.Sort Go.Deep
theorem zeros_one {z : Value} (e : z.cells = #[z]) (n : Nat) : Builtin.zeroCells z.cells n = Array.replicate n z := by
  unfold Builtin.zeroCells
  rw [e]
  apply Array.ext
  · simp
  · intro k h2 h3
    simp [Nat.mod_one]
def encV (v : Value) : Value := v
theorem slice46 : Try.prog.underlying 72 = some (.slice 32) := by kernel_rfl
theorem slice45 : Try.prog.underlying 38 = some (.slice 9) := by kernel_rfl
theorem info23 : (Try.prog.info? 32).map (fun i => (i.zero, i.size, i.bytes)) = some (some (.slice none 0 0), 1, 24) := by kernel_rfl
theorem info9 : (Try.prog.info? 9).map (fun i => (i.zero, i.size, i.bytes)) = some (some (.string ⟨#[]⟩), 1, 16) := by kernel_rfl
/-- A list of values of one's own, in block g. -/
structure ListAt (w : World) (g cap : Nat) (vs : List Value) (cur : Array Value) : Prop where
  lt : g < w.heap.size
  size : cur.size = cap
  fits : vs.length ≤ cap
  holds : Holds encV w g 0 cur
  front : ∀ j, j < vs.length → cur[j]! = vs[j]!
theorem ListAt.below {w w1 : World} {g cap : Nat} {vs : List Value} {cur : Array Value} (h : ListAt w g cap vs cur) (k : Below w.heap.size w w1) : ListAt w1 g cap vs cur :=
  ⟨Nat.lt_of_lt_of_le h.lt k.size, h.size, h.fits, Holds.below h.holds k h.lt, h.front⟩
theorem val_front (a b : List Value) (j : Nat) (h : j < a.length) : (a ++ b)[j]! = a[j]! := by
  rw [getElem!_pos (a ++ b) j (by rw [List.length_append]; omega), getElem!_pos a j h, List.getElem_append_left h]
theorem val_last (a : List Value) (x : Value) : (a ++ [x])[a.length]! = x := by
  rw [getElem!_pos (a ++ [x]) a.length (by simp)]
  simp
theorem arr_list_at (T : List Value) (n j : Nat) (z : Value) (h : j < T.length) : (T.toArray ++ Array.replicate n z)[j]! = T[j]! := by
  rw [getElem!_pos _ j (by simp; omega), getElem!_pos T j h, Array.getElem_append_left (by simpa using h)]
  simp
theorem src_oneG {w : World} {T E : TypeId} (hT : Try.prog.underlying T = some (.slice E)) {r : Nat} {x : Value} (hx : w.cell? ⟨r, 0, none⟩ = some x) (h1 : x.oneCell' = true) : Src Try.prog 1 T (.slice (some ⟨r, 0, none⟩) 1 1) 1 [x] w := by
  refine Src.ofSlice w hT ⟨r, 0, none⟩ 1 1 _ rfl (fun j u hj => ?_) (fun u hu => ?_)
  · cases j with
    | zero =>
      have : u = x := by simpa using hj.symm
      rw [this]
      exact hx
    | succ j => simp at hj
  · have : u = x := by simpa using hu
    rw [this]
    exact h1
/-- 'append(l, x)', l a list of slices of one's own. -/
theorem append_valS {T E : TypeId} {z : Value} (hT : Try.prog.underlying T = some (.slice E)) (hE : (Try.prog.info? E).map (fun i => (i.zero, i.size, i.bytes)) = some (some z, 1, 16)) (hzc : z.cells = #[z]) {w : World} {g cap r : Nat} {vs : List Value} {cur : Array Value} {x : Value} (h : ListAt w g cap vs cur) (hx : w.cell? ⟨r, 0, none⟩ = some x) (h1 : x.oneCell' = true) (hbig : vs.length ≤ 1048576) :
    ∃ g' cap' cur' w', (Builtin.append_ #[T, T] T #[.slice (some ⟨g, 0, none⟩) vs.length cap, .slice (some ⟨r, 0, none⟩) 1 1]).run Try.prog w = .ok (.slice (some ⟨g', 0, none⟩) (vs.length + 1) cap') w' ∧
      ListAt w' g' cap' (vs ++ [x]) cur' ∧ Only g 0 cap w w' ∧ (g' = g ∨ w.heap.size ≤ g') := by
  obtain ⟨i, hi, hz, hsz, hby⟩ := info_parts hE
  have hsrc := src_oneG hT (r := r) hx h1
  by_cases hroom : vs.length + 1 ≤ cap
  · have hap := run_append_room_src (P := Try.prog) w T T T E i hT hi g 0 vs.length cap (.slice (some ⟨r, 0, none⟩) 1 1) 1 [x] (by rw [hsz]; exact hsrc) hroom
      (fun j hj => by
        have hj0 : j = 0 := by simpa using hj
        subst hj0
        rw [hsz, Nat.mul_one, Nat.add_zero, (h.holds vs.length (by rw [h.size]; omega)).1]; rfl)
      (fun j hj => by
        have hj0 : j = 0 := by simpa using hj
        subst hj0
        rw [hsz, Nat.mul_one, Nat.add_zero]
        exact (h.holds vs.length (by rw [h.size]; omega)).2)
    rw [hsz, Nat.mul_one, Nat.zero_add] at hap
    have hset : w.setCells g vs.length [x] = w.setCell ⟨g, vs.length, none⟩ x := rfl
    rw [hset] at hap
    have hH := Holds.set h.holds (i := vs.length) (by rw [h.size]; omega) x
    rw [Nat.zero_add] at hH
    refine ⟨g, cap, cur.setIfInBounds vs.length x, _, hap, ⟨by rw [World.size_setCell]; exact h.lt, by rw [Array.size_setIfInBounds, h.size], by rw [List.length_append]; exact hroom, hH, fun j hj => ?_⟩, (Only.refl _ _ _ _).setCell (by omega) (by omega) _, Or.inl rfl⟩
    rw [List.length_append, List.length_singleton] at hj
    by_cases hj1 : j = vs.length
    · rw [hj1, val_last, getElem!_set_same _ _ _ (by rw [h.size]; omega)]
    · rw [getElem!_set_other _ _ _ _ hj1, val_front _ _ _ (by omega), h.front j (by omega)]
  · have hold : (Builtin.firstCells i.size vs.length (.slice (some ⟨g, 0, none⟩) vs.length cap)).run Try.prog w.drew = .ok vs.toArray w.drew := by
      rw [hsz]
      refine run_firstCells_some w.drew 1 vs.length ⟨g, 0, none⟩ vs.length cap vs (by rw [Nat.mul_one]) (fun j u hj => ?_)
      obtain ⟨h2, h3⟩ := List.getElem?_eq_some_iff.1 hj
      have hc := (h.holds j (by rw [h.size]; have := h.fits; omega)).1
      rw [h.front j h2, getElem!_pos vs j h2, h3] at hc
      have e1 : (⟨g, 0, none⟩ : Addr).add j = ⟨g, 0 + j, none⟩ := by
        unfold Addr.add
        by_cases h0 : j = 0
        · subst h0; rw [if_pos rfl]
        · rw [if_neg h0]
      rw [e1, World.cell?_drew, hc]
      rfl
    have hf := h.fits
    have hnc : Builtin.nextslicecap (vs.length + 1) cap ≤ 2 * (vs.length + 1) + 768 := by
      unfold Builtin.nextslicecap
      split
      · omega
      · split
        · omega
        · simp only [Builtin.growBy]
          repeat' split
          all_goals omega
    have hap := run_append_grow_src (P := Try.prog) w T T T E i z hT hi hz (some ⟨g, 0, none⟩) vs.length cap vs hold _ 1 [x] (by rw [hsz]; exact hsrc) (by omega) (by omega) (by rw [hby]; omega)
    generalize hG : grownCap w (vs.length + 1) cap E = G at hap
    have hGl : vs.length + 1 ≤ G := by
      rw [← hG]
      unfold grownCap Question.cut
      exact Nat.le_add_right _ _
    have hcells : (vs ++ [x]).toArray ++ Builtin.zeroCells z.cells (G - (vs.length + 1)) = ((vs ++ [x]).toArray ++ Array.replicate (G - (vs.length + 1)) (z)).map encV := by
      have e0 : ∀ a : Array Value, a.map encV = a := fun a => by
        have : encV = id := rfl
        rw [this, Array.map_id]
      rw [e0, zeros_one hzc]
    rw [hcells] at hap
    refine ⟨w.heap.size, G, (vs ++ [x]).toArray ++ Array.replicate (G - (vs.length + 1)) (z), _, hap, ⟨by simp, ?_, by rw [List.length_append]; exact hGl, ?_, fun j hj => arr_list_at _ _ _ _ hj⟩, ?_, Or.inr (Nat.le_refl _)⟩
    · simp; omega
    · exact Holds.new (enc := encV) w.drew E _
    · exact (Only.refl g 0 cap w).drew.alloc h.lt _
/-- .. and the first of them. -/
theorem append_firstS {T E : TypeId} {z : Value} (hT : Try.prog.underlying T = some (.slice E)) (hE : (Try.prog.info? E).map (fun i => (i.zero, i.size, i.bytes)) = some (some z, 1, 16)) (hzc : z.cells = #[z]) {w : World} {r : Nat} {x : Value} (hx : w.cell? ⟨r, 0, none⟩ = some x) (h1 : x.oneCell' = true) :
    ∃ cap' cur' w', (Builtin.append_ #[T, T] T #[.slice none 0 0, .slice (some ⟨r, 0, none⟩) 1 1]).run Try.prog w = .ok (.slice (some ⟨w.heap.size, 0, none⟩) 1 cap') w' ∧
      ListAt w' w.heap.size cap' [x] cur' ∧ Below w.heap.size w w' := by
  obtain ⟨i, hi, hz, hsz, hby⟩ := info_parts hE
  have hsrc := src_oneG hT (r := r) hx h1
  have hold : (Builtin.firstCells i.size 0 (.slice none 0 0)).run Try.prog w.drew = .ok ([] : List Value).toArray w.drew := run_firstCells_none w.drew i.size 0 0 0
  have hnc : Builtin.nextslicecap (0 + 1) 0 ≤ 770 := by decide
  have hap := run_append_grow_src (P := Try.prog) w T T T E i z hT hi hz none 0 0 [] hold _ 1 [x] (by rw [hsz]; exact hsrc) (by omega) (by omega) (by rw [hby]; omega)
  rw [Nat.zero_add] at hap
  generalize hG : grownCap w 1 0 E = G at hap
  have hGl : 1 ≤ G := by
    rw [← hG]
    unfold grownCap Question.cut
    exact Nat.le_add_right _ _
  have hcells : (([] : List Value) ++ [x]).toArray ++ Builtin.zeroCells z.cells (G - 1) = ([x].toArray ++ Array.replicate (G - 1) (z)).map encV := by
    have e0 : ∀ a : Array Value, a.map encV = a := fun a => by
      have : encV = id := rfl
      rw [this, Array.map_id]
    rw [e0, List.nil_append, zeros_one hzc]
  rw [hcells] at hap
  refine ⟨G, [x].toArray ++ Array.replicate (G - 1) (z), _, hap, ⟨by simp, ?_, hGl, ?_, fun j hj => arr_list_at [x] _ _ _ hj⟩, ?_⟩
  · simp; omega
  · exact Holds.new (enc := encV) w.drew E _
  · exact ((Below.refl w.heap.size w).drew).alloc (Nat.le_refl _) _
/-- 'append(l, x)', l a list of slices of one's own. -/
theorem append_valL {T E : TypeId} {z : Value} (hT : Try.prog.underlying T = some (.slice E)) (hE : (Try.prog.info? E).map (fun i => (i.zero, i.size, i.bytes)) = some (some z, 1, 24)) (hzc : z.cells = #[z]) {w : World} {g cap r : Nat} {vs : List Value} {cur : Array Value} {x : Value} (h : ListAt w g cap vs cur) (hx : w.cell? ⟨r, 0, none⟩ = some x) (h1 : x.oneCell' = true) (hbig : vs.length ≤ 1048576) :
    ∃ g' cap' cur' w', (Builtin.append_ #[T, T] T #[.slice (some ⟨g, 0, none⟩) vs.length cap, .slice (some ⟨r, 0, none⟩) 1 1]).run Try.prog w = .ok (.slice (some ⟨g', 0, none⟩) (vs.length + 1) cap') w' ∧
      ListAt w' g' cap' (vs ++ [x]) cur' ∧ Only g 0 cap w w' ∧ (g' = g ∨ w.heap.size ≤ g') := by
  obtain ⟨i, hi, hz, hsz, hby⟩ := info_parts hE
  have hsrc := src_oneG hT (r := r) hx h1
  by_cases hroom : vs.length + 1 ≤ cap
  · have hap := run_append_room_src (P := Try.prog) w T T T E i hT hi g 0 vs.length cap (.slice (some ⟨r, 0, none⟩) 1 1) 1 [x] (by rw [hsz]; exact hsrc) hroom
      (fun j hj => by
        have hj0 : j = 0 := by simpa using hj
        subst hj0
        rw [hsz, Nat.mul_one, Nat.add_zero, (h.holds vs.length (by rw [h.size]; omega)).1]; rfl)
      (fun j hj => by
        have hj0 : j = 0 := by simpa using hj
        subst hj0
        rw [hsz, Nat.mul_one, Nat.add_zero]
        exact (h.holds vs.length (by rw [h.size]; omega)).2)
    rw [hsz, Nat.mul_one, Nat.zero_add] at hap
    have hset : w.setCells g vs.length [x] = w.setCell ⟨g, vs.length, none⟩ x := rfl
    rw [hset] at hap
    have hH := Holds.set h.holds (i := vs.length) (by rw [h.size]; omega) x
    rw [Nat.zero_add] at hH
    refine ⟨g, cap, cur.setIfInBounds vs.length x, _, hap, ⟨by rw [World.size_setCell]; exact h.lt, by rw [Array.size_setIfInBounds, h.size], by rw [List.length_append]; exact hroom, hH, fun j hj => ?_⟩, (Only.refl _ _ _ _).setCell (by omega) (by omega) _, Or.inl rfl⟩
    rw [List.length_append, List.length_singleton] at hj
    by_cases hj1 : j = vs.length
    · rw [hj1, val_last, getElem!_set_same _ _ _ (by rw [h.size]; omega)]
    · rw [getElem!_set_other _ _ _ _ hj1, val_front _ _ _ (by omega), h.front j (by omega)]
  · have hold : (Builtin.firstCells i.size vs.length (.slice (some ⟨g, 0, none⟩) vs.length cap)).run Try.prog w.drew = .ok vs.toArray w.drew := by
      rw [hsz]
      refine run_firstCells_some w.drew 1 vs.length ⟨g, 0, none⟩ vs.length cap vs (by rw [Nat.mul_one]) (fun j u hj => ?_)
      obtain ⟨h2, h3⟩ := List.getElem?_eq_some_iff.1 hj
      have hc := (h.holds j (by rw [h.size]; have := h.fits; omega)).1
      rw [h.front j h2, getElem!_pos vs j h2, h3] at hc
      have e1 : (⟨g, 0, none⟩ : Addr).add j = ⟨g, 0 + j, none⟩ := by
        unfold Addr.add
        by_cases h0 : j = 0
        · subst h0; rw [if_pos rfl]
        · rw [if_neg h0]
      rw [e1, World.cell?_drew, hc]
      rfl
    have hf := h.fits
    have hnc : Builtin.nextslicecap (vs.length + 1) cap ≤ 2 * (vs.length + 1) + 768 := by
      unfold Builtin.nextslicecap
      split
      · omega
      · split
        · omega
        · simp only [Builtin.growBy]
          repeat' split
          all_goals omega
    have hap := run_append_grow_src (P := Try.prog) w T T T E i z hT hi hz (some ⟨g, 0, none⟩) vs.length cap vs hold _ 1 [x] (by rw [hsz]; exact hsrc) (by omega) (by omega) (by rw [hby]; omega)
    generalize hG : grownCap w (vs.length + 1) cap E = G at hap
    have hGl : vs.length + 1 ≤ G := by
      rw [← hG]
      unfold grownCap Question.cut
      exact Nat.le_add_right _ _
    have hcells : (vs ++ [x]).toArray ++ Builtin.zeroCells z.cells (G - (vs.length + 1)) = ((vs ++ [x]).toArray ++ Array.replicate (G - (vs.length + 1)) (z)).map encV := by
      have e0 : ∀ a : Array Value, a.map encV = a := fun a => by
        have : encV = id := rfl
        rw [this, Array.map_id]
      rw [e0, zeros_one hzc]
    rw [hcells] at hap
    refine ⟨w.heap.size, G, (vs ++ [x]).toArray ++ Array.replicate (G - (vs.length + 1)) (z), _, hap, ⟨by simp, ?_, by rw [List.length_append]; exact hGl, ?_, fun j hj => arr_list_at _ _ _ _ hj⟩, ?_, Or.inr (Nat.le_refl _)⟩
    · simp; omega
    · exact Holds.new (enc := encV) w.drew E _
    · exact (Only.refl g 0 cap w).drew.alloc h.lt _
/-- .. and the first of them. -/
theorem append_firstL {T E : TypeId} {z : Value} (hT : Try.prog.underlying T = some (.slice E)) (hE : (Try.prog.info? E).map (fun i => (i.zero, i.size, i.bytes)) = some (some z, 1, 24)) (hzc : z.cells = #[z]) {w : World} {r : Nat} {x : Value} (hx : w.cell? ⟨r, 0, none⟩ = some x) (h1 : x.oneCell' = true) :
    ∃ cap' cur' w', (Builtin.append_ #[T, T] T #[.slice none 0 0, .slice (some ⟨r, 0, none⟩) 1 1]).run Try.prog w = .ok (.slice (some ⟨w.heap.size, 0, none⟩) 1 cap') w' ∧
      ListAt w' w.heap.size cap' [x] cur' ∧ Below w.heap.size w w' := by
  obtain ⟨i, hi, hz, hsz, hby⟩ := info_parts hE
  have hsrc := src_oneG hT (r := r) hx h1
  have hold : (Builtin.firstCells i.size 0 (.slice none 0 0)).run Try.prog w.drew = .ok ([] : List Value).toArray w.drew := run_firstCells_none w.drew i.size 0 0 0
  have hnc : Builtin.nextslicecap (0 + 1) 0 ≤ 770 := by decide
  have hap := run_append_grow_src (P := Try.prog) w T T T E i z hT hi hz none 0 0 [] hold _ 1 [x] (by rw [hsz]; exact hsrc) (by omega) (by omega) (by rw [hby]; omega)
  rw [Nat.zero_add] at hap
  generalize hG : grownCap w 1 0 E = G at hap
  have hGl : 1 ≤ G := by
    rw [← hG]
    unfold grownCap Question.cut
    exact Nat.le_add_right _ _
  have hcells : (([] : List Value) ++ [x]).toArray ++ Builtin.zeroCells z.cells (G - 1) = ([x].toArray ++ Array.replicate (G - 1) (z)).map encV := by
    have e0 : ∀ a : Array Value, a.map encV = a := fun a => by
      have : encV = id := rfl
      rw [this, Array.map_id]
    rw [e0, List.nil_append, zeros_one hzc]
  rw [hcells] at hap
  refine ⟨G, [x].toArray ++ Array.replicate (G - 1) (z), _, hap, ⟨by simp, ?_, hGl, ?_, fun j hj => arr_list_at [x] _ _ _ hj⟩, ?_⟩
  · simp; omega
  · exact Holds.new (enc := encV) w.drew E _
  · exact ((Below.refl w.heap.size w).drew).alloc (Nat.le_refl _) _
/-- 'append(l, x)', l a list of slices of one's own. -/
theorem append_valB {T E : TypeId} {z : Value} (hT : Try.prog.underlying T = some (.slice E)) (hE : (Try.prog.info? E).map (fun i => (i.zero, i.size, i.bytes)) = some (some z, 1, 1)) (hzc : z.cells = #[z]) {w : World} {g cap r : Nat} {vs : List Value} {cur : Array Value} {x : Value} (h : ListAt w g cap vs cur) (hx : w.cell? ⟨r, 0, none⟩ = some x) (h1 : x.oneCell' = true) (hbig : vs.length ≤ 1048576) :
    ∃ g' cap' cur' w', (Builtin.append_ #[T, T] T #[.slice (some ⟨g, 0, none⟩) vs.length cap, .slice (some ⟨r, 0, none⟩) 1 1]).run Try.prog w = .ok (.slice (some ⟨g', 0, none⟩) (vs.length + 1) cap') w' ∧
      ListAt w' g' cap' (vs ++ [x]) cur' ∧ Only g 0 cap w w' ∧ (vs.length + 1 ≤ cap ∧ g' = g ∨ w.heap.size ≤ g' ∧ Below w.heap.size w w') := by
  obtain ⟨i, hi, hz, hsz, hby⟩ := info_parts hE
  have hsrc := src_oneG hT (r := r) hx h1
  by_cases hroom : vs.length + 1 ≤ cap
  · have hap := run_append_room_src (P := Try.prog) w T T T E i hT hi g 0 vs.length cap (.slice (some ⟨r, 0, none⟩) 1 1) 1 [x] (by rw [hsz]; exact hsrc) hroom
      (fun j hj => by
        have hj0 : j = 0 := by simpa using hj
        subst hj0
        rw [hsz, Nat.mul_one, Nat.add_zero, (h.holds vs.length (by rw [h.size]; omega)).1]; rfl)
      (fun j hj => by
        have hj0 : j = 0 := by simpa using hj
        subst hj0
        rw [hsz, Nat.mul_one, Nat.add_zero]
        exact (h.holds vs.length (by rw [h.size]; omega)).2)
    rw [hsz, Nat.mul_one, Nat.zero_add] at hap
    have hset : w.setCells g vs.length [x] = w.setCell ⟨g, vs.length, none⟩ x := rfl
    rw [hset] at hap
    have hH := Holds.set h.holds (i := vs.length) (by rw [h.size]; omega) x
    rw [Nat.zero_add] at hH
    refine ⟨g, cap, cur.setIfInBounds vs.length x, _, hap, ⟨by rw [World.size_setCell]; exact h.lt, by rw [Array.size_setIfInBounds, h.size], by rw [List.length_append]; exact hroom, hH, fun j hj => ?_⟩, (Only.refl _ _ _ _).setCell (by omega) (by omega) _, Or.inl ⟨hroom, rfl⟩⟩
    rw [List.length_append, List.length_singleton] at hj
    by_cases hj1 : j = vs.length
    · rw [hj1, val_last, getElem!_set_same _ _ _ (by rw [h.size]; omega)]
    · rw [getElem!_set_other _ _ _ _ hj1, val_front _ _ _ (by omega), h.front j (by omega)]
  · have hold : (Builtin.firstCells i.size vs.length (.slice (some ⟨g, 0, none⟩) vs.length cap)).run Try.prog w.drew = .ok vs.toArray w.drew := by
      rw [hsz]
      refine run_firstCells_some w.drew 1 vs.length ⟨g, 0, none⟩ vs.length cap vs (by rw [Nat.mul_one]) (fun j u hj => ?_)
      obtain ⟨h2, h3⟩ := List.getElem?_eq_some_iff.1 hj
      have hc := (h.holds j (by rw [h.size]; have := h.fits; omega)).1
      rw [h.front j h2, getElem!_pos vs j h2, h3] at hc
      have e1 : (⟨g, 0, none⟩ : Addr).add j = ⟨g, 0 + j, none⟩ := by
        unfold Addr.add
        by_cases h0 : j = 0
        · subst h0; rw [if_pos rfl]
        · rw [if_neg h0]
      rw [e1, World.cell?_drew, hc]
      rfl
    have hf := h.fits
    have hnc : Builtin.nextslicecap (vs.length + 1) cap ≤ 2 * (vs.length + 1) + 768 := by
      unfold Builtin.nextslicecap
      split
      · omega
      · split
        · omega
        · simp only [Builtin.growBy]
          repeat' split
          all_goals omega
    have hap := run_append_grow_src (P := Try.prog) w T T T E i z hT hi hz (some ⟨g, 0, none⟩) vs.length cap vs hold _ 1 [x] (by rw [hsz]; exact hsrc) (by omega) (by omega) (by rw [hby]; omega)
    generalize hG : grownCap w (vs.length + 1) cap E = G at hap
    have hGl : vs.length + 1 ≤ G := by
      rw [← hG]
      unfold grownCap Question.cut
      exact Nat.le_add_right _ _
    have hcells : (vs ++ [x]).toArray ++ Builtin.zeroCells z.cells (G - (vs.length + 1)) = ((vs ++ [x]).toArray ++ Array.replicate (G - (vs.length + 1)) (z)).map encV := by
      have e0 : ∀ a : Array Value, a.map encV = a := fun a => by
        have : encV = id := rfl
        rw [this, Array.map_id]
      rw [e0, zeros_one hzc]
    rw [hcells] at hap
    refine ⟨w.heap.size, G, (vs ++ [x]).toArray ++ Array.replicate (G - (vs.length + 1)) (z), _, hap, ⟨by simp, ?_, by rw [List.length_append]; exact hGl, ?_, fun j hj => arr_list_at _ _ _ _ hj⟩, ?_, Or.inr ⟨Nat.le_refl _, ((Below.refl w.heap.size w).drew).alloc (Nat.le_refl _) _⟩⟩
    · simp; omega
    · exact Holds.new (enc := encV) w.drew E _
    · exact (Only.refl g 0 cap w).drew.alloc h.lt _
/-- .. and the first of them. -/
theorem append_firstB {T E : TypeId} {z : Value} (hT : Try.prog.underlying T = some (.slice E)) (hE : (Try.prog.info? E).map (fun i => (i.zero, i.size, i.bytes)) = some (some z, 1, 1)) (hzc : z.cells = #[z]) {w : World} {r : Nat} {x : Value} (hx : w.cell? ⟨r, 0, none⟩ = some x) (h1 : x.oneCell' = true) :
    ∃ cap' cur' w', (Builtin.append_ #[T, T] T #[.slice none 0 0, .slice (some ⟨r, 0, none⟩) 1 1]).run Try.prog w = .ok (.slice (some ⟨w.heap.size, 0, none⟩) 1 cap') w' ∧
      ListAt w' w.heap.size cap' [x] cur' ∧ Below w.heap.size w w' := by
  obtain ⟨i, hi, hz, hsz, hby⟩ := info_parts hE
  have hsrc := src_oneG hT (r := r) hx h1
  have hold : (Builtin.firstCells i.size 0 (.slice none 0 0)).run Try.prog w.drew = .ok ([] : List Value).toArray w.drew := run_firstCells_none w.drew i.size 0 0 0
  have hnc : Builtin.nextslicecap (0 + 1) 0 ≤ 770 := by decide
  have hap := run_append_grow_src (P := Try.prog) w T T T E i z hT hi hz none 0 0 [] hold _ 1 [x] (by rw [hsz]; exact hsrc) (by omega) (by omega) (by rw [hby]; omega)
  rw [Nat.zero_add] at hap
  generalize hG : grownCap w 1 0 E = G at hap
  have hGl : 1 ≤ G := by
    rw [← hG]
    unfold grownCap Question.cut
    exact Nat.le_add_right _ _
  have hcells : (([] : List Value) ++ [x]).toArray ++ Builtin.zeroCells z.cells (G - 1) = ([x].toArray ++ Array.replicate (G - 1) (z)).map encV := by
    have e0 : ∀ a : Array Value, a.map encV = a := fun a => by
      have : encV = id := rfl
      rw [this, Array.map_id]
    rw [e0, List.nil_append, zeros_one hzc]
  rw [hcells] at hap
  refine ⟨G, [x].toArray ++ Array.replicate (G - 1) (z), _, hap, ⟨by simp, ?_, hGl, ?_, fun j hj => arr_list_at [x] _ _ _ hj⟩, ?_⟩
  · simp; omega
  · exact Holds.new (enc := encV) w.drew E _
  · exact ((Below.refl w.heap.size w).drew).alloc (Nat.le_refl _) _
end Go.Proofs.Ytfgjdidnnbjalaa
namespace Go.Proofs.Ytfgjdidnnbjalaa
open Go.RowKit Go.Sort Go.Deep
theorem undU : Try.prog.underlying 32 = some (.slice 5) := by kernel_rfl
theorem undI : Try.prog.underlying 3 = some (.int .i64) := by kernel_rfl
theorem infoU : (Try.prog.info? 5).map (fun i => (i.size, i.bytes, i.zero.map fun z => z.cells.size)) = some (1, 1, some 1) := by kernel_rfl
theorem addS0 (g o j : Nat) : (⟨g, o, none⟩ : Addr).add j = ⟨g, o + j, none⟩ := by
  unfold Addr.add
  by_cases h0 : j = 0
  · subst h0; rw [if_pos rfl]; rfl
  · rw [if_neg h0]
/-- The cells of bytes. -/
def cbs (x : List UInt8) : List Value := x.map encB
theorem cbs_len (x : List UInt8) : (cbs x).length = x.length := List.length_map _
theorem cbs_one {x : List UInt8} {u : Value} (h : u ∈ cbs x) : u.oneCell' = true := by
  obtain ⟨y, -, rfl⟩ := List.mem_map.1 h
  rfl
/-- What a part of bytes is, as a source. -/
theorem part_src {w : World} {q : Option Addr} {n c : Nat} {x : List UInt8} (h : SP.PartOk w (.slice q n c) x) : x.length = n ∧ n ≤ c ∧ n ≤ 1099511627776 ∧ ((n = 0 ∧ x = []) ∨ ∃ b o, q = some ⟨b, o, none⟩ ∧ b < w.heap.size ∧ ∀ j u, (cbs x)[j]? = some u → w.cell? ⟨b, o + j, none⟩ = some u) := by
  obtain ⟨a, sb, so, cap, bs, h1, h2, h3, h4, h5⟩ := h
  obtain ⟨rfl, rfl, rfl⟩ : q = a ∧ n = bs.size ∧ c = cap := by simpa using h1
  subst h2
  refine ⟨rfl, h3, h4, ?_⟩
  rcases h5 with h5 | ⟨h5, h6⟩
  · exact Or.inl ⟨h5, by rw [← Array.length_toList] at h5; exact List.length_eq_zero_iff.1 h5⟩
  · by_cases h0 : bs.size = 0
    · exact Or.inl ⟨h0, by rw [← Array.length_toList] at h0; exact List.length_eq_zero_iff.1 h0⟩
    · refine Or.inr ⟨sb, so, h5, Holds.lt h6 (by omega), fun j u hj => ?_⟩
      have hjl : j < bs.size := by
        have := (List.getElem?_eq_some_iff.1 hj).1
        rw [cbs_len, Array.length_toList] at this
        exact this
      rw [(h6 j hjl).1]
      unfold cbs at hj
      rw [List.getElem?_map, List.getElem?_eq_getElem (by rw [Array.length_toList]; exact hjl)] at hj
      rw [getElem!_pos bs j hjl, ← Array.getElem_toList hjl]
      exact hj
/-- Bytes in a block of one's own, as a part. -/
theorem own_part {B n : Nat} {w : World} {v : Value} {x : List UInt8} (h : w.ownsRow B 5 1 v n (cbs x)) (hn : n ≤ 1099511627776) : SP.PartOk w v x ∧ x.length = n := by
  have hl : x.length = n := by have := h.1; rw [cbs_len, Nat.mul_one] at this; exact this
  refine ⟨?_, hl⟩
  rcases id h with ⟨-, ⟨rfl, h0⟩ | ⟨g, cap, cur, rfl, h1, h2, h3, h4, h5, h6⟩⟩
  · subst h0
    obtain rfl : x = [] := List.length_eq_zero_iff.1 hl
    exact ⟨none, 0, 0, 0, #[], rfl, rfl, Nat.le_refl _, by decide, Or.inl rfl⟩
  · have hx : x.toArray.size = n := by rw [List.size_toArray]; exact hl
    refine ⟨some ⟨g, 0, none⟩, g, 0, cap, x.toArray, by rw [hx], rfl, by omega, by omega, Or.inr ⟨rfl, fun j hj => ?_⟩⟩
    have hjn : j < x.length := by omega
    have hc := h.cells (g := g) rfl j (encB x[j]) (by unfold cbs; rw [List.getElem?_map, List.getElem?_eq_getElem hjn]; rfl)
    rw [addS0] at hc
    refine ⟨by rw [hc, getElem!_pos _ j hj]; simp; rfl, ?_⟩
    simp [World.frozen?, h2]
theorem own_below {B n size : Nat} {e : TypeId} {w w' : World} {v : Value} {xs : List Value} (h : w.ownsRow B e size v n xs) (hb : Below w.heap.size w w') : w'.ownsRow B e size v n xs := by
  rcases h with ⟨h0, h1 | ⟨g, cap, cur, h1, h2, h3, h4⟩⟩
  · exact ⟨h0, Or.inl h1⟩
  · refine ⟨h0, Or.inr ⟨g, cap, cur, h1, h2, ?_, h4⟩⟩
    rw [hb.block g (by
      by_cases hg : g < w.heap.size
      · exact hg
      · rw [Array.getElem?_eq_none (by omega)] at h3; cases h3)]
    exact h3
/-- 'append(l, x...)', l a row of bytes of one's own, not nil, x any bytes. -/
theorem own_app2 {base n m c : Nat} {q : Option Addr} {W : World} {v : Value} {xs x : List UInt8} (hown : W.ownsRow base 5 1 v n (cbs xs)) (hx : SP.PartOk W (.slice q m c) x) (hv : v.ownBlock ≠ none ∨ q ≠ none) (hn : n + m ≤ 1000000000) (hb : base ≤ W.heap.size) :
    ∃ v' W', (Builtin.append_ #[32, 32] 32 #[v, .slice q m c]).run Try.prog W = .ok v' W' ∧ W'.ownsRow base 5 1 v' (n + m) (cbs (xs ++ x)) ∧ W.grownBy W' v.ownBlock ∧ (0 < n + m → v'.ownBlock ≠ none) ∧ (v.ownBlock ≠ none → v'.ownBlock ≠ none) := by
  obtain ⟨i, hi, he⟩ := Option.map_eq_some_iff.1 infoU
  simp only [Prod.mk.injEq] at he
  obtain ⟨h1, h2, h3⟩ := he
  obtain ⟨z, hz, hz2⟩ := Option.map_eq_some_iff.1 h3
  obtain ⟨hl, hmc, -, hs⟩ := part_src hx
  have hcat : cbs (xs ++ x) = cbs xs ++ cbs x := List.map_append
  rw [hcat]
  cases q with
  | none =>
    obtain ⟨rfl, rfl⟩ : m = 0 ∧ x = [] := by
      rcases hs with h | ⟨b, o, h, -⟩
      · exact h
      · cases h
    have hv' : v.ownBlock ≠ none := by
      rcases hv with h | h
      · exact h
      · exact absurd rfl h
    rcases id hown with ⟨-, ⟨rfl, h0⟩ | ⟨g, cap, cur, rfl, g1, g2, g3, g4⟩⟩
    · exact absurd rfl hv'
    · have hap := run_append_room_src (P := Try.prog) W 32 32 32 5 i undU hi g 0 n cap (.slice none 0 c) 0 [] (Src.ofNil (e' := 5) _ undU c) g3 (fun j hj => by cases hj) (fun j hj => by cases hj)
      refine ⟨_, _, hap, ?_, ⟨rfl, rfl, rfl, Nat.le_refl _, fun _ _ _ => rfl⟩, fun _ => by simp [Value.ownBlock], fun _ => by simp [Value.ownBlock]⟩
      show W.ownsRow _ _ _ _ _ (cbs xs ++ [])
      rw [List.append_nil]
      exact hown
  | some a =>
    obtain ⟨v', W', r1, r2, r3, r4⟩ := run_append_own (P := Try.prog) W base 32 32 5 i z 1 1 undU hi hz h1 h2 hz2 (by decide) v n (cbs xs) hown a m c (cbs x) (by rw [cbs_len, hl]; omega)
      (fun j u hj => by
        rcases hs with ⟨-, rfl⟩ | ⟨b, o, hq, -, hc⟩
        · cases hj
        · obtain rfl := Option.some.inj hq
          rw [addS0]; exact hc j u hj) (fun u hu => cbs_one hu) (by unfold maxLen; omega) (by omega) hb
    refine ⟨v', W', r1, r2, r3, fun h0 => ?_, fun h0 => ?_⟩
    · rcases r2.2 with ⟨-, h⟩ | ⟨g, cap, cur, rfl, -⟩
      · omega
      · simp [Value.ownBlock]
    · rcases r2.2 with ⟨h, -⟩ | ⟨g, cap, cur, rfl, -⟩
      · rw [(r4.1 h).1] at h0
        exact absurd rfl h0
      · simp [Value.ownBlock]
end Go.Proofs.Ytfgjdidnnbjalaa
namespace Go.Proofs.Ytfgjdidnnbjalaa
open Go.RowKit Go.Sort Go.Deep
theorem atB2 (k o n c i : Nat) (hi : i < n) (w : World) : (Instr.indexAt 72 (.slice (some ⟨k, o, none⟩) n c) (.int .i64 (i : Int))).run Try.prog w = .ok (.pointer (some ⟨k, o + 1 * i, none⟩)) w := by
  have h1 : ¬ (i : Int) < 0 := by omega
  have h2 : (i : Int) < n := by omega
  go_simp
set_option maxHeartbeats 1000000 in
set_option maxRecDepth 100000 in
theorem grow2_c (n : Nat) (h0 : 0 < n) (hn : n ≤ 10000000) (w : World) : Calls Try.prog 39 #[.slice none 0 0, .int .i64 (n : Int)] w (Ret fun e w' => Below w.heap.size w w' ∧ w'.ownsRow w.heap.size 5 1 e 0 [] ∧ e.ownBlock ≠ none) := by
  obtain ⟨i, hi, he⟩ := Option.map_eq_some_iff.1 infoU
  simp only [Prod.mk.injEq] at he
  obtain ⟨h1, h2, h3⟩ := he
  obtain ⟨z, hz, hz2⟩ := Option.map_eq_some_iff.1 h3
  have hr := Lib.run_append_nil_zeros (P := Try.prog) w 32 3 32 5 i z .i64 .i64 undU undI hi hz n (by omega) (by omega) (by omega) (by rw [h2]; omega)
  have hcap := grownCap_ge w n 0 5
  have hcap2 := grownCap_le_maxLen w n 0 5 (by unfold maxLen; omega)
  have hcs : (Builtin.zeroCells z.cells n ++ Builtin.zeroCells z.cells (grownCap w n 0 5 - n)).size = grownCap w n 0 5 * 1 := by rw [Array.size_append, size_zeroCells, size_zeroCells, hz2]; omega
  generalize grownCap w n 0 5 = cp at hr hcap hcap2 hcs
  generalize Builtin.zeroCells z.cells n ++ Builtin.zeroCells z.cells (cp - n) = cur at hr hcs
  obtain ⟨w1, hw1⟩ : ∃ w1, Hid (w.drew.alloc (.cells cur 5) = w1) := ⟨_, rfl⟩
  rw [hw1.out] at hr
  have HR := Hid.mk2 hr
  have K : Hid (Below w.heap.size w w1 ∧ w1.ownsRow w.heap.size 5 1 (.slice (some ⟨w.heap.size, 0, none⟩) 0 cp) 0 []) := by
    rw [← hw1.out]
    exact ⟨(Below.refl _ _).drew.alloc (Nat.le_refl _) _, World.ownsRow_made w.drew cur cp (Nat.le_refl _) hcap2 hcs⟩
  clear hr hw1 hcs hi hz hz2 h1 h2 h3
  have hn1 : (0 : Int) < (n : Int) := by omega
  have hn2 : ¬ ((n : Int) < 0) := by omega
  have hw : IntKind.i64.wrap (n : Int) = n := by rw [IntKind.wrap_i64]; omega
  go_enter Try.func39, Try.ntmps39
  go_wp2_with (at_builtin; refine Lib.wpList_append_run _ rfl _ _ _ _ rfl _ _ rfl rfl _ _ HR.out ?_)
  go_ret
  exact ⟨_, rfl, K.out.1, K.out.2, by simp [Value.ownBlock]⟩
/-- Several lists of bytes, one behind the other. -/
def catS (L : Nat → List UInt8) : Nat → List UInt8
  | 0 => []
  | i + 1 => catS L i ++ L i
theorem catS_le (L : Nat → List UInt8) {k m : Nat} (hs : ∀ j, j < k → (L j).length ≤ m) : ∀ i, i ≤ k → (catS L i).length ≤ m * i
  | 0, _ => Nat.le_refl _
  | i + 1, hi => by
    have h1 := catS_le L hs i (by omega)
    have h2 := hs i (by omega)
    rw [catS, List.length_append, Nat.mul_succ]
    omega
set_option maxHeartbeats 1000000 in
set_option maxRecDepth 10000 in
theorem concat2_c (g k c : Nat) (L : Nat → List UInt8) (hk : k ≤ 100) (h0 : 0 < (catS L k).length) (hs : ∀ j, j < k → (L j).length ≤ 20000) (w : World) (hg : g < w.heap.size) (hL : ∀ j, j < k → ∃ q n c', w.cell? ⟨g, j, none⟩ = some (.slice q n c') ∧ SP.PartOk w (.slice q n c') (L j)) :
    Calls Try.prog 32 #[.slice (some ⟨g, 0, none⟩) k c] w (Ret fun e w' => Below w.heap.size w w' ∧ w'.ownsRow w.heap.size 5 1 e (catS L k).length (cbs (catS L k))) := by
  have HL := Hid.mk2 hL
  have HS : Hid (∀ i, i ≤ k → (catS L i).length ≤ 20000 * i) := catS_le L hs
  have HG := Hid.mk2 hg
  have H0 := Hid.mk2 h0
  clear hL hs hg h0
  go_enter Try.func32, Try.ntmps32
  go_wp2_with fail
  go_loopg [3, 11] k (fun m s3 s11 W => ∃ i : Nat, i + m = k ∧ s11 = .int .i64 (i : Int) ∧ s3 = .int .i64 ((catS L i).length : Int) ∧ w = W)
  case atStart => exact ⟨0, by omega, rfl, rfl, rfl⟩
  case round =>
    obtain ⟨i, hik, rfl, rfl, rfl⟩ := hrel
    by_cases hi : i < k
    · have hi' : (i : Int) < (k : Int) := by omega
      obtain ⟨qx, nx, cx, hc, hE⟩ := HL.out i hi
      have h1 : (L i).length = nx := (part_src hE).1
      have hix := atB2 g 0 k c i hi
      rw [show 0 + 1 * i = i by omega] at hix
      have hlen : (catS L (i + 1)).length = (catS L i).length + nx := by rw [catS, List.length_append, h1]
      have hb1 := HS.out i (by omega)
      have hb2 := HS.out (i + 1) (by omega)
      obtain ⟨a, ha⟩ : ∃ a, Hid ((catS L i).length = a) := ⟨_, rfl⟩
      rw [ha.out] at hlen hb1
      rw [ha.out]
      have hwr : IntKind.i64.wrap ((a : Int) + (nx : Int)) = ((a + nx : Nat) : Int) := by rw [IntKind.wrap_i64]; omega
      have hng : ¬ (((a + nx : Nat) : Int) < 0) := by omega
      clear hE
      go_wp2
      go_roundg (gk - 1)
      case measure => omega
      case rel => exact ⟨i + 1, by omega, rfl, by rw [hlen, Int.natCast_add], rfl⟩
    · have hi' : ¬ (i : Int) < (k : Int) := by omega
      obtain rfl : i = k := by omega
      go_wp2_with fail
      refine (grow2_c (catS L i).length H0.out (by have := HS.out i (Nat.le_refl _); omega) w).mono ?_
      rintro e w1 ⟨v, rfl, hb1, ho1, hv1⟩
      have K1 : Hid (Below w.heap.size w w1 ∧ w1.ownsRow w.heap.size 5 1 v (catS L 0).length (cbs (catS L 0)) ∧ v.ownBlock ≠ none) := ⟨hb1, ho1, hv1⟩
      clear hb1 ho1 hv1
      go_wp2_with fail
      go_loopg [6, 27] i (fun m s6 s27 W => ∃ j : Nat, j + m = i ∧ s27 = .int .i64 (j : Int) ∧ Hid (Below w.heap.size w W ∧ W.ownsRow w.heap.size 5 1 s6 (catS L j).length (cbs (catS L j)) ∧ s6.ownBlock ≠ none))
      case atStart => exact ⟨0, by omega, rfl, K1⟩
      case round =>
        clear K1
        obtain ⟨j, hjk, rfl, KM⟩ := hrel
        by_cases hj : j < i
        · have hj' : (j : Int) < (i : Int) := by omega
          obtain ⟨qx, nx, cx, hc0, hE0⟩ := HL.out j hj
          have hc : wr.cell? ⟨g, j, none⟩ = some (.slice qx nx cx) := by rw [KM.out.1.cell (p := ⟨g, j, none⟩) HG.out]; exact hc0
          have hE := hE0.below KM.out.1
          have hb2 := HS.out (j + 1) (by omega)
          have hlen : (catS L (j + 1)).length = (catS L j).length + nx := by rw [catS, List.length_append, (part_src hE0).1]
          obtain ⟨v', W', r1, r2, r3, -, r4⟩ := own_app2 KM.out.2.1 hE (Or.inl KM.out.2.2) (by omega) KM.out.1.size
          rw [← hlen] at r2
          have KN : Hid (Below w.heap.size w W' ∧ W'.ownsRow w.heap.size 5 1 v' (catS L (j + 1)).length (cbs (catS L (j + 1))) ∧ v'.ownBlock ≠ none) := ⟨KM.out.1.grown r3 KM.out.1.size (fun k hk => (KM.out.2.1.lt k hk).1), r2, r4 KM.out.2.2⟩
          have HAP := Hid.mk2 r1
          have hix := atB2 g 0 i c j hj
          rw [show 0 + 1 * j = j by omega] at hix
          clear hE hE0 hc0 r1 r2 r3 r4 KM
          go_wp2_with (at_builtin; refine Lib.wpList_append_run _ rfl _ _ _ _ rfl _ _ rfl rfl _ _ HAP.out ?_)
          go_roundg (gk - 1)
          case measure => omega
          case rel => exact ⟨j + 1, by omega, rfl, KN⟩
        · have hj' : ¬ (j : Int) < (i : Int) := by omega
          obtain rfl : j = i := by omega
          go_wp2
          go_ret
          exact ⟨_, rfl, KM.out.1, KM.out.2.1⟩
end Go.Proofs.Ytfgjdidnnbjalaa
namespace Go.Proofs.Ytfgjdidnnbjalaa
open Go.RowKit Go.Sort Go.Deep
/-- A number in s bytes, the lowest i of them told. -/
def numA (s n : Nat) : Nat → Bs
  | 0 => Array.replicate s 0
  | i + 1 => (numA s n i).setIfInBounds (s - 1 - i) (SP.lenB n (256 ^ i))
theorem numA_size (s n : Nat) : ∀ i, (numA s n i).size = s
  | 0 => Array.size_replicate
  | i + 1 => by rw [numA, Array.size_setIfInBounds, numA_size s n i]
end Go.Proofs.Ytfgjdidnnbjalaa
namespace Go.Proofs.Ytfgjdidnnbjalaa
open Go.RowKit Go.Sort Go.Deep
/-- All blocks but those of X are as they were. -/
structure FrX (X : Nat → Prop) (w w' : World) : Prop where
  os : w'.os = w.os
  tape : w'.tape = w.tape
  output : w'.output = w.output
  size : w.heap.size ≤ w'.heap.size
  block : ∀ k, k < w.heap.size → ¬ X k → w'.heap[k]? = w.heap[k]?
theorem FrX.of {X : Nat → Prop} {w w' : World} (h : Below w.heap.size w w') : FrX X w w' := ⟨h.os, h.tape, h.output, h.size, fun k hk _ => h.block k hk⟩
theorem FrX.refl (X : Nat → Prop) (w : World) : FrX X w w := ⟨rfl, rfl, rfl, Nat.le_refl _, fun _ _ _ => rfl⟩
theorem FrX.trans {X Y : Nat → Prop} {a b c : World} (h : FrX X a b) (k : FrX Y b c) (hY : ∀ k, Y k → X k ∨ a.heap.size ≤ k) : FrX X a c :=
  ⟨k.os.trans h.os, k.tape.trans h.tape, k.output.trans h.output, Nat.le_trans h.size k.size, fun i hi hx => (k.block i (Nat.lt_of_lt_of_le hi h.size) (fun hy => by
    rcases hY i hy with h1 | h1
    · exact hx h1
    · omega)).trans (h.block i hi hx)⟩
theorem FrX.below {X : Nat → Prop} {w w' : World} {B : Nat} (h : FrX X w w') (hX : ∀ k, X k → B ≤ k) (hB : B ≤ w.heap.size) : Below B w w' :=
  ⟨h.os, h.tape, h.output, h.size, fun k hk => h.block k (by omega) (fun hx => by have := hX k hx; omega)⟩
theorem FrX.setCell {X : Nat → Prop} {w w' : World} (h : FrX X w w') {a : Addr} (ha : X a.block) (v : Value) : FrX X w (w'.setCell a v) :=
  ⟨h.os, h.tape, h.output, by rw [World.size_setCell]; exact h.size, fun k hk hx => by
    rw [blk_setCell_other w' a v k (fun e => hx (by rw [e]; exact ha))]
    exact h.block k hk hx⟩
theorem FrX.grown {X : Nat → Prop} {a w w' : World} {row : Option Nat} (h : FrX X a w) (hg : w.grownBy w' row) (hr : ∀ k, row = some k → X k ∨ a.heap.size ≤ k) : FrX X a w' :=
  ⟨hg.os.trans h.os, hg.tape.trans h.tape, hg.output.trans h.output, Nat.le_trans h.size hg.size, fun k hk hx => by
    rw [hg.block k (Nat.lt_of_lt_of_le hk h.size) (fun e => by
      rcases hr k e.symm with h1 | h1
      · exact hx h1
      · omega)]
    exact h.block k hk hx⟩
/-- A row of cells that lies in a block. -/
def RowS (W : World) (k : Nat) (vs : List Value) : Prop := k < W.heap.size ∧ W.rangeAt k 0 vs ∧ W.there k 0 vs.length
theorem RowS.at {W W' : World} {k : Nat} {vs : List Value} (h : RowS W k vs) (hs : W.heap.size ≤ W'.heap.size) (e : W'.heap[k]? = W.heap[k]?) : RowS W' k vs := by
  refine ⟨Nat.lt_of_lt_of_le h.1 hs, fun j v hj => ?_, fun j hj => ?_⟩
  · rw [World.cell?_of_block (a := ⟨k, 0 + j, none⟩) e]; exact h.2.1 j v hj
  · have := h.2.2 j hj
    rw [World.cell?_of_block (a := ⟨k, 0 + j, none⟩) e, World.frozen?_of_block (a := ⟨k, 0 + j, none⟩) e]
    exact this
theorem own_at {B n size : Nat} {e : TypeId} {w w' : World} {v : Value} {xs : List Value} (h : w.ownsRow B e size v n xs) (hb : ∀ k, v.ownBlock = some k → w'.heap[k]? = w.heap[k]?) : w'.ownsRow B e size v n xs := by
  rcases h with ⟨h0, h1 | ⟨g, cap, cur, h1, h2, h3, h4⟩⟩
  · exact ⟨h0, Or.inl h1⟩
  · refine ⟨h0, Or.inr ⟨g, cap, cur, h1, h2, ?_, h4⟩⟩
    rw [hb g (by rw [h1]; rfl)]
    exact h3
/-- The cells of extents. -/
def exs : List (Nat × Nat) → List Value
  | [] => []
  | x :: l => .int .i64 (x.1 : Int) :: .int .i64 (x.2 : Int) :: exs l
theorem exs_len : ∀ l, (exs l).length = l.length * 2
  | [] => rfl
  | x :: l => by rw [exs, List.length_cons, List.length_cons, exs_len l, List.length_cons]; omega
theorem exs_app : ∀ a b, exs (a ++ b) = exs a ++ exs b
  | [], _ => rfl
  | x :: a, b => by rw [List.cons_append, exs, exs_app a b]; rfl
/-- The five cells of a store. -/
def stc (v1 : Value) (lim left : Nat) (off : Bool) (v2 : Value) : List Value := [v1, .int .i64 (lim : Int), .int .i64 (left : Int), .bool off, v2]
/-- A store in memory: its blocks are in X. -/
structure PSv (X : Nat → Prop) (W : World) (b : Nat) (B : List UInt8) (E : List (Nat × Nat)) (lim left : Nat) (off : Bool) (v1 v2 : Value) : Prop where
  row : RowS W b (stc v1 lim left off v2)
  o1 : W.ownsRow 0 5 1 v1 B.length (cbs B)
  o2 : W.ownsRow 0 63 2 v2 E.length (exs E)
  xb : X b
  x1 : ∀ k, v1.ownBlock = some k → X k ∧ k ≠ b
  x2 : ∀ k, v2.ownBlock = some k → X k ∧ k ≠ b ∧ v1.ownBlock ≠ some k
  ins : ∀ k, X k → k < W.heap.size
def PSt (X : Nat → Prop) (W : World) (b : Nat) (B : List UInt8) (E : List (Nat × Nat)) (lim left : Nat) (off : Bool) : Prop := ∃ v1 v2, PSv X W b B E lim left off v1 v2
theorem PSv.kept {X : Nat → Prop} {W W' : World} {b lim left : Nat} {B : List UInt8} {E : List (Nat × Nat)} {off : Bool} {v1 v2 : Value} (h : PSv X W b B E lim left off v1 v2) (hs : W.heap.size ≤ W'.heap.size) (hk : ∀ k, X k → W'.heap[k]? = W.heap[k]?) : PSv X W' b B E lim left off v1 v2 :=
  ⟨h.row.at hs (hk b h.xb), own_at h.o1 (fun k hk1 => hk k (h.x1 k hk1).1), own_at h.o2 (fun k hk1 => hk k (h.x2 k hk1).1), h.xb, h.x1, h.x2, fun k hX => Nat.lt_of_lt_of_le (h.ins k hX) hs⟩
theorem PSv.below {X : Nat → Prop} {W W' : World} {b lim left : Nat} {B : List UInt8} {E : List (Nat × Nat)} {off : Bool} {v1 v2 : Value} (h : PSv X W b B E lim left off v1 v2) (hb : Below W.heap.size W W') : PSv X W' b B E lim left off v1 v2 :=
  h.kept hb.size (fun k hk => hb.block k (h.ins k hk))
theorem PSv.frx {X Y : Nat → Prop} {W W' : World} {b lim left : Nat} {B : List UInt8} {E : List (Nat × Nat)} {off : Bool} {v1 v2 : Value} (h : PSv X W b B E lim left off v1 v2) (hb : FrX Y W W') (hd : ∀ k, X k → ¬ Y k) : PSv X W' b B E lim left off v1 v2 :=
  h.kept hb.size (fun k hk => hb.block k (h.ins k hk) (hd k hk))
end Go.Proofs.Ytfgjdidnnbjalaa
namespace Go.Proofs.Ytfgjdidnnbjalaa
open Go.RowKit Go.Sort Go.Deep
set_option maxHeartbeats 1000000 in
theorem numeral4_c (n : Nat) (hn : n < 1099511627776) (w : World) : Calls Try.prog 31 #[.int .i64 4, .int .i64 (n : Int)] w (Ret fun e w' => Below w.heap.size w w' ∧ e = .slice (some ⟨w.heap.size, 0, none⟩) 4 4 ∧ Holds SP.encB w' w.heap.size 0 (numA 4 n 4)) := by
  have hmk : ∀ w : World, (Instr.makeSlice 32 (.int .i64 4) (.int .i64 4)).run Try.prog w = .ok (.slice (some ⟨w.heap.size, 0, none⟩) 4 4) (w.alloc (.cells (madeCells #[.int .u8 0] 4) 5)) :=
    run_make_row' (P := Try.prog) 32 5 (.int .u8 0) 1 SP.slice22 SP.info5 rfl .i64 .i64 4 (by omega) (by omega)
  have hH0 : Holds SP.encB (w.alloc (.cells (madeCells #[.int .u8 0] 4) 5)) w.heap.size 0 (Array.replicate 4 0) := Holds.made (enc := SP.encB) w 5 4 0
  have hb0 : Below w.heap.size w (w.alloc (.cells (madeCells #[.int .u8 0] 4) 5)) := (Below.refl _ _).alloc (Nat.le_refl _) _
  go_enter Try.func31, Try.ntmps31
  go_wp2
  generalize w.alloc (.cells (madeCells #[.int .u8 0] 4) 5) = W1 at hH0 hb0 ⊢
  have K0 : Hid (Below w.heap.size w W1 ∧ Holds SP.encB W1 w.heap.size 0 (numA 4 n 0)) := ⟨hb0, hH0⟩
  clear hmk hH0 hb0
  go_loopg [6, 11] 4 (fun g s6 s11 W => ∃ i : Nat, i + g = 4 ∧ s11 = .int .i64 (i : Int) ∧ Hid (Below w.heap.size w W ∧ Holds SP.encB W w.heap.size 0 (numA 4 n i)))
  case atStart => exact ⟨0, by omega, rfl, K0⟩
  case round =>
    clear K0
    obtain ⟨i, hig, rfl, KM⟩ := hrel
    by_cases hi : i < 4
    · have hi' : (i : Int) < 4 := by omega
      have h1 : IntKind.i64.wrap (3 - (i : Int)) = ((3 - i : Nat) : Int) := by rw [IntKind.wrap_i64]; omega
      have h2 : IntKind.i64.wrap (8 * (i : Int)) = ((8 * i : Nat) : Int) := by rw [IntKind.wrap_i64]; omega
      have hd : (n : Int) / 2 ^ (8 * i) % 256 = SP.ub (SP.lenB n (256 ^ i)) := by
        rw [← SP.lenB_int, Int.natCast_pow, show ((256 : Nat) : Int) = 2 ^ 8 from rfl, ← Int.pow_mul]
      have HD := Hid.mk2 hd
      obtain ⟨hc, hf⟩ := KM.out.2 (3 - i) (by rw [numA_size]; omega)
      rw [Nat.zero_add] at hc hf
      have hS := Holds.set KM.out.2 (i := 3 - i) (by rw [numA_size]; omega) (SP.lenB n (256 ^ i))
      rw [Nat.zero_add] at hS
      have HS := Hid.mk2 hS
      have HN : Hid (numA 4 n (i + 1) = (numA 4 n i).setIfInBounds (3 - i) (SP.lenB n (256 ^ i))) := rfl
      have hx : ∀ w' : World, (Instr.indexAt 32 (.slice (some ⟨w.heap.size, 0, none⟩) 4 4) (.int .i64 ((3 - i : Nat) : Int))).run Try.prog w' = .ok (.pointer (some ⟨w.heap.size, 3 - i, none⟩)) w' := fun w' => by
        have h1 : ¬ ((3 - i : Nat) : Int) < 0 := by omega
        have h2 : ((3 - i : Nat) : Int) < 4 := by omega
        go_simp
      clear hS hd
      generalize SP.lenB n (256 ^ i) = d at HD HS HN
      go_wp2
      go_roundg (gk - 1)
      case measure => omega
      case rel =>
        refine ⟨i + 1, by omega, rfl, KM.out.1.setCell (Nat.le_refl _) _, ?_⟩
        rw [HN.out, HD.out]
        exact HS.out
    · have hi' : ¬ (i : Int) < 4 := by omega
      obtain rfl : i = 4 := by omega
      go_wp2
      go_ret
      exact ⟨_, rfl, KM.out.1, rfl, KM.out.2⟩
set_option maxHeartbeats 1000000 in
theorem numeral8_c (n : Nat) (hn : n < 1099511627776) (w : World) : Calls Try.prog 31 #[.int .i64 8, .int .i64 (n : Int)] w (Ret fun e w' => Below w.heap.size w w' ∧ e = .slice (some ⟨w.heap.size, 0, none⟩) 8 8 ∧ Holds SP.encB w' w.heap.size 0 (numA 8 n 8)) := by
  have hmk : ∀ w : World, (Instr.makeSlice 32 (.int .i64 8) (.int .i64 8)).run Try.prog w = .ok (.slice (some ⟨w.heap.size, 0, none⟩) 8 8) (w.alloc (.cells (madeCells #[.int .u8 0] 8) 5)) :=
    run_make_row' (P := Try.prog) 32 5 (.int .u8 0) 1 SP.slice22 SP.info5 rfl .i64 .i64 8 (by omega) (by omega)
  have hH0 : Holds SP.encB (w.alloc (.cells (madeCells #[.int .u8 0] 8) 5)) w.heap.size 0 (Array.replicate 8 0) := Holds.made (enc := SP.encB) w 5 8 0
  have hb0 : Below w.heap.size w (w.alloc (.cells (madeCells #[.int .u8 0] 8) 5)) := (Below.refl _ _).alloc (Nat.le_refl _) _
  go_enter Try.func31, Try.ntmps31
  go_wp2
  generalize w.alloc (.cells (madeCells #[.int .u8 0] 8) 5) = W1 at hH0 hb0 ⊢
  have K0 : Hid (Below w.heap.size w W1 ∧ Holds SP.encB W1 w.heap.size 0 (numA 8 n 0)) := ⟨hb0, hH0⟩
  clear hmk hH0 hb0
  go_loopg [6, 11] 8 (fun g s6 s11 W => ∃ i : Nat, i + g = 8 ∧ s11 = .int .i64 (i : Int) ∧ Hid (Below w.heap.size w W ∧ Holds SP.encB W w.heap.size 0 (numA 8 n i)))
  case atStart => exact ⟨0, by omega, rfl, K0⟩
  case round =>
    clear K0
    obtain ⟨i, hig, rfl, KM⟩ := hrel
    by_cases hi : i < 8
    · have hi' : (i : Int) < 8 := by omega
      have h1 : IntKind.i64.wrap (7 - (i : Int)) = ((7 - i : Nat) : Int) := by rw [IntKind.wrap_i64]; omega
      have h2 : IntKind.i64.wrap (8 * (i : Int)) = ((8 * i : Nat) : Int) := by rw [IntKind.wrap_i64]; omega
      have hd : (n : Int) / 2 ^ (8 * i) % 256 = SP.ub (SP.lenB n (256 ^ i)) := by
        rw [← SP.lenB_int, Int.natCast_pow, show ((256 : Nat) : Int) = 2 ^ 8 from rfl, ← Int.pow_mul]
      have HD := Hid.mk2 hd
      obtain ⟨hc, hf⟩ := KM.out.2 (7 - i) (by rw [numA_size]; omega)
      rw [Nat.zero_add] at hc hf
      have hS := Holds.set KM.out.2 (i := 7 - i) (by rw [numA_size]; omega) (SP.lenB n (256 ^ i))
      rw [Nat.zero_add] at hS
      have HS := Hid.mk2 hS
      have HN : Hid (numA 8 n (i + 1) = (numA 8 n i).setIfInBounds (7 - i) (SP.lenB n (256 ^ i))) := rfl
      have hx : ∀ w' : World, (Instr.indexAt 32 (.slice (some ⟨w.heap.size, 0, none⟩) 8 8) (.int .i64 ((7 - i : Nat) : Int))).run Try.prog w' = .ok (.pointer (some ⟨w.heap.size, 7 - i, none⟩)) w' := fun w' => by
        have h1 : ¬ ((7 - i : Nat) : Int) < 0 := by omega
        have h2 : ((7 - i : Nat) : Int) < 8 := by omega
        go_simp
      clear hS hd
      generalize SP.lenB n (256 ^ i) = d at HD HS HN
      go_wp2
      go_roundg (gk - 1)
      case measure => omega
      case rel =>
        refine ⟨i + 1, by omega, rfl, KM.out.1.setCell (Nat.le_refl _) _, ?_⟩
        rw [HN.out, HD.out]
        exact HS.out
    · have hi' : ¬ (i : Int) < 8 := by omega
      obtain rfl : i = 8 := by omega
      go_wp2
      go_ret
      exact ⟨_, rfl, KM.out.1, rfl, KM.out.2⟩
end Go.Proofs.Ytfgjdidnnbjalaa
namespace Go.Proofs.Ytfgjdidnnbjalaa
open Go.RowKit Go.Sort Go.Deep
/-- A number as four bytes. -/
def num4 (n : Nat) : Bs := #[SP.lenB n 16777216, SP.lenB n 65536, SP.lenB n 256, SP.lenB n 1]
def childH (k : Bs) (n : Nat) : Bs := SP.tagL [99, 104, 105, 108, 100] [k.toList, (num4 n).toList]
def keyH (k : Bs) (l : List UInt8) : Bs := SP.tagL [107, 101, 121] [k.toList, l]
/-- What is derived from a seed, number by number. -/
def downH (S : Nat → Nat) (k : Bs) : Nat → Bs
  | 0 => k
  | j + 1 => childH (downH S k j) (S j)
theorem downH_size (S : Nat → Nat) (k : Bs) (h : k.size = 32) : ∀ j, (downH S k j).size = 32
  | 0 => h
  | j + 1 => by rw [downH]; exact SP.tagL_size _ _
def derH (S : Nat → Nat) (k : Bs) (n : Nat) (l : List UInt8) : Bs := keyH (downH S k n) l
/-- Numbers in a row of cells. -/
def NumsK (w : World) (q : Option Addr) (n : Nat) (S : Nat → Nat) : Prop := (∀ j, j < n → S j < 4294967296) ∧ (0 < n → ∃ gg oo, q = some ⟨gg, oo, none⟩ ∧ gg < w.heap.size ∧ ∀ j, j < n → w.cell? ⟨gg, oo + j, none⟩ = some (.int .u32 (S j : Int)))
theorem NumsK.below {w w1 : World} {q : Option Addr} {n : Nat} {S : Nat → Nat} (h : NumsK w q n S) (hb : Below w.heap.size w w1) : NumsK w1 q n S := ⟨h.1, fun hn => by
  obtain ⟨gg, oo, h1, h2, h3⟩ := h.2 hn
  exact ⟨gg, oo, h1, Nat.lt_of_lt_of_le h2 hb.size, fun j hj => by rw [hb.cell (p := ⟨gg, oo + j, none⟩) h2]; exact h3 j hj⟩⟩
theorem part_4 {w : World} {r n : Nat} (h : Holds encB w r 0 (num4 n)) : SP.PartOk w (.slice (some ⟨r, 0, none⟩) 4 4) (num4 n).toList :=
  ⟨_, r, 0, 4, num4 n, rfl, rfl, Nat.le_refl _, Nat.le_of_ble_eq_true rfl, Or.inr ⟨rfl, h⟩⟩
/-- Tag of two parts that lie in a new row. -/
theorem tag2 (lab : ByteArray) (hlab : lab.size ≤ 1048576) (q q' : Option Addr) (n c n' c' : Nat) (x y : List UInt8) (w : World) (hv : SP.PartOk w (.slice q n c) x) (hv' : SP.PartOk w (.slice q' n' c') y) :
    Calls Try.prog 30 #[.string lab, .slice (some ⟨w.heap.size, 0, none⟩) 2 2] (w.alloc (.cells #[.slice q n c, .slice q' n' c'] 32)) fun e w' => ∃ r, e = .returned (.slice (some ⟨r, 0, none⟩) 32 32) ∧ w.heap.size ≤ r ∧ Below w.heap.size w w' ∧ Holds encB w' r 0 (SP.tagL lab.data.toList [x, y]) := by
  have hM := RG.Made.alloc w [.slice q n c, .slice q' n' c'] 32
  refine (SP.Tag_any lab (some ⟨w.heap.size, 0, none⟩) 2 [x, y] _ hlab (Nat.le_of_ble_eq_true rfl) (Or.inr ⟨_, _, rfl, fun j hj => ?_⟩)).mono ?_
  · have hj2 : j = 0 ∨ j = 1 := by simp at hj; omega
    rcases hj2 with rfl | rfl
    · exact ⟨_, hM.range 0 _ rfl, hv.below hM.bel⟩
    · exact ⟨_, hM.range 1 _ rfl, hv'.below hM.bel⟩
  · rintro e w2 ⟨r, rfl, hr, hb, hH⟩
    have hs := hM.bel.size
    exact ⟨r, rfl, Nat.le_trans hs hr, hM.bel.trans (hb.mono hs), hH⟩
theorem derH_size (S : Nat → Nat) (k : Bs) (n : Nat) (l : List UInt8) : (derH S k n l).size = 32 := by unfold derH keyH; exact SP.tagL_size _ _
/-- What Derive answers: bytes and errno. -/
def kdB (S : Nat → Nat) (k : Bs) (n : Nat) (l : List UInt8) : Bs := if k.size = 32 then (if n ≤ 16 then derH S k n l else #[]) else #[]
def kdE (k : Bs) (n : Nat) : Nat := if k.size = 32 then (if n ≤ 16 then 0 else 1) else 2
end Go.Proofs.Ytfgjdidnnbjalaa
namespace Go.Proofs.Ytfgjdidnnbjalaa
open Go.RowKit Go.Sort Go.Deep
theorem slB_hi (b o n c k : Nat) (hk : k ≤ c) (w : World) : (Instr.sliceAt 32 (.slice (some ⟨b, o, none⟩) n c) none (some (.int .i64 (k : Int))) none).run Try.prog w = .ok (.slice (some ⟨b, o, none⟩) k c) w := by
  have h1 : ¬ (k : Int) < 0 := by omega
  have h2 : (k : Int) ≤ (c : Int) := by omega
  go_simp
theorem slB_lo (b o n c k : Nat) (hk : k ≤ n) (hc : n ≤ c) : ∃ q', (∀ w : World, (Instr.sliceAt 32 (.slice (some ⟨b, o, none⟩) n c) (some (.int .i64 (k : Int))) none none).run Try.prog w = .ok (.slice q' (n - k) (c - k)) w) ∧ (k < n → q' = some ⟨b, o + k, none⟩) ∧ q' ≠ none := by
  have h1 : ¬ (k : Int) < 0 := by omega
  have h2 : (k : Int) ≤ (n : Int) := by omega
  by_cases h : k = c
  · obtain rfl : n = k := by omega
    subst h
    exact ⟨some ⟨b, o, none⟩, fun w => by go_simp, fun h => by omega, by simp⟩
  · have h3 : ¬ c = k := fun e => h e.symm
    have e := addS0 b o (1 * k)
    rw [Nat.one_mul] at e
    exact ⟨some ⟨b, o + k, none⟩, fun w => by go_simp, fun _ => rfl, by simp⟩
theorem part_take {w : World} {q : Option Addr} {n c k : Nat} {x : List UInt8} (h : SP.PartOk w (.slice q n c) x) (hk : k ≤ n) : SP.PartOk w (.slice q k c) (x.take k) := by
  obtain ⟨a, sb, so, cap, bs, h1, h2, h3, h4, h5⟩ := h
  obtain ⟨rfl, rfl, rfl⟩ : q = a ∧ n = bs.size ∧ c = cap := by simpa using h1
  have hs : (bs.extract 0 k).size = k := by rw [Array.size_extract]; omega
  refine ⟨q, sb, so, c, bs.extract 0 k, by rw [hs], by rw [← h2, Array.toList_extract]; simp [List.extract], by omega, by omega, ?_⟩
  rcases h5 with h5 | ⟨h5, h6⟩
  · exact Or.inl (by omega)
  · refine Or.inr ⟨h5, fun j hj => ?_⟩
    rw [hs] at hj
    have := h6 j (by omega)
    rw [getElem!_pos bs j (by omega)] at this
    rw [getElem!_pos _ j (by rw [hs]; omega), Array.getElem_extract]
    simpa using this
theorem part_drop {w : World} {q q' : Option Addr} {n c k b o : Nat} {x : List UInt8} (h : SP.PartOk w (.slice q n c) x) (hk : k ≤ n) (hq : q = some ⟨b, o, none⟩) (hq' : k < n → q' = some ⟨b, o + k, none⟩) : SP.PartOk w (.slice q' (n - k) (c - k)) (x.drop k) := by
  obtain ⟨a, sb, so, cap, bs, h1, h2, h3, h4, h5⟩ := h
  obtain ⟨rfl, rfl, rfl⟩ : q = a ∧ n = bs.size ∧ c = cap := by simpa using h1
  have hs : (bs.extract k bs.size).size = bs.size - k := by rw [Array.size_extract]; omega
  refine ⟨q', b, o + k, c - k, bs.extract k bs.size, by rw [hs], by
    rw [← h2, Array.toList_extract, List.extract_eq_take_drop, List.take_of_length_le]
    rw [List.length_drop, Array.length_toList]; omega, by omega, by omega, ?_⟩
  by_cases hkn : k = bs.size
  · exact Or.inl (by omega)
  · refine Or.inr ⟨hq' (by omega), fun j hj => ?_⟩
    rw [hs] at hj
    rcases h5 with h5 | ⟨h5, h6⟩
    · omega
    · rw [hq] at h5
      obtain ⟨rfl, rfl⟩ : b = sb ∧ o = so := by simpa using h5
      have := h6 (k + j) (by omega)
      rw [getElem!_pos bs (k + j) (by omega), ← Nat.add_assoc] at this
      rw [getElem!_pos _ j (by rw [hs]; omega), Array.getElem_extract]
      exact this
/-- A record's frame. -/
def frameB (i : Nat) (x : List UInt8) : List UInt8 := (numA 4 x.length 4).toList ++ x ++ (SP.tagL [102, 114, 97, 109, 101] [(numA 8 i 8).toList, x]).toList.take 8
theorem frameB_len (i : Nat) (x : List UInt8) : (frameB i x).length = x.length + 12 := by
  have h1 : (numA 4 x.length 4).toList.length = 4 := numA_size _ _ _
  have h2 : (SP.tagL [102, 114, 97, 109, 101] [(numA 8 i 8).toList, x]).toList.length = 32 := by
    rw [Array.length_toList, SP.tagL_size]
  unfold frameB
  rw [List.length_append, List.length_append, List.length_take, h1, h2]
  omega
theorem part_num {w : World} {r s n : Nat} (hs : s ≤ 8) (h : Holds SP.encB w r 0 (numA s n s)) : SP.PartOk w (.slice (some ⟨r, 0, none⟩) s s) (numA s n s).toList :=
  ⟨_, r, 0, s, numA s n s, by rw [numA_size], rfl, by rw [numA_size]; exact Nat.le_refl _, by rw [numA_size]; omega, Or.inr ⟨rfl, h⟩⟩
set_option maxHeartbeats 1000000 in
theorem framed_c (i : Nat) (hi : i < 1099511627776) (q : Option Addr) (n c : Nat) (x : List UInt8) (hx : n ≤ 16384) (w : World) (h : SP.PartOk w (.slice q n c) x) :
    Calls Try.prog 23 #[.int .i64 (i : Int), .slice q n c] w (Ret fun e w' => Below w.heap.size w w' ∧ w'.ownsRow w.heap.size 5 1 e (frameB i x).length (cbs (frameB i x))) := by
  have hl : x.length = n := (part_src h).1
  have H := Hid.mk2 h
  have HX := Hid.mk2 hl
  have hN := numeral8_c i hi w
  clear h hl
  go_enter Try.func23, Try.ntmps23
  go_wp2_with fail
  refine hN.mono ?_
  rintro e w1 ⟨v1, rfl, hb1, rfl, hH1⟩
  have hT := tag2 ⟨#[102, 114, 97, 109, 101]⟩ (by decide) (some ⟨w.heap.size, 0, none⟩) q 8 8 n c _ _ w1 (part_num (by decide) hH1) (H.out.below hb1)
  have K1 : Hid (Below w.heap.size w w1) := hb1
  clear hb1 hH1 hN
  go_wp2_with fail
  refine hT.mono ?_
  rintro e w2 ⟨r2, rfl, hr2, hb2, hH2⟩
  have hsl := slB_hi r2 0 32 32 8 (by decide)
  have K2 : Hid (Below w.heap.size w w2 ∧ SP.PartOk w2 (.slice (some ⟨r2, 0, none⟩) 8 32) ((SP.tagL [102, 114, 97, 109, 101] [(numA 8 i 8).toList, x]).toList.take 8)) := ⟨K1.out.trans (hb2.mono K1.out.size), part_take (part_tag hH2) (by decide)⟩
  clear hr2 hb2 hH2 hT K1
  have hN := numeral4_c n (by omega) w2
  go_wp2_with fail
  refine hN.mono ?_
  rintro e w3 ⟨v3, rfl, hb3, rfl, hH3⟩
  have K3 : Hid (Below w.heap.size w w3 ∧ SP.PartOk w3 (.slice (some ⟨w2.heap.size, 0, none⟩) 4 4) (numA 4 n 4).toList ∧ SP.PartOk w3 (.slice q n c) x ∧ SP.PartOk w3 (.slice (some ⟨r2, 0, none⟩) 8 32) ((SP.tagL [102, 114, 97, 109, 101] [(numA 8 i 8).toList, x]).toList.take 8)) :=
    ⟨K2.out.1.trans (hb3.mono K2.out.1.size), part_num (by decide) hH3, H.out.below (K2.out.1.trans (hb3.mono K2.out.1.size)), K2.out.2.below hb3⟩
  clear hb3 hH3 hN K2 hsl
  obtain ⟨z, hz⟩ : ∃ z, Hid ((SP.tagL [102, 114, 97, 109, 101] [(numA 8 i 8).toList, x]).toList.take 8 = z) := ⟨_, rfl⟩
  have hz8 : z.length = 8 := by rw [← hz.out, List.length_take, Array.length_toList, SP.tagL_size]; rfl
  rw [hz.out] at K3
  obtain ⟨w4, hw4⟩ : ∃ w4, Hid (w3.alloc (.cells #[.slice (some ⟨w2.heap.size, 0, none⟩) 4 4, .slice q n c, .slice (some ⟨r2, 0, none⟩) 8 32] 32) = w4) := ⟨_, rfl⟩
  have hM := RG.Made.alloc w3 [.slice (some ⟨w2.heap.size, 0, none⟩) 4 4, .slice q n c, .slice (some ⟨r2, 0, none⟩) 8 32] 32
  have hw4' := hw4.out
  change w3.alloc (.cells [Value.slice (some ⟨w2.heap.size, 0, none⟩) 4 4, .slice q n c, .slice (some ⟨r2, 0, none⟩) 8 32].toArray 32) = w4 at hw4'
  rw [hw4'] at hM
  have hcat : catS (fun j => if j = 0 then (numA 4 n 4).toList else if j = 1 then x else z) 3 = frameB i x := by
    unfold frameB
    rw [hz.out, HX.out]
    simp [catS]
  have hC := concat2_c w3.heap.size 3 3 (fun j => if j = 0 then (numA 4 n 4).toList else if j = 1 then x else z) (by decide) (by rw [hcat, frameB_len]; omega) (fun j hj => by
      have hj3 : j = 0 ∨ j = 1 ∨ j = 2 := by omega
      rcases hj3 with rfl | rfl | rfl
      · simp only [if_true]; rw [Array.length_toList, numA_size]; decide
      · have := HX.out
        simp
        omega
      · simp; omega) w4 (World.block_lt_of_cell? _ _ (hM.range 0 _ rfl)) (fun j hj => by
      have hj3 : j = 0 ∨ j = 1 ∨ j = 2 := by omega
      rcases hj3 with rfl | rfl | rfl
      · exact ⟨_, _, _, hM.range 0 _ rfl, K3.out.2.1.below hM.bel⟩
      · exact ⟨_, _, _, hM.range 1 _ rfl, K3.out.2.2.1.below hM.bel⟩
      · exact ⟨_, _, _, hM.range 2 _ rfl, K3.out.2.2.2.below hM.bel⟩)
  rw [hcat] at hC
  have K4 : Hid (Below w.heap.size w w4) := K3.out.1.trans (hM.bel.mono K3.out.1.size)
  clear hM hw4' hcat K3 H HX hz hz8
  go_wp2_with fail
  rw [hw4.out]
  refine hC.mono ?_
  rintro e w5 ⟨v5, rfl, hb5, ho5⟩
  have K5 : Hid (Below w.heap.size w w5 ∧ w5.ownsRow w.heap.size 5 1 v5 (frameB i x).length (cbs (frameB i x))) := by
    refine ⟨K4.out.trans (hb5.mono K4.out.size), ?_⟩
    rcases ho5 with ⟨h0, h1 | ⟨g, cap, cur, h1, h2, h3⟩⟩
    · exact ⟨h0, Or.inl h1⟩
    · exact ⟨h0, Or.inr ⟨g, cap, cur, h1, Nat.le_trans K4.out.size h2, h3⟩⟩
  clear hb5 ho5 K4 hC hw4
  go_wp2
  go_ret
  exact ⟨_, rfl, K5.out.1, K5.out.2⟩
end Go.Proofs.Ytfgjdidnnbjalaa
namespace Go.Proofs.Ytfgjdidnnbjalaa
open Go.RowKit Go.Sort Go.Deep
/-- What a slice of bytes is: nil, or bytes somewhere. -/
def PartN (w : World) (v : Value) (x : List UInt8) : Prop := (v = .slice none 0 0 ∧ x = []) ∨ ∃ b o n c, v = .slice (some ⟨b, o, none⟩) n c ∧ SP.PartOk w v x
theorem own_partN {B n : Nat} {w : World} {v : Value} {x : List UInt8} (h : w.ownsRow B 5 1 v n (cbs x)) (hn : n ≤ 1099511627776) : PartN w v x := by
  have hp := own_part h hn
  rcases id h with ⟨-, ⟨rfl, h0⟩ | ⟨g, cap, cur, rfl, h1, h2, h3, h4, h5, h6⟩⟩
  · exact Or.inl ⟨rfl, List.length_eq_zero_iff.1 (by rw [hp.2]; exact h0)⟩
  · exact Or.inr ⟨_, _, _, _, rfl, hp.1⟩
theorem own_new {w : World} (e : TypeId) (size : Nat) : (w.alloc (.cells #[] e)).ownsRow w.heap.size e size (.slice (some ⟨w.heap.size, 0, none⟩) 0 0) 0 [] := ⟨by rw [Nat.zero_mul]; rfl, .inr ⟨w.heap.size, 0, #[], rfl, Nat.le_refl _, Array.getElem?_push_size, Nat.le_refl _, Nat.zero_le _, by rw [Nat.zero_mul]; rfl, by simp⟩⟩
theorem nil_t (w : World) : (binOp .eql 32 (.slice none 0 0) (.slice none 0 0)).run Try.prog w = .ok (.bool true) w := by kernel_rfl
theorem nil_f (a : Addr) (n c : Nat) (w : World) : (binOp .eql 32 (.slice (some a) n c) (.slice none 0 0)).run Try.prog w = .ok (.bool false) w := by kernel_rfl
set_option maxHeartbeats 1000000 in
theorem clone_c (v : Value) (x : List UInt8) (hx : x.length ≤ 100000000) (w : World) (h : PartN w v x) :
    Calls Try.prog 27 #[v] w (Ret fun e w' => Below w.heap.size w w' ∧ w'.ownsRow w.heap.size 5 1 e x.length (cbs x)) := by
  rcases h with ⟨rfl, rfl⟩ | ⟨b, o, n, c, rfl, hP⟩
  · have hn := nil_t
    go_enter Try.func27, Try.ntmps27
    go_wp2
    go_ret
    exact ⟨_, rfl, Below.refl _ _, World.ownsRow_nil _ _ _ _⟩
  · have hl := (part_src hP).1
    have hb0 : Below w.heap.size w (w.alloc (.cells #[] 5)) := (Below.refl _ _).alloc (Nat.le_refl _) _
    obtain ⟨v', W', r1, r2, r3, -⟩ := own_app2 (xs := []) (own_new (w := w) 5 1) (hP.below hb0) (Or.inl (by simp [Value.ownBlock])) (by omega) hb0.size
    rw [Nat.zero_add, List.nil_append, ← hl] at r2
    have K : Hid (Below w.heap.size w W' ∧ W'.ownsRow w.heap.size 5 1 v' x.length (cbs x)) := ⟨hb0.grown r3 hb0.size (fun k hk => by
      have : k = w.heap.size := by simpa [Value.ownBlock] using hk.symm
      omega), r2⟩
    have HAP := Hid.mk2 r1
    clear r1 r2 r3 hb0 hP hl
    have hn := nil_f ⟨b, o, none⟩ n c
    go_enter Try.func27, Try.ntmps27
    go_wp2_with (at_builtin; refine Lib.wpList_append_run _ rfl _ _ _ _ rfl _ _ rfl rfl _ _ HAP.out ?_)
    go_ret
    exact ⟨_, rfl, K.out.1, K.out.2⟩
theorem hasPrefix_c (b o n c : Nat) (q' : Option Addr) (n' c' : Nat) (x y : List UInt8) (w : World) (h : SP.PartOk w (.slice (some ⟨b, o, none⟩) n c) x) (h' : SP.PartOk w (.slice q' n' c') y) :
    Calls Try.prog 43 #[.slice (some ⟨b, o, none⟩) n c, .slice q' n' c'] w (Ret fun e w' => w = w' ∧ e = .bool (decide (y.length ≤ x.length ∧ x.take y.length = y))) := by
  have l1 := (part_src h).1
  have l2 := (part_src h').1
  have lc := (part_src h).2.1
  by_cases hle : n' ≤ n
  · have g : (n' : Int) ≤ (n : Int) := by omega
    have hs := slB_hi b o n c n' (by omega)
    have hE := equal_c (some ⟨b, o, none⟩) q' n' c n' c' (x.take n').toArray y.toArray w (by rw [List.toList_toArray]; exact part_take h hle) (by rw [List.toList_toArray]; exact h')
    have hd : decide ((x.take n').toArray = y.toArray) = decide (y.length ≤ x.length ∧ x.take y.length = y) := by
      have e : ((x.take n').toArray = y.toArray) ↔ (y.length ≤ x.length ∧ x.take y.length = y) := by
        exact ⟨fun h => ⟨by omega, by have := congrArg Array.toList h; rw [l2]; exact this⟩, fun h => by rw [← l2, h.2]⟩
      simp only [e]
    rw [hd] at hE
    generalize decide (y.length ≤ x.length ∧ x.take y.length = y) = d at hE ⊢
    clear h h' hd l1 l2
    go_enter Try.func43, Try.ntmps43
    go_wp2_with fail
    refine hE.mono ?_
    rintro e w' ⟨rfl, rfl⟩
    cases d <;> go_wp2 <;> go_ret <;> exact ⟨_, rfl, rfl, rfl⟩
  · have g : ¬ (n' : Int) ≤ (n : Int) := by omega
    have hd : decide (y.length ≤ x.length ∧ x.take y.length = y) = false := decide_eq_false fun h => by omega
    rw [hd]
    clear h h' hd
    go_enter Try.func43, Try.ntmps43
    go_wp2
    go_ret
    exact ⟨_, rfl, rfl, rfl⟩
end Go.Proofs.Ytfgjdidnnbjalaa
namespace Go.Proofs.Ytfgjdidnnbjalaa
open Go.RowKit Go.Sort Go.Deep
/-- Four bytes as a number, the highest first. -/
def be4 (b0 b1 b2 b3 : UInt8) : Nat := b3.toNat + b2.toNat * 256 + b1.toNat * 65536 + b0.toNat * 16777216
def be4L (x : List UInt8) : Nat := be4 (x.getD 0 0) (x.getD 1 0) (x.getD 2 0) (x.getD 3 0)
theorem bits_or_u32_nat (a b : Nat) (ha : a < 4294967296) (hb : b < 4294967296) : bits .or .u32 (a : Int) (b : Int) = ((a ||| b : Nat) : Int) := by
  have hx : a ||| b < 2 ^ 32 := Nat.or_lt_two_pow (by omega) (by omega)
  have h1 : (BitVec.ofInt 32 (a : Int)).toNat = a := by
    rw [BitVec.ofInt_natCast, BitVec.toNat_ofNat]; exact Nat.mod_eq_of_lt (by omega)
  have h2 : (BitVec.ofInt 32 (b : Int)).toNat = b := by
    rw [BitVec.ofInt_natCast, BitVec.toNat_ofNat]; exact Nat.mod_eq_of_lt (by omega)
  show IntKind.u32.wrap ((BitVec.ofInt 32 (a : Int) ||| BitVec.ofInt 32 (b : Int)).toNat : Int) = _
  rw [BitVec.toNat_or, h1, h2, IntKind.wrap_u32]
  omega
theorem bits_or_i64_nat (a b : Nat) (ha : a < 4294967296) (hb : b < 4294967296) : bits .or .i64 (a : Int) (b : Int) = ((a ||| b : Nat) : Int) := by
  have hx : a ||| b < 2 ^ 32 := Nat.or_lt_two_pow (by omega) (by omega)
  have h1 : (BitVec.ofInt 64 (a : Int)).toNat = a := by
    rw [BitVec.ofInt_natCast, BitVec.toNat_ofNat]; exact Nat.mod_eq_of_lt (by omega)
  have h2 : (BitVec.ofInt 64 (b : Int)).toNat = b := by
    rw [BitVec.ofInt_natCast, BitVec.toNat_ofNat]; exact Nat.mod_eq_of_lt (by omega)
  show IntKind.i64.wrap ((BitVec.ofInt 64 (a : Int) ||| BitVec.ofInt 64 (b : Int)).toNat : Int) = _
  rw [BitVec.toNat_or, h1, h2, IntKind.wrap_i64]
  omega
theorem or_high (a b t : Nat) (hb : b < 2 ^ t) : a * 2 ^ t ||| b = a * 2 ^ t + b := by
  rw [Nat.mul_comm, ← Nat.two_pow_add_eq_or_of_lt hb]
theorem be4_or (k : IntKind) (hk : ∀ a b : Nat, a < 4294967296 → b < 4294967296 → bits .or k (a : Int) (b : Int) = ((a ||| b : Nat) : Int)) (b0 b1 b2 b3 : UInt8) :
    bits .or k (bits .or k (bits .or k ((b0.toNat * 16777216 : Nat) : Int) ((b1.toNat * 65536 : Nat) : Int)) ((b2.toNat * 256 : Nat) : Int)) (b3.toNat : Int) = ((be4 b0 b1 b2 b3 : Nat) : Int) := by
  have h0 := b0.toNat_lt
  have h1 := b1.toNat_lt
  have h2 := b2.toNat_lt
  have h3 := b3.toNat_lt
  have e1 : b0.toNat * 16777216 ||| b1.toNat * 65536 = b0.toNat * 16777216 + b1.toNat * 65536 := or_high b0.toNat (b1.toNat * 65536) 24 (by omega)
  have e2 : (b0.toNat * 16777216 + b1.toNat * 65536) ||| b2.toNat * 256 = b0.toNat * 16777216 + b1.toNat * 65536 + b2.toNat * 256 := by
    have := or_high (b0.toNat * 256 + b1.toNat) (b2.toNat * 256) 16 (by omega)
    rw [show (b0.toNat * 256 + b1.toNat) * 2 ^ 16 = b0.toNat * 16777216 + b1.toNat * 65536 by omega] at this
    exact this
  have e3 : (b0.toNat * 16777216 + b1.toNat * 65536 + b2.toNat * 256) ||| b3.toNat = b0.toNat * 16777216 + b1.toNat * 65536 + b2.toNat * 256 + b3.toNat := by
    have := or_high (b0.toNat * 65536 + b1.toNat * 256 + b2.toNat) b3.toNat 8 (by omega)
    rw [show (b0.toNat * 65536 + b1.toNat * 256 + b2.toNat) * 2 ^ 8 = b0.toNat * 16777216 + b1.toNat * 65536 + b2.toNat * 256 by omega] at this
    exact this
  rw [hk _ _ (by omega) (by omega), e1, hk _ _ (by omega) (by omega), e2, hk _ _ (by omega) (by omega), e3]
  unfold be4
  congr 1
  omega
theorem be4_lt (b0 b1 b2 b3 : UInt8) : be4 b0 b1 b2 b3 < 4294967296 := by
  have h0 := b0.toNat_lt
  have h1 := b1.toNat_lt
  have h2 := b2.toNat_lt
  have h3 := b3.toNat_lt
  unfold be4
  omega
theorem or_u32 (b0 b1 b2 b3 : UInt8) : bits .or .u32 (bits .or .u32 (bits .or .u32 (ub b0 % 4294967296 * 16777216 % 4294967296) (ub b1 % 4294967296 * 65536 % 4294967296)) (ub b2 % 4294967296 * 256 % 4294967296)) (ub b3 % 4294967296) = ((be4 b0 b1 b2 b3 : Nat) : Int) := by
  have h0 := b0.toNat_lt
  have h1 := b1.toNat_lt
  have h2 := b2.toNat_lt
  have h3 := b3.toNat_lt
  have e0 : ub b0 % 4294967296 * 16777216 % 4294967296 = ((b0.toNat * 16777216 : Nat) : Int) := by unfold ub; omega
  have e1 : ub b1 % 4294967296 * 65536 % 4294967296 = ((b1.toNat * 65536 : Nat) : Int) := by unfold ub; omega
  have e2 : ub b2 % 4294967296 * 256 % 4294967296 = ((b2.toNat * 256 : Nat) : Int) := by unfold ub; omega
  have e3 : ub b3 % 4294967296 = (b3.toNat : Int) := by unfold ub; omega
  rw [e0, e1, e2, e3]
  exact be4_or .u32 bits_or_u32_nat b0 b1 b2 b3
/-- The record that bytes claim to begin with: how long it is. -/
def clm (x : List UInt8) : Option Nat := if 4 ≤ x.length ∧ be4L x ≤ 16384 ∧ be4L x ≤ x.length - 4 then some (be4L x) else none
/-- What claimed answers. -/
def ClmR (w : World) (x : List UInt8) (e : Value) (w' : World) : Prop := Below w.heap.size w w' ∧ ((clm x = none ∧ e = .tuple #[.slice none 0 0, .bool false]) ∨ ∃ m q' c', clm x = some m ∧ e = .tuple #[.slice q' m c', .bool true] ∧ SP.PartOk w (.slice q' m c') ((x.drop 4).take m))
theorem part_cell {w : World} {b o n c : Nat} {x : List UInt8} (h : SP.PartOk w (.slice (some ⟨b, o, none⟩) n c) x) (j : Nat) (hj : j < n) : w.cell? ⟨b, o + j, none⟩ = some (encB (x.getD j 0)) := by
  obtain ⟨hl, hc, -, hs⟩ := part_src h
  rcases hs with ⟨h0, -⟩ | ⟨b', o', hq, -, hu⟩
  · omega
  · obtain ⟨rfl, rfl⟩ : b = b' ∧ o = o' := by simpa using hq
    refine hu j _ ?_
    unfold cbs
    rw [List.getElem?_map, List.getD_eq_getElem?_getD, List.getElem?_eq_getElem (by omega)]
    rfl
set_option maxHeartbeats 1000000 in
theorem claimed_y (b o n c : Nat) (x : List UInt8) (w : World) (h : SP.PartOk w (.slice (some ⟨b, o, none⟩) n c) x) (h4 : 4 ≤ n) (hn : n ≤ 10000000)  :
    Calls Try.prog 42 #[.slice (some ⟨b, o, none⟩) n c] w (Ret (ClmR w x)) := by
  obtain ⟨hl, hc, -, -⟩ := part_src h
  have c0 := part_cell h 0 (by omega)
  have c1 := part_cell h 1 (by omega)
  have c2 := part_cell h 2 (by omega)
  have c3 := part_cell h 3 (by omega)
  rw [Nat.add_zero] at c0
  have hm : be4L x = be4 (x.getD 0 0) (x.getD 1 0) (x.getD 2 0) (x.getD 3 0) := rfl
  unfold encB at c0 c1 c2 c3
  generalize x.getD 0 0 = b0 at c0 hm
  generalize x.getD 1 0 = b1 at c1 hm
  generalize x.getD 2 0 = b2 at c2 hm
  generalize x.getD 3 0 = b3 at c3 hm
  have HW := Hid.mk2 (or_u32 b0 b1 b2 b3)
  have hlt := be4_lt b0 b1 b2 b3
  rw [← hm] at HW hlt
  have g4 : ¬ (n : Int) < 4 := by omega
  have hs1 : ∀ w : World, (Instr.sliceAt 32 (.slice (some ⟨b, o, none⟩) n c) none (some (.int .i64 4)) none).run Try.prog w = .ok (.slice (some ⟨b, o, none⟩) 4 c) w := slB_hi b o n c 4 (by omega)
  obtain ⟨q', hs2', hq', hqn⟩ := slB_lo b o n c 4 (by omega) hc
  have hs2 : ∀ w : World, (Instr.sliceAt 32 (.slice (some ⟨b, o, none⟩) n c) (some (.int .i64 4)) none none).run Try.prog w = .ok (.slice q' (n - 4) (c - 4)) w := hs2'
  have HP := Hid.mk2 (part_drop h h4 rfl hq')
  have HC : Hid (clm x = if be4L x ≤ 16384 ∧ be4L x ≤ n - 4 then some (be4L x) else none) := by
    show _ = _
    unfold clm
    rw [hl]
    by_cases g : be4L x ≤ 16384 ∧ be4L x ≤ n - 4
    · rw [if_pos ⟨h4, g⟩, if_pos g]
    · rw [if_neg (fun h => g h.2), if_neg g]
  have hb0 : ∀ k, Below w.heap.size w (w.drewN k) := fun k => ⟨rfl, rfl, rfl, Nat.le_refl _, fun _ _ => rfl⟩
  have HB := Hid.mk2 hb0
  obtain ⟨⟨qb, qo, qs⟩, rfl⟩ : ∃ a, q' = some a := Option.ne_none_iff_exists'.1 hqn
  clear hs2' hq' hqn h hb0 hm
  generalize be4L x = m at *
  go_enter Try.func42, Try.ntmps42
  go_wp2
  go_quiet (fail)
  go_wp2
  go_quiet (fail)
  rw [HW.out]
  by_cases g1 : m ≤ 16384
  · have a1 : ¬ (16384 : Int) < (m : Int) := by omega
    have hcv : IntKind.i64.wrap (m : Int) = m := by rw [IntKind.wrap_i64]; omega
    by_cases g2 : m ≤ n - 4
    · have a2 : ¬ ((n - 4 : Nat) : Int) < (m : Int) := by omega
      have hs3 : ∀ w : World, (Instr.sliceAt 32 (.slice (some ⟨qb, qo, qs⟩) (n - 4) (c - 4)) none (some (.int .u32 (m : Int))) none).run Try.prog w = .ok (.slice (some ⟨qb, qo, qs⟩) m (c - 4)) w := fun w => by
        have h1 : ¬ (m : Int) < 0 := by omega
        have h2 : (m : Int) ≤ ((c - 4 : Nat) : Int) := by omega
        go_simp
      have hC : clm x = some m := by rw [HC.out, if_pos ⟨g1, g2⟩]
      have HR := Hid.mk2 (part_take HP.out g2)
      have HC' := Hid.mk2 hC
      clear hC HC HP HW hs1 hs2 c0 c1 c2 c3
      go_wp2
      go_ret2
      exact ⟨_, rfl, HB.out _, Or.inr ⟨m, some ⟨qb, qo, qs⟩, c - 4, HC'.out, rfl, HR.out⟩⟩
    · have a2 : ((n - 4 : Nat) : Int) < (m : Int) := by omega
      have hC : clm x = none := by rw [HC.out, if_neg (fun h => g2 h.2)]
      have HC' := Hid.mk2 hC
      clear hC HC HP HW hs1 hs2 c0 c1 c2 c3
      go_wp2
      go_ret2
      exact ⟨_, rfl, HB.out _, Or.inl ⟨HC'.out, rfl⟩⟩
  · have a1 : (16384 : Int) < (m : Int) := by omega
    have hC : clm x = none := by rw [HC.out, if_neg (fun h => g1 h.1)]
    have HC' := Hid.mk2 hC
    clear hC HC HP HW hs1 hs2 c0 c1 c2 c3
    go_wp2
    go_ret2
    exact ⟨_, rfl, HB.out _, Or.inl ⟨HC'.out, rfl⟩⟩
/-- claimed, of whatever bytes. -/
theorem claimed_c (v : Value) (x : List UInt8) (w : World) (h : PartN w v x) (hn : x.length ≤ 10000000) :
    Calls Try.prog 42 #[v] w (Ret (ClmR w x)) := by
  have small : ∀ q n c, v = .slice q n c → n < 4 → n = x.length → Calls Try.prog 42 #[v] w (Ret (ClmR w x)) := by
    rintro q n c rfl h4 hl
    have hC : clm x = none := by unfold clm; rw [if_neg (fun h => by omega)]
    have HC := Hid.mk2 hC
    have g4 : (n : Int) < 4 := by omega
    clear hC h
    go_enter Try.func42, Try.ntmps42
    go_wp2
    go_ret2
    exact ⟨_, rfl, Below.refl _ _, Or.inl ⟨HC.out, rfl⟩⟩
  rcases id h with ⟨rfl, rfl⟩ | ⟨b, o, n, c, rfl, hP⟩
  · exact small _ _ _ rfl (by decide) rfl
  · have hl := (part_src hP).1
    by_cases h4 : 4 ≤ n
    · exact claimed_y b o n c x w hP h4 (by omega)
    · exact small _ _ _ rfl (by omega) hl.symm
end Go.Proofs.Ytfgjdidnnbjalaa
namespace Go.Proofs.Ytfgjdidnnbjalaa
open Go.RowKit Go.Sort Go.Deep
/-- The record whose frame, number i, bytes begin with. -/
def frs (i : Nat) (x : List UInt8) : Option (List UInt8) := match clm x with
  | none => none
  | some m => if (frameB i ((x.drop 4).take m)).length ≤ x.length ∧ x.take (frameB i ((x.drop 4).take m)).length = frameB i ((x.drop 4).take m) then some ((x.drop 4).take m) else none
/-- What first answers. -/
def FstR (w : World) (i : Nat) (x : List UInt8) (e : Value) (w' : World) : Prop := Below w.heap.size w w' ∧ ((frs i x = none ∧ ∃ vf, e = .tuple #[vf, .bool false]) ∨ ∃ r vf, frs i x = some r ∧ e = .tuple #[vf, .bool true] ∧ w'.ownsRow w.heap.size 5 1 vf (frameB i r).length (cbs (frameB i r)))
theorem clm_le {x : List UInt8} {m : Nat} (h : clm x = some m) : 4 ≤ x.length ∧ m ≤ 16384 ∧ m ≤ x.length - 4 := by
  unfold clm at h
  by_cases g : 4 ≤ x.length ∧ be4L x ≤ 16384 ∧ be4L x ≤ x.length - 4
  · rw [if_pos g] at h
    obtain rfl := Option.some.inj h
    exact g
  · rw [if_neg g] at h; cases h
theorem PartN.below {w w' : World} {v : Value} {x : List UInt8} (h : PartN w v x) (hb : Below w.heap.size w w') : PartN w' v x := by
  rcases h with h | ⟨b, o, n, c, h1, h2⟩
  · exact Or.inl h
  · exact Or.inr ⟨b, o, n, c, h1, h2.below hb⟩
set_option maxHeartbeats 1000000 in
theorem first_c (i : Nat) (hi : i < 1099511627776) (v : Value) (x : List UInt8) (w : World) (h : PartN w v x) (hn : x.length ≤ 10000000) :
    Calls Try.prog 35 #[v, .int .i64 (i : Int)] w (Ret (FstR w i x)) := by
  have hC := claimed_c v x w h hn
  have H := Hid.mk2 h
  clear h
  cases hm : clm x with
  | none =>
    have HF : Hid (frs i x = none) := by show _ = _; unfold frs; rw [hm]
    have HM := Hid.mk2 hm
    clear hm
    go_enter Try.func35, Try.ntmps35
    go_wp2_with fail
    refine hC.mono ?_
    rintro e w1 ⟨v1, rfl, hb1, hv1⟩
    obtain rfl : v1 = .tuple #[.slice none 0 0, .bool false] := by
      rcases hv1 with ⟨-, h⟩ | ⟨m, q', c', h, -⟩
      · exact h
      · rw [HM.out] at h; cases h
    have K1 := Hid.mk2 hb1
    clear hv1 hb1 hC
    go_wp2
    go_ret2
    exact ⟨_, rfl, K1.out, Or.inl ⟨HF.out, _, rfl⟩⟩
  | some m =>
    have hle := clm_le hm
    have HF : Hid (frs i x = if (frameB i ((x.drop 4).take m)).length ≤ x.length ∧ x.take (frameB i ((x.drop 4).take m)).length = frameB i ((x.drop 4).take m) then some ((x.drop 4).take m) else none) := by show _ = _; unfold frs; rw [hm]
    have HM := Hid.mk2 hm
    obtain ⟨b, o, n, c, rfl, hP⟩ : ∃ b o n c, v = .slice (some ⟨b, o, none⟩) n c ∧ SP.PartOk w v x := by
      rcases H.out with ⟨-, h⟩ | h
      · rw [h] at hle; exact absurd hle.1 (by decide)
      · exact h
    have HP := Hid.mk2 hP
    clear hm hP H
    go_enter Try.func35, Try.ntmps35
    go_wp2_with fail
    refine hC.mono ?_
    rintro e w1 ⟨v1, rfl, hb1, hv1⟩
    obtain ⟨q', c', rfl, hR⟩ : ∃ q' c', v1 = .tuple #[.slice q' m c', .bool true] ∧ SP.PartOk w (.slice q' m c') ((x.drop 4).take m) := by
      rcases hv1 with ⟨h, -⟩ | ⟨m', q', c', h, h1, h2⟩
      · rw [HM.out] at h; cases h
      · rw [HM.out] at h
        obtain rfl := Option.some.inj h
        exact ⟨q', c', h1, h2⟩
    have hFr := framed_c i hi q' m c' _ hle.2.1 w1 (hR.below hb1)
    have K1 := Hid.mk2 hb1
    have hrl : ((x.drop 4).take m).length ≤ 16384 := by rw [List.length_take]; omega
    generalize (x.drop 4).take m = r at hFr HF hR hrl
    clear hv1 hb1 hC hR hle
    go_wp2_with fail
    refine hFr.mono ?_
    rintro e w2 ⟨v2, rfl, hb2, ho2⟩
    have hlf := frameB_len i r
    have hpf := own_part ho2 (by omega)
    obtain ⟨g2, cap2, rfl⟩ : ∃ g cap, v2 = .slice (some ⟨g, 0, none⟩) (frameB i r).length cap := by
      rcases ho2.2 with ⟨-, h⟩ | ⟨g, cap, cur, h, -⟩
      · omega
      · exact ⟨g, cap, h⟩
    have hH := hasPrefix_c b o n c (some ⟨g2, 0, none⟩) (frameB i r).length cap2 x (frameB i r) w2 (HP.out.below (K1.out.trans (hb2.mono K1.out.size))) hpf.1
    have K2 : Hid (Below w.heap.size w w2 ∧ w2.ownsRow w.heap.size 5 1 (.slice (some ⟨g2, 0, none⟩) (frameB i r).length cap2) (frameB i r).length (cbs (frameB i r))) := by
      refine ⟨K1.out.trans (hb2.mono K1.out.size), ?_⟩
      rcases ho2 with ⟨h0, h1 | ⟨g, cap, cur, h1, h2, h3⟩⟩
      · exact ⟨h0, Or.inl h1⟩
      · exact ⟨h0, Or.inr ⟨g, cap, cur, h1, Nat.le_trans K1.out.size h2, h3⟩⟩
    clear hb2 ho2 hpf K1 hFr HP hlf hrl
    by_cases hd : (frameB i r).length ≤ x.length ∧ x.take (frameB i r).length = frameB i r
    · rw [decide_eq_true hd] at hH
      have HF' : Hid (frs i x = some r) := by show _ = _; rw [HF.out, if_pos hd]
      clear HF hd
      obtain ⟨fl, hfl⟩ : ∃ fl, Hid ((frameB i r).length = fl) := ⟨_, rfl⟩
      rw [hfl.out] at K2 hH ⊢
      go_wp2_with fail
      refine hH.mono ?_
      rintro e w3 ⟨v3, rfl, rfl, rfl⟩
      go_wp2
      go_ret2
      exact ⟨_, rfl, K2.out.1, Or.inr ⟨r, _, HF'.out, rfl, by rw [hfl.out]; exact K2.out.2⟩⟩
    · rw [decide_eq_false hd] at hH
      have HF' : Hid (frs i x = none) := by show _ = _; rw [HF.out, if_neg hd]
      clear HF hd
      generalize (frameB i r).length = fl at *
      go_wp2_with fail
      refine hH.mono ?_
      rintro e w3 ⟨v3, rfl, rfl, rfl⟩
      go_wp2
      go_ret2
      exact ⟨_, rfl, K2.out.1, Or.inl ⟨HF'.out, _, rfl⟩⟩
end Go.Proofs.Ytfgjdidnnbjalaa
namespace Go.Proofs.Ytfgjdidnnbjalaa
open Go.RowKit Go.Sort Go.Deep
theorem rowS_new (w : World) (vs : List Value) (e : TypeId) : RowS (w.alloc (.cells vs.toArray e)) w.heap.size vs := by
  have hM := RG.Made.alloc w vs e
  refine ⟨by rw [World.size_alloc]; omega, fun j v hj => hM.range j v hj, fun j hj => hM.there j hj⟩
theorem RowS.cell {W : World} {k : Nat} {vs : List Value} (h : RowS W k vs) (j : Nat) (v : Value) (hj : vs[j]? = some v) : W.cell? ⟨k, j, none⟩ = some v := by
  have := h.2.1 j v hj
  rw [Nat.zero_add] at this
  exact this
theorem RowS.free {W : World} {k : Nat} {vs : List Value} (h : RowS W k vs) (j : Nat) (hj : j < vs.length) : W.frozen? ⟨k, j, none⟩ = false := by
  have := (h.2.2 j hj).2
  rw [Nat.zero_add] at this
  exact this
theorem RowS.set {W : World} {k : Nat} {vs : List Value} (h : RowS W k vs) (i : Nat) (v : Value) (hi : i < vs.length) : RowS (W.setCell ⟨k, i, none⟩ v) k (vs.set i v) := by
  have hc : (W.cell? ⟨k, i, none⟩).isSome = true := by
    have := (h.2.2 i hi).1
    rw [Nat.zero_add] at this
    exact this
  refine ⟨by rw [World.size_setCell]; exact h.1, fun j u hj => ?_, fun j hj => ?_⟩
  · rw [Nat.zero_add]
    by_cases e : j = i
    · subst e
      rw [List.getElem?_set_self hi] at hj
      obtain rfl := Option.some.inj hj
      exact World.cell?_setCell_same' _ _ _ hc
    · rw [List.getElem?_set_ne (fun h => e h.symm)] at hj
      rw [World.cell?_setCell_other _ _ _ _ (by simp [e])]
      exact h.cell j u hj
  · rw [List.length_set] at hj
    rw [Nat.zero_add]
    refine ⟨?_, by rw [World.frozen?_setCell]; exact h.free j hj⟩
    by_cases e : j = i
    · subst e
      rw [World.cell?_setCell_same' _ _ _ hc]; rfl
    · rw [World.cell?_setCell_other _ _ _ _ (by simp [e]), h.cell j _ (List.getElem?_eq_getElem hj)]; rfl
theorem results_cellS {P : Program} {fn : Func} {tmps : Array Value} {W : World} {k : Nat} {vs : List Value} (t : Tmp) (T : TypeId) (hr : fn.results = #[.cell t T]) (h : RowS W k vs) (ht : tmps[t]? = some (.pointer (some ⟨k, 0, none⟩)))
    (hu : (P.underlying T).map (·.isRow) = some true) (hi : (P.info? T).map (·.size) = some vs.length) : (results fn tmps).run P W = .ok (.agg vs.toArray) W := by
  obtain ⟨d, hu, hd⟩ := Option.map_eq_some_iff.1 hu
  have h1 := run_loadVar_mid (P := P) W k 0 T vs d h.2.1 hu hd hi
  have h2 : tmps.getD t undef = .pointer (some ⟨k, 0, none⟩) := by rw [Array.getD_eq_getD_getElem?, ht]; rfl
  unfold results
  rw [hr]
  simp only [Array.mapM_eq_mapM_toList, List.mapM_cons, List.mapM_nil, h2, asAddr]
  simp [Sem.run_bind, h1]
theorem i53 : (Try.prog.info? 53).map (·.size) = some 4 := by kernel_rfl
theorem u53 : (Try.prog.underlying 53).map (·.isRow) = some true := by kernel_rfl
theorem empty_c (lim : Nat) (w : World) : Calls Try.prog 20 #[.int .i64 (lim : Int)] w (Ret fun e w' => Below w.heap.size w w' ∧ e = .agg #[.slice none 0 0, .int .i64 (lim : Int), .int .i64 (lim : Int), .bool false]) := by
  go_enter Try.func20, Try.ntmps20
  go_wp2
  refine bodyPost_ret (results_cellS 2 53 rfl (rowS_new w [.slice none 0 0, .int .i64 (lim : Int), .int .i64 (lim : Int), .bool false] _) rfl u53 i53) rfl ?_
  exact ⟨_, rfl, (Below.refl _ _).alloc (Nat.le_refl _) _, rfl⟩
/-- What New answers. -/
def NewR (w : World) (lim : Nat) (e : Value) (w' : World) : Prop := Below w.heap.size w w' ∧ ∃ b, e = .tuple #[.pointer (some ⟨b, 0, none⟩), .int .i64 0] ∧ w.heap.size ≤ b ∧ PSv (fun k => k = b) w' b [] [] lim lim false (.slice none 0 0) (.slice none 0 0)
set_option maxHeartbeats 1000000 in
theorem new_y (lim : Nat) (h1 : 64 ≤ lim) (h2 : lim ≤ 1048576) (w : World) : Calls Try.prog 5 #[.int .i64 (lim : Int)] w (Ret (NewR w lim)) := by
  have g1 : ¬ (lim : Int) < 64 := by omega
  have g2 : ¬ (1048576 : Int) < (lim : Int) := by omega
  have hE := empty_c lim w
  go_enter Try.func5, Try.ntmps5
  go_wp2_with fail
  refine hE.mono ?_
  rintro e w1 ⟨v1, rfl, hb1, rfl⟩
  have K : Hid (NewR w lim (.tuple #[.pointer (some ⟨w1.heap.size, 0, none⟩), .int .i64 0]) (w1.alloc (.cells #[.slice none 0 0, .int .i64 (lim : Int), .int .i64 (lim : Int), .bool false, .slice none 0 0] 57))) := by
    refine ⟨hb1.trans (((Below.refl _ _).alloc (Nat.le_refl _) _).mono hb1.size), w1.heap.size, rfl, hb1.size, ?_⟩
    exact ⟨rowS_new w1 (stc (.slice none 0 0) lim lim false (.slice none 0 0)) _, World.ownsRow_nil _ _ _ _, World.ownsRow_nil _ _ _ _, rfl, (fun k h => by cases h), (fun k h => by cases h), (fun k h => by rw [h, World.size_alloc]; omega)⟩
  clear hb1 hE
  go_wp2
  go_ret2
  exact ⟨_, rfl, K.out⟩
theorem new_n (lim : Int) (h : lim < 64 ∨ 1048576 < lim) (w : World) : Calls Try.prog 5 #[.int .i64 lim] w (Ret fun e w' => w = w' ∧ e = .tuple #[.pointer none, .int .i64 7]) := by
  by_cases g1 : lim < 64
  · go_enter Try.func5, Try.ntmps5
    go_wp2
    go_ret2
    exact ⟨_, rfl, rfl, rfl⟩
  · have g2 : 1048576 < lim := by omega
    go_enter Try.func5, Try.ntmps5
    go_wp2
    go_ret2
    exact ⟨_, rfl, rfl, rfl⟩
variable {X : Nat → Prop} {W : World} {b lim left : Nat} {B : List UInt8} {E : List (Nat × Nat)} {off : Bool} {v1 v2 : Value}
theorem PSv.c0 (h : PSv X W b B E lim left off v1 v2) : W.cell? ⟨b, 0, none⟩ = some v1 := h.row.cell 0 _ rfl
theorem PSv.c1 (h : PSv X W b B E lim left off v1 v2) : W.cell? ⟨b, 1, none⟩ = some (.int .i64 (lim : Int)) := h.row.cell 1 _ rfl
theorem PSv.c2 (h : PSv X W b B E lim left off v1 v2) : W.cell? ⟨b, 2, none⟩ = some (.int .i64 (left : Int)) := h.row.cell 2 _ rfl
theorem PSv.c3 (h : PSv X W b B E lim left off v1 v2) : W.cell? ⟨b, 3, none⟩ = some (.bool off) := h.row.cell 3 _ rfl
theorem PSv.c4 (h : PSv X W b B E lim left off v1 v2) : W.cell? ⟨b, 4, none⟩ = some v2 := h.row.cell 4 _ rfl
theorem own_slice {Bs n size : Nat} {e : TypeId} {w : World} {v : Value} {xs : List Value} (h : w.ownsRow Bs e size v n xs) : ∃ q c, v = .slice q n c ∧ n ≤ c := by
  rcases h.2 with ⟨rfl, rfl⟩ | ⟨g, cap, cur, rfl, -, -, h3, -⟩
  · exact ⟨none, 0, rfl, Nat.le_refl _⟩
  · exact ⟨_, _, rfl, h3⟩
theorem len_c (h : PSv X W b B E lim left off v1 v2) : Calls Try.prog 17 #[.pointer (some ⟨b, 0, none⟩)] W (Ret fun e w' => W = w' ∧ e = .int .i64 (E.length : Int)) := by
  have h4 := h.c4
  obtain ⟨q, c, rfl, -⟩ := own_slice h.o2
  clear h
  go_enter Try.func17, Try.ntmps17
  go_wp2
  go_ret
  exact ⟨_, rfl, rfl, rfl⟩
theorem PSv.set {i : Nat} {v : Value} (h : PSv X W b B E lim left off v1 v2) (left' : Nat) (off' : Bool) (hv : (stc v1 lim left off v2).set i v = stc v1 lim left' off' v2) (hi : i < 5) : PSv X (W.setCell ⟨b, i, none⟩ v) b B E lim left' off' v1 v2 := by
  have hk : ∀ k, k ≠ b → (W.setCell ⟨b, i, none⟩ v).heap[k]? = W.heap[k]? := fun k hk => blk_setCell_other W ⟨b, i, none⟩ v k hk
  refine ⟨?_, own_at h.o1 (fun k hk1 => hk k (h.x1 k hk1).2), own_at h.o2 (fun k hk1 => hk k (h.x2 k hk1).2.1), h.xb, h.x1, h.x2, fun k hX => by rw [World.size_setCell]; exact h.ins k hX⟩
  rw [← hv]
  exact h.row.set i v hi
theorem frx_set (v : Value) (i : Nat) (hX : X b) : FrX X W (W.setCell ⟨b, i, none⟩ v) := (FrX.refl X W).setCell (a := ⟨b, i, none⟩) hX v
/-- What Arm does. -/
def armL (lim : Nat) (n : Int) : Nat := if n < 0 then lim else n.toNat
theorem allow_c (n : Int) (h : PSv X W b B E lim left off v1 v2) : Calls Try.prog 25 #[.pointer (some ⟨b, 0, none⟩), .int .i64 n] W fun e w' => e = .returned (.tuple #[]) ∧ FrX X W w' ∧ PSv X w' b B E lim (armL lim n) off v1 v2 := by
  have hs : PSv X (W.setCell ⟨b, 2, none⟩ (.int .i64 (armL lim n : Int))) b B E lim (armL lim n) off v1 v2 := h.set (armL lim n) off rfl (by decide)
  have hf := frx_set (W := W) (b := b) (.int .i64 (armL lim n : Int)) 2 h.xb
  have c1 := h.c1
  have c2 := h.c2
  have f2 := h.row.free 2 (by decide : 2 < 5)
  have HS := Hid.mk2 hs
  have HF := Hid.mk2 hf
  clear hs hf h
  by_cases hn : n < 0
  · have e : (armL lim n : Int) = (lim : Int) := by unfold armL; rw [if_pos hn]
    rw [e] at HS HF
    go_enter Try.func25, Try.ntmps25
    go_wp2
    exact ⟨rfl, .tuple #[], results_none rfl _ _ _, rfl, HF.out, HS.out⟩
  · have e : (armL lim n : Int) = n := by unfold armL; rw [if_neg hn]; omega
    rw [e] at HS HF
    go_enter Try.func25, Try.ntmps25
    go_wp2
    exact ⟨rfl, .tuple #[], results_none rfl _ _ _, rfl, HF.out, HS.out⟩
theorem arm_c (n : Int) (h : PSv X W b B E lim left off v1 v2) : Calls Try.prog 11 #[.pointer (some ⟨b, 0, none⟩), .int .i64 n] W fun e w' => e = .returned (.tuple #[]) ∧ FrX X W w' ∧ PSv X w' b B E lim (armL lim n) off v1 v2 := by
  have hA := allow_c n h
  have c0 := h.c0
  clear h
  go_enter Try.func11, Try.ntmps11
  go_wp2_with fail
  refine hA.mono ?_
  rintro e w1 ⟨rfl, h1, h2⟩
  have K : Hid (FrX X W w1 ∧ PSv X w1 b B E lim (armL lim n) off v1 v2) := ⟨h1, h2⟩
  clear h1 h2 hA
  go_wp2
  exact ⟨rfl, .tuple #[], results_none rfl _ _ _, rfl, K.out.1, K.out.2⟩
theorem hasRoom_c (n : Nat) (hn : n ≤ 1000000) (hl : lim ≤ 1048576) (hB : B.length ≤ lim) (h : PSv X W b B E lim left off v1 v2) : Calls Try.prog 21 #[.pointer (some ⟨b, 0, none⟩), .int .i64 (n : Int)] W (Ret fun e w' => Below W.heap.size W w' ∧ e = .bool (decide (n + B.length ≤ lim))) := by
  have c0 := h.c0
  have c1 := h.c1
  obtain ⟨q, c, rfl, -⟩ := own_slice h.o1
  clear h
  have hw : IntKind.i64.wrap ((lim : Int) - (B.length : Int)) = ((lim - B.length : Nat) : Int) := by rw [IntKind.wrap_i64]; omega
  have hb0 : ∀ k, Below W.heap.size W (W.drewN k) := fun k => ⟨rfl, rfl, rfl, Nat.le_refl _, fun _ _ => rfl⟩
  have HB := Hid.mk2 hb0
  clear hb0
  have hd : decide (n + B.length ≤ lim) = decide (n ≤ lim - B.length) := by
    have e : n + B.length ≤ lim ↔ n ≤ lim - B.length := by omega
    simp only [e]
  rw [hd]
  clear hd
  go_enter Try.func21, Try.ntmps21
  go_wp2
  go_quiet (fail)
  go_wp2
  go_ret
  exact ⟨_, rfl, HB.out _, by simp⟩
theorem disk_c (hB : B.length ≤ 100000000) (h : PSv X W b B E lim left off v1 v2) : Calls Try.prog 19 #[.pointer (some ⟨b, 0, none⟩)] W (Ret fun e w' => Below W.heap.size W w' ∧ w'.ownsRow W.heap.size 5 1 e B.length (cbs B)) := by
  have c0 := h.c0
  have hC := clone_c v1 B hB W (own_partN h.o1 (by omega))
  obtain ⟨q, c, rfl, -⟩ := own_slice h.o1
  clear h
  go_enter Try.func19, Try.ntmps19
  go_wp2_with fail
  refine hC.mono ?_
  rintro e w1 ⟨v, rfl, h1, h2⟩
  have K : Hid (Below W.heap.size W w1 ∧ w1.ownsRow W.heap.size 5 1 v B.length (cbs B)) := ⟨h1, h2⟩
  clear h1 h2 hC
  go_wp2
  go_ret
  exact ⟨_, rfl, K.out.1, K.out.2⟩
end Go.Proofs.Ytfgjdidnnbjalaa
namespace Go.Proofs.Ytfgjdidnnbjalaa
open Go.RowKit Go.Sort Go.Deep
theorem nextcap_le (n c : Nat) (h : c < n) : Builtin.nextslicecap n c ≤ 2 * n + 768 := by
  unfold Builtin.nextslicecap
  split
  · omega
  · split
    · omega
    · simp only [Builtin.growBy]
      repeat' split
      all_goals omega
/-- 'append(l, x...)', l a row of one's own: where the new row lies. -/
theorem own_block {base n m size c : Nat} {T e : TypeId} {i : TypeInfo} {z : Value} {W W' : World} {v v' : Value} {xs news : List Value} {a : Addr} (hT : Try.prog.underlying T = some (.slice e)) (hi : Try.prog.info? e = some i) (hz : i.zero = some z) (hsz : i.size = size) (hby : i.bytes ≤ 1000)
    (hown : W.ownsRow base e size v n xs) (hs : Src Try.prog size T (.slice (some a) m c) m news W) (hn : n + m ≤ 1000000000)
    (hr : (Builtin.append_ #[T, T] T #[v, .slice (some a) m c]).run Try.prog W = .ok v' W') : v'.ownBlock = v.ownBlock ∨ v'.ownBlock = some W.heap.size := by
  subst hsz
  have hgrow : ∀ (q : Option Addr) (cap : Nat) (olds : List Value), v = .slice q n cap → cap < n + m → (Builtin.firstCells i.size n (.slice q n cap)).run Try.prog W.drew = .ok olds.toArray W.drew → v'.ownBlock = v.ownBlock ∨ v'.ownBlock = some W.heap.size := fun q cap olds hv hc hold => by
    have h1 := nextcap_le (n + m) cap hc
    have h2 : Builtin.nextslicecap (n + m) cap * i.bytes ≤ (2 * (n + m) + 768) * 1000 := Nat.mul_le_mul h1 hby
    have hap := run_append_grow_src (P := Try.prog) W T T T e i z hT hi hz q n cap olds hold (.slice (some a) m c) m news hs hc (by omega) (Nat.le_trans h2 (by clear h1 h2; omega))
    rw [hv, hap] at hr
    injection hr with hr1 hr2
    right
    rw [← hr1]
    rfl
  rcases id hown with ⟨-, ⟨rfl, rfl⟩ | ⟨g, cap, cur, rfl, g1, g2, g3, g4, g5, g6⟩⟩
  · by_cases hm : m = 0
    · subst hm
      have hr' := hr
      obtain ⟨w1, hr2⟩ : ∃ w1, (Builtin.append_ #[T, T] T #[.slice none 0 0, .slice (some a) 0 c]).run Try.prog W = .ok (.slice none 0 0) w1 := by
        rcases hs.kind with ⟨e', hk⟩ | hk <;> exact ⟨_, by simp [Builtin.append_, run_underlying hT, run_underlying hk, sizeOf, typeInfo, hi, hs.len, hs.cells]; rfl⟩
      rw [hr2] at hr
      injection hr with hr1 hr2
      left
      rw [← hr1]
    · exact hgrow none 0 [] rfl (by omega) (run_firstCells_none W.drew i.size 0 0 0)
  · by_cases hroom : n + m ≤ cap
    · have hap := run_append_room_src (P := Try.prog) W T T T e i hT hi g 0 n cap (.slice (some a) m c) m news hs hroom
        (fun j hj => by
          have hj2 : n * i.size + j < cur.size := by
            rw [g5]
            have h1 : j < m * i.size := by rw [← hs.newsLen]; exact hj
            have h2 : (n + m) * i.size ≤ cap * i.size := Nat.mul_le_mul_right _ hroom
            rw [Nat.add_mul] at h2
            omega
          simp [World.cell?, g2, Nat.zero_add, Array.getElem?_eq_getElem hj2])
        (fun j hj => by simp [World.frozen?, g2])
      rw [hap] at hr
      injection hr with hr1 hr2
      left
      rw [← hr1]
      rfl
    · refine hgrow (some ⟨g, 0, none⟩) cap xs rfl (by omega) ?_
      exact run_firstCells_some W.drew i.size n ⟨g, 0, none⟩ n cap xs hown.1 (fun j u hj => by rw [World.cell?_drew]; exact hown.cells (g := g) rfl j u hj)
theorem step_append_run {P : Program} {ops : Array Oper} {o : Oper} {a : Act} {w : World} {K : Act → World → Prop} {Q : Exit → Act → World → Prop} {E : Prop} (hg : o.guard = none) (s x : Operand) (t tn : TypeId)
    (ho : o.op = .call { callee := .builtin .append, args := #[s, x], argTypes := #[t, tn] }) (vs vx : Value) (hs : a.eval s = vs) (hx : a.eval x = vx)
    (v' : Value) (w' : World) (hr : (Builtin.append_ #[t, tn] o.type #[vs, vx]).run P w = .ok v' w') (h : K (a.put o.dst v') w') : if Region.wanted o (yielded ops a.tmps) = true then Oper.wp P o a w K Q else E := by
  have hw : Region.wanted o (yielded ops a.tmps) = true := by simp [Region.wanted, hg]
  rw [if_pos hw]
  exact Lib.wp_append_run w s x t tn ho vs vx hs hx v' w' hr h
theorem step_append_ex {P : Program} {ops : Array Oper} {o : Oper} {a : Act} {w : World} {K : Act → World → Prop} {Q : Exit → Act → World → Prop} {E : Prop} {R : Value → World → Prop} (hg : o.guard = none) (s x : Operand) (t tn : TypeId)
    (ho : o.op = .call { callee := .builtin .append, args := #[s, x], argTypes := #[t, tn] }) (vs vx : Value) (hs : a.eval s = vs) (hx : a.eval x = vx)
    (hr : ∃ q n c w', (Builtin.append_ #[t, tn] o.type #[vs, vx]).run P w = .ok (.slice q n c) w' ∧ R (.slice q n c) w') (h : ∀ q n c w', R (.slice q n c) w' → K (a.put o.dst (.slice q n c)) w') : if Region.wanted o (yielded ops a.tmps) = true then Oper.wp P o a w K Q else E := by
  obtain ⟨q, n, c, w', r1, r2⟩ := hr
  exact step_append_run hg s x t tn ho vs vx hs hx _ w' r1 (h q n c w' r2)
variable {X : Nat → Prop} {W : World} {b lim left : Nat} {B : List UInt8} {E : List (Nat × Nat)} {off : Bool} {v1 v2 : Value}
/-- What is known behind the append to the bytes that were written. -/
structure WrA (X : Nat → Prop) (W : World) (b : Nat) (B : List UInt8) (E : List (Nat × Nat)) (lim left : Nat) (off : Bool) (v1 v2 : Value) (y : List UInt8) (v' : Value) (W' : World) : Prop where
  own : W'.ownsRow 0 5 1 v' (B ++ y).length (cbs (B ++ y))
  fr : FrX X W W'
  row : RowS W' b (stc v1 lim left off v2)
  o2 : W'.ownsRow 0 63 2 v2 E.length (exs E)
  x1 : ∀ k, v'.ownBlock = some k → (X k ∨ W.heap.size ≤ k) ∧ k ≠ b ∧ v2.ownBlock ≠ some k
  lt : ∀ k, v'.ownBlock = some k → k < W'.heap.size
theorem app_bytes (h : PSv X W b B E lim left off v1 v2) {g o n c : Nat} {y : List UInt8} (hy : SP.PartOk W (.slice (some ⟨g, o, none⟩) n c) y) (hn : B.length + n ≤ 100000000) (W1 : World) (hb1 : Below W.heap.size W W1) (hs1 : W1.heap.size = W.heap.size) :
    ∃ q' n' c' W', (Builtin.append_ #[32, 32] 32 #[v1, .slice (some ⟨g, o, none⟩) n c]).run Try.prog W1 = .ok (.slice q' n' c') W' ∧ WrA X W b B E lim left off v1 v2 y (.slice q' n' c') W' := by
  have h1 := h.below hb1
  have hy1 := hy.below hb1
  obtain ⟨v', W', r1, r2, r3, -, -⟩ := own_app2 h1.o1 hy1 (Or.inr (by simp)) (by omega) (Nat.zero_le _)
  have hl := (part_src hy).1
  have hbl : v'.ownBlock = v1.ownBlock ∨ v'.ownBlock = some W1.heap.size := by
    obtain ⟨i, hi, he⟩ := Option.map_eq_some_iff.1 infoU
    simp only [Prod.mk.injEq] at he
    obtain ⟨e1, e2, e3⟩ := he
    obtain ⟨z, hz, hz2⟩ := Option.map_eq_some_iff.1 e3
    have hsrc : Src Try.prog 1 32 (.slice (some ⟨g, o, none⟩) n c) n (cbs y) W1 := by
      refine Src.ofSlice (e' := 5) _ undU ⟨g, o, none⟩ n c (cbs y) (by rw [cbs_len, hl, Nat.mul_one]) (fun j u hj => ?_) (fun u hu => cbs_one hu)
      rcases (part_src hy1).2.2.2 with ⟨-, rfl⟩ | ⟨b', o', hq, -, hc⟩
      · cases hj
      · obtain ⟨rfl, rfl⟩ : g = b' ∧ o = o' := by simpa using hq
        rw [addS0]; exact hc j u hj
    exact own_block undU hi hz e1 (by rw [e2]; decide) h1.o1 hsrc (by omega) r1
  rw [hs1] at hbl
  have hx1 : ∀ k, v'.ownBlock = some k → (X k ∨ W.heap.size ≤ k) ∧ k ≠ b ∧ v2.ownBlock ≠ some k := fun k hk => by
    rcases hbl with e | e
    · rw [e] at hk
      exact ⟨Or.inl (h.x1 k hk).1, (h.x1 k hk).2, fun h2 => (h.x2 k h2).2.2 hk⟩
    · rw [e] at hk
      obtain rfl := Option.some.inj hk
      refine ⟨Or.inr (Nat.le_refl _), fun e => ?_, fun e => ?_⟩
      · have := h.ins b h.xb; omega
      · have := h.ins _ (h.x2 _ e).1; omega
  have hfr : FrX X W W' := (FrX.of hb1).grown r3 (fun k hk => Or.inl (h.x1 k hk).1)
  have hkb : ∀ k, X k → v1.ownBlock ≠ some k → W'.heap[k]? = W.heap[k]? := fun k hk hne => by
    rw [r3.block k (by rw [hs1]; exact h.ins k hk) (fun e => hne e.symm)]
    exact hb1.block k (h.ins k hk)
  obtain ⟨q', c', rfl, -⟩ := own_slice r2
  refine ⟨q', _, c', W', r1, ⟨?_, hfr, h.row.at hfr.size (hkb b h.xb (fun e => (h.x1 b e).2 rfl)), own_at h.o2 (fun k hk => hkb k (h.x2 k hk).1 (h.x2 k hk).2.2), hx1, fun k hk => (r2.lt k hk).2⟩⟩
  rw [List.length_append, hl]
  exact r2
/-- .. and the store of the row that it gave. -/
theorem WrA.put {y : List UInt8} {v' : Value} {W' : World} (h : PSv X W b B E lim left off v1 v2) (hA : WrA X W b B E lim left off v1 v2 y v' W') : FrX X W (W'.setCell ⟨b, 0, none⟩ v') ∧ PSv (fun k => X k ∨ v'.ownBlock = some k) (W'.setCell ⟨b, 0, none⟩ v') b (B ++ y) E lim left off v' v2 := by
  have hk : ∀ k, k ≠ b → (W'.setCell ⟨b, 0, none⟩ v').heap[k]? = W'.heap[k]? := fun k hk => blk_setCell_other W' ⟨b, 0, none⟩ v' k hk
  refine ⟨hA.fr.setCell (a := ⟨b, 0, none⟩) h.xb v', ⟨hA.row.set 0 v' (by decide : 0 < 5), own_at hA.own (fun k hk1 => hk k (hA.x1 k hk1).2.1), own_at hA.o2 (fun k hk1 => hk k (h.x2 k hk1).2.1), Or.inl h.xb, fun k hk1 => ⟨Or.inr hk1, (hA.x1 k hk1).2.1⟩, fun k hk1 => ⟨Or.inl (h.x2 k hk1).1, (h.x2 k hk1).2.1, fun e => (hA.x1 k e).2.2 hk1⟩, fun k hX => ?_⟩⟩
  rw [World.size_setCell]
  rcases hX with hX | hX
  · exact Nat.lt_of_lt_of_le (h.ins k hX) hA.fr.size
  · exact hA.lt k hX
end Go.Proofs.Ytfgjdidnnbjalaa
namespace Go.Proofs.Ytfgjdidnnbjalaa
open Go.RowKit Go.Sort Go.Deep
variable {X : Nat → Prop} {W : World} {b lim left : Nat} {B : List UInt8} {E : List (Nat × Nat)} {off : Bool} {v1 v2 : Value}
/-- What write does. -/
def WrR (X : Nat → Prop) (W : World) (b : Nat) (B : List UInt8) (E : List (Nat × Nat)) (lim left : Nat) (v2 : Value) (x : List UInt8) (e : Value) (w' : World) : Prop :=
  e = .bool (decide (x.length ≤ left)) ∧ FrX X W w' ∧ ∃ Y v', (∀ k, Y k → X k ∨ W.heap.size ≤ k) ∧ PSv Y w' b (B ++ x.take left) E lim (left - x.length) (decide (left < x.length)) v' v2
set_option maxHeartbeats 2000000 in
theorem write_y (g o n c : Nat) (x : List UInt8) (hx : SP.PartOk W (.slice (some ⟨g, o, none⟩) n c) x) (hn : n ≤ 20000) (hB : B.length ≤ 10000000) (hle : n ≤ left) (hleft : left ≤ 9223372036854775807) (h : PSv X W b B E lim left off v1 v2) :
    Calls Try.prog 29 #[.pointer (some ⟨b, 0, none⟩), .slice (some ⟨g, o, none⟩) n c] W (Ret (WrR X W b B E lim left v2 x)) := by
  obtain ⟨hl, hc, -, -⟩ := part_src hx
  obtain ⟨q1, c1, rfl, -⟩ := own_slice h.o1
  have c0 := h.c0
  have c2 := h.c2
  have hap := Hid.mk2 (fun W1 hb hs => app_bytes h (y := x.take n) (part_take hx (k := n) (by omega)) (by omega) W1 hb hs)
  have hsl := slB_hi g o n c n (by omega)
  have hmin : (n : Int) ≤ (left : Int) := by omega
  have hwr : IntKind.i64.wrap ((left : Int) - (n : Int)) = ((left - n : Nat) : Int) := by rw [IntKind.wrap_i64]; omega
  have H := Hid.mk2 h
  clear h hx
  go_enter Try.func29, Try.ntmps29
  go_wp2
  go_region_law (refine step_append_ex rfl (.tmp 17) (.tmp 20) 32 32 rfl (.slice q1 B.length c1) (.slice (some ⟨g, o, none⟩) n c) (by simp [Act.eval, Act.put]) (by simp [Act.eval, Act.put]) (hap.out _ ⟨rfl, rfl, rfl, Nat.le_refl _, fun _ _ => rfl⟩ rfl) ?_; intro q' n' c' W' r2; have d0 : W'.cell? ⟨b, 0, none⟩ = some (.slice q1 B.length c1) := r2.row.cell 0 _ rfl; have d2 : W'.cell? ⟨b, 2, none⟩ = some (.int .i64 (left : Int)) := r2.row.cell 2 _ rfl; have d3 : W'.cell? ⟨b, 3, none⟩ = some (.bool off) := r2.row.cell 3 _ rfl; have f0 := r2.row.free 0 (by decide : 0 < 5); have f2 := r2.row.free 2 (by decide : 2 < 5); have f3 := r2.row.free 3 (by decide : 3 < 5); have R2 := Hid.mk2 r2; clear r2)
  have HR : Hid (WrR X W b B E lim left v2 x (.bool true) (((W'.setCell ⟨b, 0, none⟩ (.slice q' n' c')).setCell ⟨b, 2, none⟩ (.int .i64 ((left - n : Nat) : Int))).setCell ⟨b, 3, none⟩ (.bool false))) := by
    obtain ⟨p1, p2⟩ := R2.out.put H.out
    have p3 := p2.set (i := 2) (v := .int .i64 ((left - n : Nat) : Int)) (left - n) off rfl (by decide)
    have p4 := p3.set (i := 3) (v := .bool false) (left - n) false rfl (by decide)
    have e1 : x.take left = x.take n := by rw [List.take_of_length_le (by omega), List.take_of_length_le (by omega)]
    have e2 : left - x.length = left - n := by omega
    have e3 : decide (left < x.length) = false := decide_eq_false (by omega)
    have e4 : decide (x.length ≤ left) = true := decide_eq_true (by omega)
    refine ⟨by rw [e4], (p1.setCell (a := ⟨b, 2, none⟩) H.out.xb _).setCell (a := ⟨b, 3, none⟩) H.out.xb _, _, _, fun k hk => ?_, by rw [e1, e2, e3]; exact p4⟩
    rcases hk with hk | hk
    · exact Or.inl hk
    · exact (R2.out.x1 k hk).1
  clear R2 H hap hsl c0 c2
  go_wp2
  go_ret
  exact ⟨_, rfl, HR.out⟩
set_option maxHeartbeats 2000000 in
theorem write_n (g o n c : Nat) (x : List UInt8) (hx : SP.PartOk W (.slice (some ⟨g, o, none⟩) n c) x) (hn : n ≤ 20000) (hB : B.length ≤ 10000000) (hle : left < n) (hleft : left ≤ 9223372036854775807) (h : PSv X W b B E lim left off v1 v2) :
    Calls Try.prog 29 #[.pointer (some ⟨b, 0, none⟩), .slice (some ⟨g, o, none⟩) n c] W (Ret (WrR X W b B E lim left v2 x)) := by
  obtain ⟨hl, hc, -, -⟩ := part_src hx
  obtain ⟨q1, c1, rfl, -⟩ := own_slice h.o1
  have c0 := h.c0
  have c2 := h.c2
  have hap := Hid.mk2 (fun W1 hb hs => app_bytes h (y := x.take left) (part_take hx (k := left) (by omega)) (by omega) W1 hb hs)
  have hsl := slB_hi g o n c left (by omega)
  have hmin : ¬ (n : Int) ≤ (left : Int) := by omega
  have hlt : (left : Int) < (n : Int) := by omega
  have hwr : IntKind.i64.wrap ((left : Int) - (left : Int)) = ((left - left : Nat) : Int) := by rw [IntKind.wrap_i64]; omega
  have H := Hid.mk2 h
  clear h hx
  go_enter Try.func29, Try.ntmps29
  go_wp2
  go_region_law (refine step_append_ex rfl (.tmp 17) (.tmp 20) 32 32 rfl (.slice q1 B.length c1) (.slice (some ⟨g, o, none⟩) left c) (by simp [Act.eval, Act.put]) (by simp [Act.eval, Act.put]) (hap.out _ ⟨rfl, rfl, rfl, Nat.le_refl _, fun _ _ => rfl⟩ rfl) ?_; intro q' n' c' W' r2; have d0 : W'.cell? ⟨b, 0, none⟩ = some (.slice q1 B.length c1) := r2.row.cell 0 _ rfl; have d2 : W'.cell? ⟨b, 2, none⟩ = some (.int .i64 (left : Int)) := r2.row.cell 2 _ rfl; have d3 : W'.cell? ⟨b, 3, none⟩ = some (.bool off) := r2.row.cell 3 _ rfl; have f0 := r2.row.free 0 (by decide : 0 < 5); have f2 := r2.row.free 2 (by decide : 2 < 5); have f3 := r2.row.free 3 (by decide : 3 < 5); have R2 := Hid.mk2 r2; clear r2)
  have HR : Hid (WrR X W b B E lim left v2 x (.bool false) (((W'.setCell ⟨b, 0, none⟩ (.slice q' n' c')).setCell ⟨b, 2, none⟩ (.int .i64 0)).setCell ⟨b, 3, none⟩ (.bool true))) := by
    obtain ⟨p1, p2⟩ := R2.out.put H.out
    have p3 := p2.set (i := 2) (v := .int .i64 0) 0 off rfl (by decide)
    have p4 := p3.set (i := 3) (v := .bool true) 0 true rfl (by decide)
    have e1 : x.take left = x.take left := rfl
    have e2 : left - x.length = 0 := by omega
    have e3 : decide (left < x.length) = true := decide_eq_true (by omega)
    have e4 : decide (x.length ≤ left) = false := decide_eq_false (by omega)
    refine ⟨by rw [e4], (p1.setCell (a := ⟨b, 2, none⟩) H.out.xb _).setCell (a := ⟨b, 3, none⟩) H.out.xb _, _, _, fun k hk => ?_, by rw [e1, e2, e3]; exact p4⟩
    rcases hk with hk | hk
    · exact Or.inl hk
    · exact (R2.out.x1 k hk).1
  clear R2 H hap hsl c0 c2
  go_wp2
  go_ret
  exact ⟨_, rfl, HR.out⟩
theorem write_c (g o n c : Nat) (x : List UInt8) (hx : SP.PartOk W (.slice (some ⟨g, o, none⟩) n c) x) (hn : n ≤ 20000) (hB : B.length ≤ 10000000) (hleft : left ≤ 9223372036854775807) (h : PSv X W b B E lim left off v1 v2) :
    Calls Try.prog 29 #[.pointer (some ⟨b, 0, none⟩), .slice (some ⟨g, o, none⟩) n c] W (Ret (WrR X W b B E lim left v2 x)) := by
  by_cases hle : n ≤ left
  · exact write_y g o n c x hx hn hB hle hleft h
  · exact write_n g o n c x hx hn hB (by omega) hleft h
end Go.Proofs.Ytfgjdidnnbjalaa
namespace Go.Proofs.Ytfgjdidnnbjalaa
open Go.RowKit Go.Sort Go.Deep
variable {X : Nat → Prop} {W : World} {b lim left : Nat} {B : List UInt8} {E : List (Nat × Nat)} {off : Bool} {v1 v2 : Value}
theorem undE : Try.prog.underlying 55 = some (.slice 63) := by kernel_rfl
theorem infoE : (Try.prog.info? 63).map (fun i => (i.size, i.bytes, i.zero.map fun z => z.cells.size)) = some (2, 16, some 2) := by kernel_rfl
/-- What is known behind the append to the records. -/
structure ExA (X : Nat → Prop) (W : World) (b : Nat) (B : List UInt8) (E : List (Nat × Nat)) (lim left : Nat) (off : Bool) (v1 v2 : Value) (p : Nat × Nat) (v' : Value) (W' : World) : Prop where
  own : W'.ownsRow 0 63 2 v' (E ++ [p]).length (exs (E ++ [p]))
  fr : FrX X W W'
  row : RowS W' b (stc v1 lim left off v2)
  o1 : W'.ownsRow 0 5 1 v1 B.length (cbs B)
  x2 : ∀ k, v'.ownBlock = some k → (X k ∨ W.heap.size ≤ k) ∧ k ≠ b ∧ v1.ownBlock ≠ some k
  lt : ∀ k, v'.ownBlock = some k → k < W'.heap.size
theorem app_ext (h : PSv X W b B E lim left off v1 v2) (p : Nat × Nat) (hE : E.length ≤ 100000) (W1 : World) (hb1 : Below W.heap.size W W1) {r : Nat} (hr0 : W1.cell? ⟨r, 0, none⟩ = some (.int .i64 (p.1 : Int))) (hr1 : W1.cell? ⟨r, 1, none⟩ = some (.int .i64 (p.2 : Int))) :
    ∃ q' n' c' W', (Builtin.append_ #[55, 55] 55 #[v2, .slice (some ⟨r, 0, none⟩) 1 1]).run Try.prog W1 = .ok (.slice q' n' c') W' ∧ ExA X W b B E lim left off v1 v2 p (.slice q' n' c') W' := by
  have h1 := h.below hb1
  obtain ⟨i, hi, he⟩ := Option.map_eq_some_iff.1 infoE
  simp only [Prod.mk.injEq] at he
  obtain ⟨e1, e2, e3⟩ := he
  obtain ⟨z, hz, hz2⟩ := Option.map_eq_some_iff.1 e3
  have hcells : ∀ j u, [Value.int .i64 (p.1 : Int), .int .i64 (p.2 : Int)][j]? = some u → W1.cell? ((⟨r, 0, none⟩ : Addr).add j) = some u := fun j u hj => by
    rw [addS0, Nat.zero_add]
    match j, hj with
    | 0, hj => obtain rfl := Option.some.inj hj; exact hr0
    | 1, hj => obtain rfl := Option.some.inj hj; exact hr1
  have hone : ∀ u ∈ [Value.int .i64 (p.1 : Int), .int .i64 (p.2 : Int)], u.oneCell' = true := fun u hu => by
    rcases List.mem_cons.1 hu with rfl | hu
    · rfl
    · rcases List.mem_cons.1 hu with rfl | hu
      · rfl
      · cases hu
  obtain ⟨v', W', r1, r2, r3, -⟩ := run_append_own (P := Try.prog) W1 0 55 55 63 i z 2 16 undE hi hz e1 e2 hz2 (by decide) v2 E.length (exs E) h1.o2 ⟨r, 0, none⟩ 1 1 _ rfl hcells hone (by unfold maxLen; omega) (by omega) (Nat.zero_le _)
  have hsrc : Src Try.prog 2 55 (.slice (some ⟨r, 0, none⟩) 1 1) 1 [Value.int .i64 (p.1 : Int), .int .i64 (p.2 : Int)] W1 := Src.ofSlice (e' := 63) _ undE ⟨r, 0, none⟩ 1 1 _ rfl hcells hone
  have hbl := own_block undE hi hz e1 (by rw [e2]; decide) h1.o2 hsrc (by omega) r1
  have hs1 := hb1.size
  have hx2 : ∀ k, v'.ownBlock = some k → (X k ∨ W.heap.size ≤ k) ∧ k ≠ b ∧ v1.ownBlock ≠ some k := fun k hk => by
    rcases hbl with e | e
    · rw [e] at hk
      exact ⟨Or.inl (h.x2 k hk).1, (h.x2 k hk).2.1, (h.x2 k hk).2.2⟩
    · rw [e] at hk
      obtain rfl := Option.some.inj hk
      refine ⟨Or.inr hs1, fun e => ?_, fun e => ?_⟩
      · have := h.ins b h.xb; omega
      · have := h.ins _ (h.x1 _ e).1; omega
  have hfr : FrX X W W' := (FrX.of hb1).grown r3 (fun k hk => Or.inl (h.x2 k hk).1)
  have hkb : ∀ k, X k → v2.ownBlock ≠ some k → W'.heap[k]? = W.heap[k]? := fun k hk hne => by
    rw [r3.block k (by have := h.ins k hk; omega) (fun e => hne e.symm)]
    exact hb1.block k (h.ins k hk)
  obtain ⟨q', c', rfl, -⟩ := own_slice r2
  refine ⟨q', _, c', W', r1, ⟨?_, hfr, h.row.at hfr.size (hkb b h.xb (fun e => (h.x2 b e).2.1 rfl)), own_at h.o1 (fun k hk => hkb k (h.x1 k hk).1 (fun e => (h.x2 k e).2.2 hk)), hx2, fun k hk => (r2.lt k hk).2⟩⟩
  rw [exs_app, List.length_append]
  exact r2
theorem ExA.put {p : Nat × Nat} {v' : Value} {W' : World} (h : PSv X W b B E lim left off v1 v2) (hA : ExA X W b B E lim left off v1 v2 p v' W') : FrX X W (W'.setCell ⟨b, 4, none⟩ v') ∧ PSv (fun k => X k ∨ v'.ownBlock = some k) (W'.setCell ⟨b, 4, none⟩ v') b B (E ++ [p]) lim left off v1 v' := by
  have hk : ∀ k, k ≠ b → (W'.setCell ⟨b, 4, none⟩ v').heap[k]? = W'.heap[k]? := fun k hk => blk_setCell_other W' ⟨b, 4, none⟩ v' k hk
  refine ⟨hA.fr.setCell (a := ⟨b, 4, none⟩) h.xb v', ⟨hA.row.set 4 v' (by decide : 4 < 5), own_at hA.o1 (fun k hk1 => hk k (h.x1 k hk1).2), own_at hA.own (fun k hk1 => hk k (hA.x2 k hk1).2.1), Or.inl h.xb, fun k hk1 => ⟨Or.inl (h.x1 k hk1).1, (h.x1 k hk1).2⟩, fun k hk1 => ⟨Or.inr hk1, (hA.x2 k hk1).2.1, (hA.x2 k hk1).2.2⟩, fun k hX => ?_⟩⟩
  rw [World.size_setCell]
  rcases hX with hX | hX
  · exact Nat.lt_of_lt_of_le (h.ins k hX) hA.fr.size
  · exact hA.lt k hX
/-- What keep does. -/
def KeepR (X : Nat → Prop) (W : World) (b : Nat) (B : List UInt8) (E : List (Nat × Nat)) (lim left : Nat) (x : List UInt8) (e : Value) (w' : World) : Prop :=
  FrX X W w' ∧ ∃ Y v1' v2', (∀ k, Y k → X k ∨ W.heap.size ≤ k) ∧ ((x.length ≤ left ∧ e = .int .i64 0 ∧ PSv Y w' b (B ++ x) (E ++ [(B.length + 4, B.length + x.length - 8)]) lim (left - x.length) false v1' v2') ∨ (left < x.length ∧ e = .int .i64 15 ∧ PSv Y w' b (B ++ x.take left) E lim (left - x.length) true v1' v2'))
set_option maxHeartbeats 2000000 in
theorem keep_c (g o n c : Nat) (x : List UInt8) (hx : SP.PartOk W (.slice (some ⟨g, o, none⟩) n c) x) (hn : n ≤ 20000) (h12 : 12 ≤ n) (hB : B.length ≤ 10000000) (hE : E.length ≤ 100000) (hleft : left ≤ 9223372036854775807) (h : PSv X W b B E lim left off v1 v2) :
    Calls Try.prog 22 #[.pointer (some ⟨b, 0, none⟩), .slice (some ⟨g, o, none⟩) n c] W (Ret (KeepR X W b B E lim left x)) := by
  have hl := (part_src hx).1
  have hw := write_c g o n c x hx hn hB hleft h
  have c0 := h.c0
  clear h hx
  by_cases hle : n ≤ left
  · have d1 : decide (x.length ≤ left) = true := decide_eq_true (by omega)
    have d2 : decide (left < x.length) = false := decide_eq_false (by omega)
    unfold WrR at hw
    rw [d1, d2, List.take_of_length_le (by omega)] at hw
    have HL := Hid.mk2 hl
    clear d1 d2 hl
    go_enter Try.func22, Try.ntmps22
    go_wp2_with fail
    refine hw.mono ?_
    rintro e w1 ⟨v, rfl, rfl, hf, Y, v1', hY, hP⟩
    obtain ⟨q1, c1, rfl, -⟩ := own_slice hP.o1
    obtain ⟨q2, c2, rfl, -⟩ := own_slice hP.o2
    have d0 := hP.c0
    have d4 := hP.c4
    obtain ⟨L, hL⟩ : ∃ L, Hid (B.length + n = L) := ⟨_, rfl⟩
    obtain ⟨F, hF⟩ : ∃ F, Hid (B.length + 4 = F) := ⟨_, rfl⟩
    obtain ⟨T, hT⟩ : ∃ T, Hid (B.length + n - 8 = T) := ⟨_, rfl⟩
    have hBl : (B ++ x).length = L := by rw [List.length_append, HL.out, hL.out]
    rw [hBl] at d0
    have k1 : IntKind.i64.wrap ((L : Int) - (n : Int)) = (B.length : Int) := by have := hL.out; rw [IntKind.wrap_i64]; omega
    have k2 : IntKind.i64.wrap ((B.length : Int) + 4) = (F : Int) := by have := hF.out; rw [IntKind.wrap_i64]; omega
    have k3 : IntKind.i64.wrap ((L : Int) - 8) = (T : Int) := by have := hT.out; have := hL.out; rw [IntKind.wrap_i64]; omega
    have K1 : Hid (FrX X W w1 ∧ (∀ k, Y k → X k ∨ W.heap.size ≤ k) ∧ PSv Y w1 b (B ++ x) E lim (left - x.length) false (.slice q1 (B ++ x).length c1) (.slice q2 E.length c2)) := ⟨hf, hY, hP⟩
    have hM := RG.Made.alloc w1 [.int .i64 (F : Int), .int .i64 (T : Int)] 63
    obtain ⟨q', n', c', W', r1, r2⟩ := app_ext hP (F, T) hE _ hM.bel (hM.range 0 _ rfl) (hM.range 1 _ rfl)
    have HAP : Hid ((Builtin.append_ #[55, 55] 55 #[.slice q2 E.length c2, .slice (some ⟨w1.heap.size, 0, none⟩) 1 1]).run Try.prog (w1.alloc (.cells #[.int .i64 (F : Int), .int .i64 (T : Int)] 63)) = .ok (.slice q' n' c') W') := r1
    have e4 : W'.cell? ⟨b, 4, none⟩ = some (.slice q2 E.length c2) := r2.row.cell 4 _ rfl
    have f4 := r2.row.free 4 (by decide : 4 < 5)
    have HR : Hid (KeepR X W b B E lim left x (.int .i64 0) (W'.setCell ⟨b, 4, none⟩ (.slice q' n' c'))) := by
      obtain ⟨p1, p2⟩ := r2.put hP
      have hYY : ∀ k, (Y k ∨ (Value.slice q' n' c').ownBlock = some k) → X k ∨ W.heap.size ≤ k := fun k hk => by
        rcases hk with hk | hk
        · exact hY k hk
        · rcases (r2.x2 k hk).1 with h | h
          · exact hY k h
          · exact Or.inr (Nat.le_trans hf.size h)
      rw [← hF.out, ← hT.out, ← HL.out] at p2
      exact ⟨hf.trans p1 hY, _, _, _, hYY, Or.inl ⟨by rw [HL.out]; exact hle, rfl, p2⟩⟩
    clear hP hf hY hM r1 r2 hw hBl K1 hL hF hT HL
    go_wp2_with (at_builtin; refine Lib.wpList_append_run _ rfl _ _ _ _ rfl _ _ rfl rfl _ _ HAP.out ?_)
    go_ret
    exact ⟨_, rfl, HR.out⟩
  · have d1 : decide (x.length ≤ left) = false := decide_eq_false (by omega)
    have d2 : decide (left < x.length) = true := decide_eq_true (by omega)
    unfold WrR at hw
    rw [d1, d2] at hw
    have HL := Hid.mk2 hl
    clear d1 d2 hl
    go_enter Try.func22, Try.ntmps22
    go_wp2_with fail
    refine hw.mono ?_
    rintro e w1 ⟨v, rfl, rfl, hf, Y, v1', hY, hP⟩
    have HR : Hid (KeepR X W b B E lim left x (.int .i64 15) w1) := ⟨hf, Y, v1', v2, hY, Or.inr ⟨by rw [HL.out]; omega, rfl, hP⟩⟩
    clear hf hY hP hw HL
    go_wp2
    go_ret
    exact ⟨_, rfl, HR.out⟩
end Go.Proofs.Ytfgjdidnnbjalaa
