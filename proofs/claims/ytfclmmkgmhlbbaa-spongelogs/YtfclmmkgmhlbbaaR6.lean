import Derived.Test.YtfclmmkgmhlbbaaO1
import Derived.Test.YtfclmmkgmhlbbaaR5
namespace Go.Proofs.Ytfclmmkgmhlbbaa
open Go.RowKit Go.Sort Go.Deep
attribute [local go_sem] bits_xor8

theorem holds_one (w : World) (x : UInt8) : Holds encB (w.alloc (.cells #[.int .u8 (ub x)] 5)) w.heap.size 0 #[x] := by
  have h := Holds.new (enc := encB) w 5 #[x]
  have e : Array.map encB #[x] = #[.int .u8 (ub x)] := by simp [encB]
  rw [e] at h
  exact h

/-- The bytes with the ending and k noughts behind them. -/
def padT (l : List UInt8) (e : UInt8) (k : Nat) : List UInt8 := l ++ e :: List.replicate k 0
theorem padT_length (l : List UInt8) (e : UInt8) (k : Nat) : (padT l e k).length = l.length + 1 + k := by
  unfold padT
  rw [List.length_append, List.length_cons, List.length_replicate]
  omega
theorem padT_next (l : List UInt8) (e : UInt8) (k : Nat) : padT l e k ++ [0] = padT l e (k + 1) := by
  unfold padT
  rw [List.append_assoc, List.cons_append, List.replicate_succ']
theorem padT_total (l : List UInt8) (e : UInt8) : (padT l e (135 - l.length % 136)).set (l.length + (135 - l.length % 136)) ((padT l e (135 - l.length % 136))[l.length + (135 - l.length % 136)]! ^^^ 128) = total l e := by
  unfold padT total tailpad
  rw [List.set_append_right _ _ (by omega), Nat.add_sub_cancel_left, list_app_back _ _ _ (by omega) (by rw [List.length_cons, List.length_replicate]; omega), Nat.add_sub_cancel_left]

theorem list_set_at (l : List UInt8) (i j : Nat) (x : UInt8) (hj : j < l.length) : (l.set i x)[j]! = if i = j then x else l[j]! := by
  rw [getElem!_pos (l.set i x) j (by rw [List.length_set]; exact hj), List.getElem_set, getElem!_pos l j hj]

theorem total_at (l : List UInt8) (e : UInt8) (cur : Bs) (L k : Nat) (hk : k = 135 - l.length % 136) (hL : L = l.length + 1 + k) (hc : L ≤ cur.size) (hT : ∀ j, j < L → cur[j]! = (padT l e k)[j]!) :
    ∀ j, j < L → (cur.setIfInBounds (L - 1) (cur[L - 1]! ^^^ 128))[j]! = (total l e)[j]! := by
  intro j hj
  have hpl := padT_length l e k
  rw [← padT_total, ← hk, list_set_at _ _ _ _ (by omega), show l.length + k = L - 1 by omega]
  by_cases h : j = L - 1
  · rw [if_pos h.symm, h, getElem!_set_same _ _ _ (by omega), hT _ (by omega)]
  · rw [if_neg (by omega), getElem!_set_other _ _ _ _ h, hT _ hj]

theorem stream_bytes (o : ByteArray) (d : St) (n m : Nat) (ho : o.size = 136 * m) (hnm : n ≤ 136 * m) (h : ∀ j, j < 136 * m → o.data[j]! = streamAt d j) : o.extract 0 n = ⟨streamL d n⟩ := by
  apply ByteArray.ext
  have hd : (o.extract 0 n).data = o.data.extract 0 n := ByteArray.data_extract
  have hs : o.data.size = 136 * m := ho
  rw [hd]
  refine bs_ext _ _ n (by rw [Array.size_extract, hs]; omega) (streamL_size _ _) (fun j hj => ?_)
  have h1 : j < (o.data.extract 0 n).size := by rw [Array.size_extract, hs]; omega
  have h2 : j < o.data.size := by omega
  have h3 := h j (by omega)
  rw [getElem!_pos o.data j h2] at h3
  rw [streamL_at _ _ _ hj, ← h3, getElem!_pos (o.data.extract 0 n) j h1, Array.getElem_extract]
  simp only [Nat.zero_add]

theorem out_next (o : ByteArray) (d : St) (m : Nat) (p : Bs) (hp : p.size = 136) (hpa : ∀ j, j < 136 → p[j]! = byteOf (permN d m) j) (ho : o.size = 136 * m) (h : ∀ j, j < 136 * m → o.data[j]! = streamAt d j) :
    (o ++ ⟨p⟩).size = 136 * (m + 1) ∧ ∀ j, j < 136 * (m + 1) → (o ++ (⟨p⟩ : ByteArray)).data[j]! = streamAt d j := by
  have hd : (o ++ (⟨p⟩ : ByteArray)).data = o.data ++ p := ByteArray.data_append
  have hs : o.data.size = 136 * m := ho
  refine ⟨?_, fun j hj => ?_⟩
  · show (o ++ (⟨p⟩ : ByteArray)).data.size = _
    rw [hd, Array.size_append, hp, hs]
    omega
  · rw [hd]
    by_cases h1 : j < 136 * m
    · have h2 : j < o.data.size := by omega
      have h3 := h j h1
      rw [getElem!_pos o.data j h2] at h3
      rw [app_front _ _ j h2, h3]
    · rw [app_back _ _ j (by omega) (by omega), hs, hpa _ (by omega)]
      unfold streamAt
      rw [show j / 136 = m by omega, show j % 136 = j - 136 * m by omega]

theorem conv200 (w : World) (p : Bs) (h : p.size = 200) :
    ∃ sc w', (convert 9 22 (.string ⟨p⟩)).run Try.prog w = .ok (.slice (some ⟨w.heap.size, 0, none⟩) 200 sc) w' ∧ 200 ≤ sc ∧ Holds encB w' w.heap.size 0 p ∧ Below w.heap.size w w' := by
  obtain ⟨v, w', hcv, own, hb, hv⟩ := conv_bytes (w := w) (B := 0) ⟨p⟩ (Nat.zero_le _)
  have hps : (ByteArray.mk p).size = 200 := h
  have hpl : (ByteArray.mk p).data.toList.length = 200 := by rw [Array.length_toList]; exact h
  rw [hv] at hcv own
  rw [hps] at hcv own
  obtain ⟨_, _, hle, hH⟩ := own.holds
  exact ⟨_, _, hcv, by omega, by simpa using hH, hb⟩

theorem front_front (d : St) : Array.size (front d 136) ≤ Array.size (front d 200) ∧ ∀ j, j < (front d 136).size → (front d 136)[j]! = (front d 200)[j]! := by
  refine ⟨by rw [front_size, front_size]; omega, fun j hj => ?_⟩
  rw [front_size] at hj
  rw [front_at _ _ _ hj, front_at _ _ _ (by omega)]

set_option maxHeartbeats 2000000 in
set_option maxRecDepth 100000 in
theorem refSponge_any (s : ByteArray) (e : UInt8) (n : Nat) (w : World) (hs : s.size ≤ 1048576) (hn : n ≤ 16384) :
    Calls Try.prog 34 #[.string s, .int .u8 (ub e), .int .i64 (n : Int)] w fun r w' => r = .returned (.string ⟨streamL (absorb s.data.toList e) n⟩) ∧ Below w.heap.size w w' := by
  obtain ⟨v0, w0, hcv, own0, hb0, hv0⟩ := conv_bytes (w := w) (B := w.heap.size) s (Nat.le_refl _)
  rw [hv0] at hcv own0
  have hsz0 : w.heap.size ≤ w0.heap.size := hb0.size
  have hX := holds_one w0 e
  have hbx : Below w0.heap.size w0 (w0.alloc (.cells #[.int .u8 (ub e)] 5)) := (Below.refl _ _).alloc (Nat.le_refl _) _
  have hl : s.data.toList.length = s.size := Array.length_toList
  obtain ⟨v1, w1, hap, own1, hb1⟩ := append_own (c := 1) (own0.below hbx) hX (by rw [World.size_alloc]; omega) (by rw [hl]; simp; omega) 1 rfl
  have hbb1 : Below w.heap.size w w1 := (hb0.trans (hbx.mono hsz0)).trans hb1
  have own1' : Own w.heap.size w1 v1 (padT s.data.toList e 0) := own1
  clear hv0 own0 hX own1 hb1 hbx
  have hmk200 : ∀ w : World, (Instr.makeSlice 22 (.int .i64 200) (.int .i64 200)).run Try.prog w = .ok (.slice (some ⟨w.heap.size, 0, none⟩) 200 200) (w.alloc (.cells (madeCells #[.int .u8 0] 200) 5)) :=
    run_make_row' (P := Try.prog) 22 5 (.int .u8 0) 1 slice22 info5 rfl .i64 .i64 200 (by omega) (by omega)
  have HM200 : Hid _ := hmk200
  clear hmk200
  go_enter Try.func34, Try.ntmps34
  go_wp2_with (at_builtin; refine Lib.wpList_append_run _ rfl _ _ 22 22 rfl _ _ rfl rfl _ _ hap ?_)
  clear hap hcv hb0
  obtain ⟨h, hh⟩ : ∃ h, s.data.toList.length % 136 = h := ⟨_, rfl⟩
  have h136 : h < 136 := by rw [← hh]; exact Nat.mod_lt _ (by decide)
  have Hh : Hid (s.data.toList.length % 136 = h) := hh
  clear hh
  go_loopg [7] (135 - h) (fun g s7 wr => ∃ k, k + g = 135 - h ∧ Own w.heap.size wr s7 (padT s.data.toList e k) ∧ Below w.heap.size w wr)
  case atStart => exact ⟨0, by omega, own1', hbb1⟩
  case round =>
    clear own1' hbb1
    obtain ⟨k, hk, own, hb⟩ := hrel
    have own' := own
    obtain ⟨g, cap, cur, rfl, hg, hgl, hcs, hlc, hH, hT⟩ := own'
    have hL := padT_length s.data.toList e k
    generalize hLL : (padT s.data.toList e k).length = L at *
    have hL' : L = s.size + 1 + k := by rw [hL, hl]
    have HL' : Hid (L = s.size + 1 + k) := hL'
    have hLb : L ≤ 1048900 := by omega
    have hL0 : 1 ≤ L := by omega
    have tm : (L : Int).tmod 136 = (L : Int) % 136 := Int.tmod_eq_emod_of_nonneg (by omega)
    by_cases hlt : k < 135 - h
    · have hb2 : ((L : Int) % 136 != 0) = true := by rw [bne_iff_ne]; have := Hh.out; rw [hl] at this; omega
      have hX := holds_one wr 0
      have hbx : Below wr.heap.size wr (wr.alloc (.cells #[.int .u8 (ub 0)] 5)) := (Below.refl _ _).alloc (Nat.le_refl _) _
      obtain ⟨v2, w2, hap, own2, hbb⟩ := append_own (c := 1) (own.below hbx) hX (by rw [World.size_alloc]; have := hb.size; omega) (by rw [hLL]; simp; omega) 1 rfl
      have own3 : Own w.heap.size w2 v2 (padT s.data.toList e (k + 1)) := by rw [← padT_next]; exact own2
      have hb3 : Below w.heap.size w w2 := (hb.trans (hbx.mono hb.size)).trans hbb
      clear hL hL' hLL own own2 hX hbb hbx hH hT
      go_wp2_with (at_builtin; refine Lib.wpList_append_run _ rfl _ _ 22 22 rfl _ _ rfl rfl _ _ hap ?_)
      go_roundg (gk - 1)
      case measure => omega
      case rel => exact ⟨k + 1, by omega, own3, hb3⟩
    · have hb2 : ((L : Int) % 136 != 0) = false := by
        rw [bne_eq_false_iff_eq]; have := Hh.out; rw [hl] at this; omega
      have hk0 : k = 135 - s.data.toList.length % 136 := by have := Hh.out; omega
      obtain ⟨x, hx⟩ : ∃ x, cur[L - 1]! = x := ⟨_, rfl⟩
      obtain ⟨c0, f0⟩ := at_byte hH (L - 1) (by omega) hx
      rw [Nat.zero_add] at c0 f0
      have hx80 := xor80 x
      have hTot := total_at s.data.toList e cur L k hk0 hL (by omega) hT
      rw [hx] at hTot
      have hH2 := Holds.set hH (i := L - 1) (by omega) (x ^^^ 128)
      rw [Nat.zero_add] at hH2
      have htl : (total s.data.toList e).length = L := by rw [total_length]; omega
      have hTA : Holds encB (wr.setCell ⟨g, L - 1, none⟩ (.int .u8 (ub (x ^^^ 128)))) g 0 (total s.data.toList e).toArray :=
        Holds.front hH2 (by rw [Array.size_setIfInBounds, List.size_toArray, htl]; omega) (fun j hj => by rw [list_arr_at]; exact (hTot j (by simpa [htl] using hj)).symm)
      have hb4 : Below w.heap.size w (wr.setCell ⟨g, L - 1, none⟩ (.int .u8 (ub (x ^^^ 128)))) := hb.setCell (p := ⟨g, L - 1, none⟩) hg _
      have hg4 : g < (wr.setCell ⟨g, L - 1, none⟩ (.int .u8 (ub (x ^^^ 128)))).heap.size := by rw [World.size_setCell]; exact hgl
      obtain ⟨M, hM⟩ : ∃ M, s.data.toList.length / 136 + 1 = M := ⟨_, rfl⟩
      have hLM : L = 136 * M := by have := Hh.out; omega
      have HLM : Hid (L = 136 * M) := hLM
      have HM : Hid (s.data.toList.length / 136 + 1 = M) := hM
      have z1 : (0 : Int) ≤ (L : Int) - 1 := by omega
      have z2 : (L : Int) - 1 < (L : Int) := by omega
      have z3 : ((L : Int) - 1).toNat = L - 1 := by omega
      have hmk := HM200.out
      clear hM hLM hTot hH2 hH hT hx hL hL' hLL own hk0
      go_wp2
      clear hmk c0 f0 hb2 tm hx80
      have hW2 : (wr.setCell ⟨g, L - 1, none⟩ (.int .u8 (ub (x ^^^ 128)))).heap.size = wr.heap.size := by rw [World.size_setCell]
      generalize wr.setCell ⟨g, L - 1, none⟩ (.int .u8 (ub (x ^^^ 128))) = W2 at hTA hb4 hg4 hW2 ⊢
      have hS0 : Holds encB (W2.alloc (.cells (madeCells #[.int .u8 0] 200) 5)) W2.heap.size 0 (refSt (total s.data.toList e) 0) := Holds.made (enc := encB) W2 5 200 0
      have hb5' : Below W2.heap.size W2 (W2.alloc (.cells (madeCells #[.int .u8 0] 200) 5)) := (Below.refl _ _).alloc (Nat.le_refl _) _
      have hs5 : W2.heap.size < (W2.alloc (.cells (madeCells #[.int .u8 0] 200) 5)).heap.size := by simp
      have hTA5 := Holds.below hTA hb5' hg4
      have hb5 := hb4.trans (hb5'.mono hb4.size)
      have hz4 := hb4.size
      rw [hW2] at hS0 hs5 hg4 hz4
      generalize hSG : wr.heap.size = SG at *
      generalize (W2.alloc _) = W3 at hS0 hb5 hs5 hTA5 ⊢
      clear hTA hb4 hb5' hSG hW2
      go_loopg [8, 9] M (fun g2 s8 s9 wr => ∃ (i sg sc : Nat), i + g2 = M ∧ s9 = .int .i64 ((136 * i : Nat) : Int) ∧ s8 = .slice (some ⟨sg, 0, none⟩) 200 sc ∧ 200 ≤ sc ∧ w.heap.size ≤ sg ∧ sg ≠ g ∧ Holds encB wr sg 0 (refSt (total s.data.toList e) i) ∧ Holds encB wr g 0 (total s.data.toList e).toArray ∧ Below w.heap.size w wr)
      case atStart => exact ⟨0, SG, 200, by omega, rfl, rfl, Nat.le_refl _, by omega, by omega, hS0, hTA5, hb5⟩
      case round =>
        clear hS0 hTA5 hb5 hs5
        obtain ⟨i, sg, sc, hi, rfl, rfl, hsc, hsg, hne, hS, hTA, hb⟩ := hrel
        have hrs : (refSt (total s.data.toList e) i).size = 200 := by
          cases i with
          | zero => rw [refSt, Array.size_replicate]
          | succ i => rw [refSt, permB, front_size]
        have hgz : g < wr.heap.size := Holds.lt hTA (by rw [List.size_toArray, htl]; omega)
        by_cases hlt : i < M
        · have hlt' : ((136 * i : Nat) : Int) < (L : Int) := by have := HLM.out; omega
          have hii : 136 * i + 136 ≤ L := by have := HLM.out; omega
          generalize hI : 136 * i = I at *
          have HI : Hid (136 * i = I) := hI
          clear hI
          go_wp2
          have hD0 : Holds encB wr sg 0 (xorB (refSt (total s.data.toList e) i) (total s.data.toList e) I 0) := hS
          generalize hR : refSt (total s.data.toList e) i = R at *
          have HR : Hid (R = refSt (total s.data.toList e) i) := hR.symm
          clear hR
          go_loopg [10] 136 (fun g3 s10 wq => ∃ (k : Nat) (st : Bs), k + g3 = 136 ∧ s10 = .int .i64 k ∧ Holds encB wq sg 0 st ∧ Only sg 0 200 wr wq ∧ Hid (st = xorB R (total s.data.toList e) I k))
          case atStart => exact ⟨0, _, rfl, rfl, hD0, Only.refl _ _ _ _, rfl⟩
          case round =>
            clear hD0
            obtain ⟨k, st, hk, rfl, hSt, hO, HE⟩ := hrel
            have hsts : st.size = 200 := by rw [HE.out, xorB_size]; exact hrs
            have hTq := Holds.other hTA hO (Ne.symm hne) (by rw [List.size_toArray, htl]; omega)
            by_cases hltk : k < 136
            · obtain ⟨y, hy⟩ : ∃ y, (total s.data.toList e)[I + k]! = y := ⟨_, rfl⟩
              obtain ⟨c0, f0⟩ := at_byte (x := y) hTq (I + k) (by rw [List.size_toArray, htl]; omega) (by rw [list_arr_at]; exact hy)
              obtain ⟨z, hz⟩ : ∃ z, st[k]! = z := ⟨_, rfl⟩
              obtain ⟨c1, f1⟩ := at_byte hSt k (by omega) hz
              rw [Nat.zero_add] at c0 c1 f1
              have HY : Hid ((total s.data.toList e)[I + k]! = y) := hy
              have HZ : Hid (st[k]! = z) := hz
              have k136 : (k : Int) < 136 := by omega
              have k200 : (k : Int) < 200 := by omega
              have ik0 : (0 : Int) ≤ (I : Int) + (k : Int) := by omega
              have ik1 : (I : Int) + (k : Int) < (L : Int) := by omega
              have ik2 : ((I : Int) + (k : Int)).toNat = I + k := by omega
              have ik3 : IntKind.i64.wrap ((I : Int) + (k : Int)) = (I : Int) + (k : Int) := IntWalk.i64_in _ (by omega)
              clear hy hz f0 hTq
              go_wp2_with fail
              go_still_tail 14, mixed
              go_wp2
              go_roundg (gk - 1)
              case measure => omega
              case rel =>
                refine ⟨k + 1, st.setIfInBounds k (z ^^^ y), by omega, by go_num, ?_, ?_, ?_⟩
                · have := Holds.set hSt (i := k) (by omega) (z ^^^ y)
                  rw [Nat.zero_add] at this
                  exact Holds.drew this
                · exact (hO.setCell (o := k) (by omega) (by omega) _).drew
                · show _ = (xorB R (total s.data.toList e) I k).setIfInBounds k ((xorB R (total s.data.toList e) I k)[k]! ^^^ (total s.data.toList e)[I + k]!)
                  rw [← HE.out, HZ.out, HY.out]
            · have hk136 : k = 136 := by omega
              subst hk136
              have hgz2 := Holds.lt hSt (by omega)
              have kc := conv_str Try.prog 22 9 5 slice22 int5 str9 _ sg 0 200 sc st hSt hsts
              have hbq := hb.trans (hO.below hb.size hsg)
              obtain ⟨PB, hPB⟩ : ∃ x, permB st = x := ⟨_, rfl⟩
              have hps : PB.size = 200 := by rw [← hPB, permB, front_size]
              have HE2 : Hid (PB = refSt (total s.data.toList e) (i + 1)) := by
                show PB = permB (xorB (refSt (total s.data.toList e) i) (total s.data.toList e) (136 * i) 136)
                rw [← HR.out, HI.out, ← HE.out, hPB]
              have HPB : Hid (PB = permB st) := hPB.symm
              clear hPB HE
              go_wp2_with fail
              refine (refPermute_any ⟨st⟩ _ hsts).mono ?_
              rintro r w5 ⟨rfl, hb5⟩
              have e5 : (ByteArray.mk (permB (ByteArray.mk st).data)) = ByteArray.mk PB := congrArg ByteArray.mk HPB.out.symm
              rw [e5]
              clear e5
              obtain ⟨sc6, w6, hcv6, hle6, hH6, hb6⟩ := conv200 w5 PB hps
              have hgq := Holds.lt hTq (by rw [List.size_toArray, htl]; omega)
              have hg5 : g < w5.heap.size := Nat.lt_of_lt_of_le hgq hb5.size
              have hT6 := Holds.below (Holds.below hTq hb5 hgq) hb6 hg5
              have hb8 : Below w.heap.size w w6 := (hbq.trans (hb5.mono hbq.size)).trans (hb6.mono (by have := hb5.size; have := hbq.size; omega))
              rw [HE2.out] at hH6
              have hz5 : w.heap.size ≤ w5.heap.size := by have := hb5.size; have := hbq.size; omega
              go_wp2
              go_roundg (M - (i + 1))
              case measure => omega
              case rel => exact ⟨i + 1, w5.heap.size, sc6, by omega, by rw [← HI.out]; go_num, rfl, hle6, hz5, by omega, hH6, hT6, hb8⟩
        · have hiM : i = M := by omega
          have hge : (L : Int) ≤ ((136 * i : Nat) : Int) := by have := HLM.out; omega
          obtain ⟨d, hd⟩ : ∃ d, absorb s.data.toList e = d := ⟨_, rfl⟩
          obtain ⟨F, hF⟩ : ∃ F, front (permN d 0) 200 = F := ⟨_, rfl⟩
          have hSf : Holds encB wr sg 0 F := by
            have := refSt_total s.data.toList e
            rw [HM.out, ← hiM, hd] at this
            rw [this] at hS
            rw [← hF, permN]
            exact hS
          have hab : d.size = 25 := by rw [← hd]; exact absorb_size s.data.toList e
          have HDD : Hid (d = absorb s.data.toList e) := hd.symm
          have HFF : Hid (F = front (permN d 0) 200) := hF.symm
          clear hS hrs hTA hgz hiM hlt hi hd hF
          generalize hI : 136 * i = I at *
          clear hI
          have hdec : decide ((I : Int) < (L : Int)) = false := decide_eq_false (by omega)
          have hdec2 : decide (I < L) = false := decide_eq_false (by omega)
          go_wp2
          go_loopg [8, 11] (n + 136) (fun g4 s8 s11 wq => ∃ (m sg sc : Nat) (o : ByteArray) (Fm : Bs), 136 * m + g4 = n + 136 ∧ 1 ≤ g4 ∧ s11 = .string o ∧ o.size = 136 * m ∧ s8 = .slice (some ⟨sg, 0, none⟩) 200 sc ∧ 200 ≤ sc ∧ Holds encB wq sg 0 Fm ∧ Fm.size = 200 ∧ Below w.heap.size w wq ∧ Hid (Fm = front (permN d m) 200) ∧ Hid (∀ j, j < 136 * m → o.data[j]! = streamAt d j))
          case atStart => exact ⟨0, sg, sc, ByteArray.empty, F, by omega, by omega, rfl, rfl, rfl, hsc, hSf, by rw [HFF.out, front_size], hb, HFF, fun j hj => by omega⟩
          case round =>
            clear hSf HFF hsc
            obtain ⟨m, sg, sc, o, Fm, hg4, hg41, rfl, ho, rfl, hsc, hF, hFs, hb, HF, HO⟩ := hrel
            have Ho : Hid (o.size = 136 * m) := ho
            have hob : o.size ≤ n + 136 := by omega
            by_cases hlt : o.size < n
            · have hlt' : (o.size : Int) < (n : Int) := by omega
              obtain ⟨Q, hQ⟩ : ∃ Q, front (permN d m) 136 = Q := ⟨_, rfl⟩
              have hQs : Q.size = 136 := by rw [← hQ, front_size]
              have hQa : ∀ j, j < 136 → Q[j]! = byteOf (permN d m) j := fun j hj => by rw [← hQ, front_at _ _ _ hj]
              have hHQ : Holds encB wr sg 0 Q := by
                have h1 := front_front (permN d m)
                rw [← HF.out, hQ] at h1
                exact Holds.front hF h1.1 h1.2
              have hnx := out_next o d m Q hQs hQa ho HO
              have HNX : Hid ((o ++ ⟨Q⟩).size = 136 * (m + 1) ∧ ∀ j, j < 136 * (m + 1) → (o ++ (⟨Q⟩ : ByteArray)).data[j]! = streamAt d j) := hnx
              obtain ⟨PB, hPB⟩ : ∃ x, permB Fm = x := ⟨_, rfl⟩
              have hps : PB.size = 200 := by rw [← hPB, permB, front_size]
              have HN : Hid (PB = front (permN d (m + 1)) 200) := by
                show PB = front (perm (permN d m)) 200
                rw [← hPB, HF.out, permB_front _ (permN_size d hab m)]
              have HPB : Hid (PB = permB Fm) := hPB.symm
              have kc1 := conv_str Try.prog 22 9 5 slice22 int5 str9 wr sg 0 136 sc Q hHQ hQs
              have kc2 := conv_str Try.prog 22 9 5 slice22 int5 str9 wr sg 0 200 sc Fm hF hFs
              have hsc0 : (sc = 0) = False := eq_false (by omega)
              have hsc1 : (136 : Int) ≤ (sc : Int) := by omega
              clear hQ hQa hHQ hnx hPB HO ho
              go_wp2_with fail
              refine (refPermute_any ⟨Fm⟩ _ hFs).mono ?_
              rintro r w5 ⟨rfl, hb5⟩
              have e5 : (ByteArray.mk (permB (ByteArray.mk Fm).data)) = ByteArray.mk PB := congrArg ByteArray.mk HPB.out.symm
              rw [e5]
              clear e5
              obtain ⟨sc6, w6, hcv6, hle6, hH6, hb6⟩ := conv200 w5 PB hps
              have hb8 : Below w.heap.size w w6 := (hb.trans (hb5.mono hb.size)).trans (hb6.mono (by have := hb5.size; have := hb.size; omega))
              go_wp2
              go_roundg (gk - 136)
              case measure => have := Ho.out; omega
              case rel => exact ⟨m + 1, w5.heap.size, sc6, o ++ (ByteArray.mk Q), PB, by have := Ho.out; omega, by have := Ho.out; omega, rfl, HNX.out.1, rfl, hle6, hH6, hps, hb8, HN, HNX.out.2⟩
            · have hge : (n : Int) ≤ (o.size : Int) := by omega
              have hex := stream_bytes o d n m ho (by omega) HO
              have HEX : Hid (o.extract 0 n = ⟨streamL d n⟩) := hex
              clear hex ho HO
              go_wp2
              go_ret
              rw [← HDD.out, ← HEX.out]
              exact ⟨rfl, hb⟩
end Go.Proofs.Ytfclmmkgmhlbbaa
