import Derived.LoopN
import Derived.Deep.CutRange
import Derived.Deep.DeepCutAuto
import Derived.Deep.RegionHeld3
import Derived.Deep.LoopGhost
import Derived.Laws.BitsLemmas
import Derived.Laws.Tables
import Derived.Laws.MakeOwn
import Derived.Test.YtbimbalfdmffaabLs1
set_option linter.unusedVariables false
set_option linter.unusedSimpArgs false
namespace Go.Proofs.Ytbimbalfdmffaab
open Go.RowKit Go.Sort Go.Deep

/-- A number out of bytes, the highest first. -/
def beV (l : List UInt8) : Nat := l.foldl (fun n b => 256 * n + b.toNat) 0

theorem foldl_from (l : List UInt8) : ∀ n, l.foldl (fun n b => 256 * n + b.toNat) n = n * 256 ^ l.length + beV l := by
  induction l with
  | nil => intro n; simp [beV]
  | cons x r ih =>
    intro n
    have h1 := ih (256 * n + x.toNat)
    have h2 := ih (256 * 0 + x.toNat)
    simp only [List.foldl_cons, List.length_cons, beV] at *
    rw [h1, h2, Nat.pow_succ, Nat.add_mul, Nat.mul_zero, Nat.zero_add, Nat.mul_comm 256 n, Nat.mul_assoc, Nat.mul_comm 256]
    omega
theorem beV_append (l r : List UInt8) : beV (l ++ r) = beV l * 256 ^ r.length + beV r := by
  rw [beV, List.foldl_append, foldl_from]; rfl
theorem beV_zeros (n : Nat) (l : List UInt8) : beV (List.replicate n 0 ++ l) = beV l := by
  rw [beV_append]
  have : beV (List.replicate n 0) = 0 := by
    induction n with
    | zero => rfl
    | succ k ih => rw [List.replicate_succ', beV_append, ih]; rfl
  rw [this, Nat.zero_mul, Nat.zero_add]

set_option maxHeartbeats 2000000 in
theorem beV_32 (x0 x1 x2 x3 x4 x5 x6 x7 x8 x9 x10 x11 x12 x13 x14 x15 x16 x17 x18 x19 x20 x21 x22 x23 x24 x25 x26 x27 x28 x29 x30 x31 : UInt8) :
    beV [x0, x1, x2, x3, x4, x5, x6, x7, x8, x9, x10, x11, x12, x13, x14, x15, x16, x17, x18, x19, x20, x21, x22, x23, x24, x25, x26, x27, x28, x29, x30, x31]
      = val (w8 x24 x25 x26 x27 x28 x29 x30 x31) (w8 x16 x17 x18 x19 x20 x21 x22 x23) (w8 x8 x9 x10 x11 x12 x13 x14 x15) (w8 x0 x1 x2 x3 x4 x5 x6 x7) := by
  simp only [beV, List.foldl_cons, List.foldl_nil, w8, val]
  omega

theorem beV_words (bs : Bs) (h : bs.size = 32) : beV bs.toList = val (w8 bs[24]! bs[25]! bs[26]! bs[27]! bs[28]! bs[29]! bs[30]! bs[31]!) (w8 bs[16]! bs[17]! bs[18]! bs[19]! bs[20]! bs[21]! bs[22]! bs[23]!)
    (w8 bs[8]! bs[9]! bs[10]! bs[11]! bs[12]! bs[13]! bs[14]! bs[15]!) (w8 bs[0]! bs[1]! bs[2]! bs[3]! bs[4]! bs[5]! bs[6]! bs[7]!) := by
  obtain ⟨l⟩ := bs
  match l, h with
  | [x0, x1, x2, x3, x4, x5, x6, x7, x8, x9, x10, x11, x12, x13, x14, x15, x16, x17, x18, x19, x20, x21, x22, x23, x24, x25, x26, x27, x28, x29, x30, x31], _ => exact beV_32 x0 x1 x2 x3 x4 x5 x6 x7 x8 x9 x10 x11 x12 x13 x14 x15 x16 x17 x18 x19 x20 x21 x22 x23 x24 x25 x26 x27 x28 x29 x30 x31

theorem zero32 : ∀ w : World, (zeroValue 150).run Try.prog w = .ok (.agg (Array.replicate 32 (.int .u8 0))) w := fun _ => by kernel_rfl
theorem ints5 : (Try.prog.info? 5).map (·.size) = some 1 := by kernel_rfl

/-- What lies in the array behind the copy: 0 and then the bytes. -/
def padded (n : Nat) (bs : Bs) : Bs := Array.replicate (32 - n) 0 ++ bs

theorem padded_size (n : Nat) (bs : Bs) (hs : bs.size = n) (hn : n ≤ 32) : (padded n bs).size = 32 := by
  unfold padded
  rw [Array.size_append, Array.size_replicate]
  omega
theorem padded_val (n : Nat) (bs : Bs) : beV (padded n bs).toList = beV bs.toList := by
  unfold padded
  rw [Array.toList_append, Array.toList_replicate, beV_zeros]

theorem copy_in {w : World} {b g o n cap : Nat} {bs : Bs} (hZ : Holds encB w b 0 (Array.replicate 32 0)) (hn : n ≤ 32) (hB : Holds encB w g o bs) (hs : bs.size = n) :
    (Builtin.copy_ #[23, 23] 3 #[.slice (some ⟨b, 32 - n, none⟩) n n, .slice (some ⟨g, o, none⟩) n cap]).run Try.prog w = .ok (goInt n) (w.setCells b (32 - n) (bs.toList.map encB))
      ∧ Holds encB (w.setCells b (32 - n) (bs.toList.map encB)) b 0 (padded n bs) := by
  have hlen : (bs.toList.map encB).length = n := by rw [List.length_map, Array.length_toList, hs]
  refine ⟨?_, ?_⟩
  · have := run_copy_cells (P := Try.prog) w 23 23 3 5 b (32 - n) n n ⟨g, o, none⟩ n cap (bs.toList.map encB) slice22 ints5 (by rw [hlen]; exact (Nat.min_self n).symm)
      (fun j u hj => by
        obtain ⟨h1, h2⟩ := List.getElem?_eq_some_iff.1 hj
        rw [hlen] at h1
        have hc := (hB j (by omega)).1
        rw [getElem!_pos bs j (by omega)] at hc
        rw [List.getElem_map, Array.getElem_toList] at h2
        have e1 : (⟨g, o, none⟩ : Addr).add j = ⟨g, o + j, none⟩ := by
          unfold Addr.add
          by_cases h0 : j = 0
          · subst h0; rw [if_pos rfl]; rfl
          · rw [if_neg h0]
        rw [e1, hc, h2])
      (fun j hj => by
        have := (hZ (32 - n + j) (by rw [Array.size_replicate]; omega)).1
        rw [Nat.zero_add] at this
        rw [this]; rfl)
      (fun j hj => by
        have := (hZ (32 - n + j) (by rw [Array.size_replicate]; omega)).2
        rwa [Nat.zero_add] at this)
      (fun u hu => by obtain ⟨x, _, rfl⟩ := List.mem_map.1 hu; rfl)
    rw [hlen] at this
    exact this
  · have := Holds.setCells (r := padded n bs) hZ (bs.toList.map encB) (32 - n) (by rw [padded_size n bs hs hn, Array.size_replicate]) (by rw [hlen, Array.size_replicate]; omega) (fun j hj => ?_) (fun j h1 h2 => ?_)
    · rw [Nat.zero_add] at this
      exact this
    · rw [hlen] at hj
      rw [List.getElem_map, Array.getElem_toList]
      unfold padded
      rw [app_back _ _ _ (by rw [Array.size_replicate]; omega) (by rw [Array.size_replicate]; omega), Array.size_replicate, show 32 - n + j - (32 - n) = j by omega, getElem!_pos bs j (by omega)]
    · rw [Array.size_replicate] at h1
      rw [hlen] at h2
      unfold padded
      rw [app_front _ _ j (by rw [Array.size_replicate]; omega), Array.getElem_replicate, rep_at 32 j h1]

theorem part8 {w : World} {g : Nat} {T : Bs} (p : Nat) (h : Holds encB w g 0 T) (hp : p + 8 ≤ T.size) : Holds encB w g p #[T[p]!, T[p + 1]!, T[p + 2]!, T[p + 3]!, T[p + 4]!, T[p + 5]!, T[p + 6]!, T[p + 7]!] := by
  have := Holds.part (p := p) (e := #[T[p]!, T[p + 1]!, T[p + 2]!, T[p + 3]!, T[p + 4]!, T[p + 5]!, T[p + 6]!, T[p + 7]!]) h (by simpa using hp) (fun j hj => by
    have : j < 8 := by simpa using hj
    match j, this with
    | 0, _ => rfl
    | 1, _ => rfl
    | 2, _ => rfl
    | 3, _ => rfl
    | 4, _ => rfl
    | 5, _ => rfl
    | 6, _ => rfl
    | 7, _ => rfl)
  rwa [Nat.zero_add] at this

theorem word_any8 (g o n cap : Nat) (b0 b1 b2 b3 b4 b5 b6 b7 : UInt8) (w : World) (hn : 8 ≤ n) (hc : n ≤ cap) (hcap : cap ≤ 1048576) (hB : Holds encB w g o #[b0, b1, b2, b3, b4, b5, b6, b7]) :
    Calls Try.prog 113 #[.slice (some ⟨g, o, none⟩) n cap] w fun e w' => e = .returned (.int .u64 ((w8 b0 b1 b2 b3 b4 b5 b6 b7 : Nat) : Int)) ∧ ∃ n, w' = w.drewN n :=
  word_any g o n cap #[b0, b1, b2, b3, b4, b5, b6, b7] w hn hc hcap (Nat.le_refl 8) hB

theorem Holds.far {w : World} {g o j i : Nat} {bs : Bs} (h : Holds encB w g o bs) (hj : j ≠ g) (v : Value) : Holds encB (w.setCell ⟨j, i, none⟩ v) g o bs := by
  intro l hl
  rw [World.cell?_setCell_other _ _ _ _ (ne_addr (Or.inl hj)), World.frozen?_setCell]
  exact h l hl

set_option maxHeartbeats 4000000 in
set_option maxRecDepth 100000 in
theorem fromBytes_any (pa : Option Addr) (g o n cap : Nat) (bs : Bs) (w : World) (hn : n ≤ 32) (hc : n ≤ cap) (hs : bs.size = n) (hB : n = 0 ∨ (pa = some ⟨g, o, none⟩ ∧ Holds encB w g o bs)) :
    Calls Try.prog 98 #[.slice pa n cap] w (Ret fun e w' => Below w.heap.size w w' ∧ Four e (beV bs.toList)) := by
  have hps := padded_size n bs hs hn
  have HV : Hid (beV bs.toList = _) := (padded_val n bs).symm.trans (beV_words _ hps)
  generalize beV bs.toList = V at HV ⊢
  have zv := zero32
  have hn' : (n : Int) ≤ 32 := by omega
  have d0 : (0 : Int) ≤ 32 - (n : Int) := by omega
  have d1 : (32 : Int) - (n : Int) ≤ 32 := by omega
  have d2 : ((32 : Int) - (n : Int)).toNat = 32 - n := by omega
  go_enter Try.func98, Try.ntmps98
  go_upto_region 2 with fail
  have R := (At4.made w 85 0 0 0 0 rfl).alloc (.cells (Array.replicate 32 (.int .u8 0)) 150)
  have Z : Holds encB ((w.alloc (.cells #[.int .u64 0, .int .u64 0, .int .u64 0, .int .u64 0] 85)).alloc (.cells (Array.replicate 32 (.int .u8 0)) 150)) (w.heap.size + 1) 0 (Array.replicate 32 0) := by
    have := Holds.new (enc := encB) (w.alloc (.cells #[.int .u64 0, .int .u64 0, .int .u64 0, .int .u64 0] 85)) 150 (Array.replicate 32 0)
    rw [Array.map_replicate, World.size_alloc] at this
    exact this
  have BL := below2 w (.cells #[.int .u64 0, .int .u64 0, .int .u64 0, .int .u64 0] 85) (.cells (Array.replicate 32 (.int .u8 0)) 150)
  simp only [Int.natCast_zero] at R
  have hB' : n = 0 ∨ (pa = some ⟨g, o, none⟩ ∧ Holds encB ((w.alloc (.cells #[.int .u64 0, .int .u64 0, .int .u64 0, .int .u64 0] 85)).alloc (.cells (Array.replicate 32 (.int .u8 0)) 150)) g o bs) := by
    rcases hB with h | ⟨h1, h2⟩
    · exact Or.inl h
    · by_cases h0 : n = 0
      · exact Or.inl h0
      · exact Or.inr ⟨h1, Holds.below h2 BL (Holds.lt h2 (by omega))⟩
  clear hB
  generalize World.alloc _ _ = W0 at R Z BL hB' ⊢
  go_cut [] (fun wx => Holds encB wx (w.heap.size + 1) 0 (padded n bs) ∧ At4 wx w.heap.size 0 0 0 0 ∧ Below w.heap.size w wx)
  case first =>
    by_cases h0 : n = 0
    · subst h0
      have hcp : ∀ w d dl dc, (Builtin.copy_ #[23, 23] 3 #[.slice d dl dc, .slice pa 0 cap]).run Try.prog w = .ok (goInt 0) w := fun w d dl dc => run_copy_none w 23 23 3 5 d pa dl dc 0 cap slice22 ints5 (by simp)
      have hp : padded 0 bs = Array.replicate 32 0 := by
        have : bs = #[] := Array.eq_empty_of_size_eq_zero hs
        rw [this]; rfl
      go_wp2
      go_meet
      exact ⟨by rw [hp]; exact Z, R, BL⟩
    · obtain ⟨rfl, hB⟩ : pa = some ⟨g, o, none⟩ ∧ Holds encB W0 g o bs := hB'.resolve_left h0
      obtain ⟨hcp, hH⟩ := copy_in (cap := cap) Z hn hB hs
      have e3 : ¬ (32 = 32 - n) := by omega
      have e4 : 32 - (32 - n) = n := by omega
      have R' : At4 (W0.setCells (w.heap.size + 1) (32 - n) (bs.toList.map encB)) w.heap.size 0 0 0 0 := by
        have hb := heap_setCells (w.heap.size + 1) (k := w.heap.size) (by omega) (bs.toList.map encB) (32 - n) W0
        exact ⟨by rw [← R.c0]; exact World.cell?_of_block hb, by rw [← R.c1]; exact World.cell?_of_block hb, by rw [← R.c2]; exact World.cell?_of_block hb, by rw [← R.c3]; exact World.cell?_of_block hb, fun o => by rw [← R.f o]; exact World.frozen?_of_block hb⟩
      have BL' : Below w.heap.size w (W0.setCells (w.heap.size + 1) (32 - n) (bs.toList.map encB)) := below_setCells (Nat.le_succ _) _ _ _ BL
      have HF : Hid (_ ∧ _ ∧ _) := ⟨hH, R', BL'⟩
      clear hH R' BL' hB hB' Z R
      go_wp2
      go_meet
      exact HF.out
  case rest =>
    obtain ⟨Z', R', BL'⟩ := hcut
    generalize padded n bs = T at Z' hps HV ⊢
    clear hB' Z R BL zv d0 d1 d2 hn'
    have p3 : Holds encB wc (w.heap.size + 1) 24 #[T[24]!, T[25]!, T[26]!, T[27]!, T[28]!, T[29]!, T[30]!, T[31]!] := part8 24 Z' (by omega)
    have p2 : Holds encB wc (w.heap.size + 1) 16 #[T[16]!, T[17]!, T[18]!, T[19]!, T[20]!, T[21]!, T[22]!, T[23]!] := part8 16 Z' (by omega)
    have p1 : Holds encB wc (w.heap.size + 1) 8 #[T[8]!, T[9]!, T[10]!, T[11]!, T[12]!, T[13]!, T[14]!, T[15]!] := part8 8 Z' (by omega)
    have p0 : Holds encB wc (w.heap.size + 1) 0 #[T[0]!, T[1]!, T[2]!, T[3]!, T[4]!, T[5]!, T[6]!, T[7]!] := part8 0 Z' (by omega)
    have zk := R'.lt
    have zk1 : w.heap.size + 1 < wc.heap.size := Holds.lt Z' (by omega)
    clear Z' hps
    generalize hW3 : w8 T[24]! T[25]! T[26]! T[27]! T[28]! T[29]! T[30]! T[31]! = W3 at HV
    generalize hW2 : w8 T[16]! T[17]! T[18]! T[19]! T[20]! T[21]! T[22]! T[23]! = W2 at HV
    generalize hW1 : w8 T[8]! T[9]! T[10]! T[11]! T[12]! T[13]! T[14]! T[15]! = W1 at HV
    generalize hW0 : w8 T[0]! T[1]! T[2]! T[3]! T[4]! T[5]! T[6]! T[7]! = W0' at HV
    have l3 : W3 < 18446744073709551616 := hW3 ▸ w8_lt _ _ _ _ _ _ _ _
    have l2 : W2 < 18446744073709551616 := hW2 ▸ w8_lt _ _ _ _ _ _ _ _
    have l1 : W1 < 18446744073709551616 := hW1 ▸ w8_lt _ _ _ _ _ _ _ _
    have l0 : W0' < 18446744073709551616 := hW0 ▸ w8_lt _ _ _ _ _ _ _ _
    go_wp2
    have N := At4.made wc 85 0 0 0 0 rfl
    simp only [Int.natCast_zero] at N
    replace p3 := Holds.below p3 (below1 wc (.cells #[.int .u64 0, .int .u64 0, .int .u64 0, .int .u64 0] 85)) zk1
    replace p2 := Holds.below p2 (below1 wc (.cells #[.int .u64 0, .int .u64 0, .int .u64 0, .int .u64 0] 85)) zk1
    replace p1 := Holds.below p1 (below1 wc (.cells #[.int .u64 0, .int .u64 0, .int .u64 0, .int .u64 0] 85)) zk1
    replace p0 := Holds.below p0 (below1 wc (.cells #[.int .u64 0, .int .u64 0, .int .u64 0, .int .u64 0] 85)) zk1
    have BL : Hid (Below w.heap.size w _) := BL'.alloc (Nat.le_of_lt zk) (.cells #[.int .u64 0, .int .u64 0, .int .u64 0, .int .u64 0] 85)
    replace R' := R'.alloc (.cells #[.int .u64 0, .int .u64 0, .int .u64 0, .int .u64 0] 85)
    generalize World.alloc _ _ = V0 at N p3 p2 p1 p0 BL R' ⊢
    have n0 : w.heap.size ≠ wc.heap.size := by omega
    have n1 : w.heap.size + 1 ≠ wc.heap.size := by omega
    have Q : Hid (w.heap.size ≤ wc.heap.size) := by unfold Hid; omega
    generalize wc.heap.size = k2 at N n0 n1 Q ⊢
    clear zk zk1 BL'
    generalize h1 : w.heap.size + 1 = k1 at p3 p2 p1 p0 n1 ⊢
    clear h1
    generalize h0 : w.heap.size = k0 at R' n0 BL Q ⊢
    have H0 : Hid (w.heap.size = k0) := h0
    clear h0
    refine wp_loop_rounds 5 ?_
    obtain ⟨nc0, nc1, nc2, nc3, nf⟩ := id N
    have zn := N.lt
    rw [rounds_succ]; go_wp2_with fail
    refine (word_any8 k1 24 8 8 _ _ _ _ _ _ _ _ _ (by decide) (by decide) (by decide) p3).mono ?_
    rintro e w1 ⟨rfl, q0, rfl⟩
    rw [hW3]
    clear nc0 nc1 nc2 nc3 nf zn p3 hW3
    replace N := N.drewN q0
    obtain ⟨nc0, nc1, nc2, nc3, nf⟩ := id N
    have zn := N.lt
    go_wp2_with fail
    clear nc0 nc1 nc2 nc3 nf zn
    replace N := N.set0 W3
    replace R' := (R'.drewN q0).other (o := 0) n0.symm (.int .u64 (W3 : Int))
    replace BL : Hid (Below k0 w _) := (belowDrewN BL.out q0).setCell (p := ⟨k2, 0, none⟩) Q.out (.int .u64 (W3 : Int))
    replace p2 := Holds.far (Holds.drewN p2 q0) (i := 0) n1.symm (.int .u64 (W3 : Int))
    replace p1 := Holds.far (Holds.drewN p1 q0) (i := 0) n1.symm (.int .u64 (W3 : Int))
    replace p0 := Holds.far (Holds.drewN p0 q0) (i := 0) n1.symm (.int .u64 (W3 : Int))
    generalize World.setCell _ _ _ = V1 at N R' BL p2 p1 p0 ⊢
    obtain ⟨nc0, nc1, nc2, nc3, nf⟩ := id N
    have zn := N.lt
    rw [rounds_succ]; go_wp2_with fail
    refine (word_any8 k1 16 16 16 _ _ _ _ _ _ _ _ _ (by decide) (by decide) (by decide) p2).mono ?_
    rintro e w1 ⟨rfl, q1, rfl⟩
    rw [hW2]
    clear nc0 nc1 nc2 nc3 nf zn p2 hW2
    replace N := N.drewN q1
    obtain ⟨nc0, nc1, nc2, nc3, nf⟩ := id N
    have zn := N.lt
    go_wp2_with fail
    clear nc0 nc1 nc2 nc3 nf zn
    replace N := N.set1 W2
    replace R' := (R'.drewN q1).other (o := 1) n0.symm (.int .u64 (W2 : Int))
    replace BL : Hid (Below k0 w _) := (belowDrewN BL.out q1).setCell (p := ⟨k2, 1, none⟩) Q.out (.int .u64 (W2 : Int))
    replace p1 := Holds.far (Holds.drewN p1 q1) (i := 1) n1.symm (.int .u64 (W2 : Int))
    replace p0 := Holds.far (Holds.drewN p0 q1) (i := 1) n1.symm (.int .u64 (W2 : Int))
    generalize World.setCell _ _ _ = V2 at N R' BL p1 p0 ⊢
    obtain ⟨nc0, nc1, nc2, nc3, nf⟩ := id N
    have zn := N.lt
    rw [rounds_succ]; go_wp2_with fail
    refine (word_any8 k1 8 24 24 _ _ _ _ _ _ _ _ _ (by decide) (by decide) (by decide) p1).mono ?_
    rintro e w1 ⟨rfl, q2, rfl⟩
    rw [hW1]
    clear nc0 nc1 nc2 nc3 nf zn p1 hW1
    replace N := N.drewN q2
    obtain ⟨nc0, nc1, nc2, nc3, nf⟩ := id N
    have zn := N.lt
    go_wp2_with fail
    clear nc0 nc1 nc2 nc3 nf zn
    replace N := N.set2 W1
    replace R' := (R'.drewN q2).other (o := 2) n0.symm (.int .u64 (W1 : Int))
    replace BL : Hid (Below k0 w _) := (belowDrewN BL.out q2).setCell (p := ⟨k2, 2, none⟩) Q.out (.int .u64 (W1 : Int))
    replace p0 := Holds.far (Holds.drewN p0 q2) (i := 2) n1.symm (.int .u64 (W1 : Int))
    generalize World.setCell _ _ _ = V3 at N R' BL p0 ⊢
    obtain ⟨nc0, nc1, nc2, nc3, nf⟩ := id N
    have zn := N.lt
    rw [rounds_succ]; go_wp2_with fail
    refine (word_any8 k1 0 32 32 _ _ _ _ _ _ _ _ _ (by decide) (by decide) (by decide) p0).mono ?_
    rintro e w1 ⟨rfl, q3, rfl⟩
    rw [hW0]
    clear nc0 nc1 nc2 nc3 nf zn p0 hW0
    replace N := N.drewN q3
    obtain ⟨nc0, nc1, nc2, nc3, nf⟩ := id N
    have zn := N.lt
    go_wp2_with fail
    clear nc0 nc1 nc2 nc3 nf zn
    replace N := N.set3 W0'
    replace R' := (R'.drewN q3).other (o := 3) n0.symm (.int .u64 (W0' : Int))
    replace BL : Hid (Below k0 w _) := (belowDrewN BL.out q3).setCell (p := ⟨k2, 3, none⟩) Q.out (.int .u64 (W0' : Int))
    generalize World.setCell _ _ _ = V4 at N R' BL  ⊢
    obtain ⟨nc0, nc1, nc2, nc3, nf⟩ := id N
    have zn := N.lt
    obtain ⟨rc0, rc1, rc2, rc3, rf⟩ := id R'
    have zr := R'.lt
    rw [rounds_succ]; go_wp2
    have RF := R'.self4 W3 W2 W1 W0'
    unfold set4 at RF
    refine bodyPost_ret (v := ?v) ?hr rfl ?hR
    case hr => simp [results, Try.results98, go_sem, RF.c0, RF.c1, RF.c2, RF.c3]; rfl
    refine ⟨_, rfl, ?_, Four.mk l3 l2 l1 l0 HV.out⟩
    rw [H0.out]
    exact below_set4 BL.out (Nat.le_refl _) _ _ _ _
end Go.Proofs.Ytbimbalfdmffaab
namespace Go.Proofs.Ytbimbalfdmffaab
open Go.RowKit Go.Sort Go.Deep

theorem readS_of {w W : World} {k0 k1 k6 a b c d g0 g1 g2 : Nat} (h : Kept w k0 [⟨k6, 0, a, b, c, d⟩, ⟨k0, 0, g0, g1, g2, 0⟩, ⟨k1, 0, 0, 0, 0, 0⟩] W) : W.cell? ⟨k6, 0, none⟩ = some (.int .u64 (a : Int)) ∧ W.cell? ⟨k6, 1, none⟩ = some (.int .u64 (b : Int)) ∧ W.cell? ⟨k6, 2, none⟩ = some (.int .u64 (c : Int)) ∧ W.cell? ⟨k6, 3, none⟩ = some (.int .u64 (d : Int)) ∧ W.cell? ⟨k0, 0, none⟩ = some (.int .u64 (g0 : Int)) ∧ W.cell? ⟨k0, 1, none⟩ = some (.int .u64 (g1 : Int)) ∧ W.cell? ⟨k0, 2, none⟩ = some (.int .u64 (g2 : Int)) ∧ W.cell? ⟨k0, 3, none⟩ = some (.int .u64 0) ∧ Kept w k0 [⟨k6, 0, a, b, c, d⟩, ⟨k0, 0, g0, g1, g2, 0⟩, ⟨k1, 0, 0, 0, 0, 0⟩] W := ⟨h.head.c0, h.head.c1, h.head.c2, h.head.c3, h.tail.head.c0, h.tail.head.c1, h.tail.head.c2, h.tail.head.c3, h⟩
theorem readS_get {w W : World} {k0 k1 k6 a b c d g0 g1 g2 : Nat} (h : W.cell? ⟨k6, 0, none⟩ = some (.int .u64 (a : Int)) ∧ W.cell? ⟨k6, 1, none⟩ = some (.int .u64 (b : Int)) ∧ W.cell? ⟨k6, 2, none⟩ = some (.int .u64 (c : Int)) ∧ W.cell? ⟨k6, 3, none⟩ = some (.int .u64 (d : Int)) ∧ W.cell? ⟨k0, 0, none⟩ = some (.int .u64 (g0 : Int)) ∧ W.cell? ⟨k0, 1, none⟩ = some (.int .u64 (g1 : Int)) ∧ W.cell? ⟨k0, 2, none⟩ = some (.int .u64 (g2 : Int)) ∧ W.cell? ⟨k0, 3, none⟩ = some (.int .u64 0) ∧ Kept w k0 [⟨k6, 0, a, b, c, d⟩, ⟨k0, 0, g0, g1, g2, 0⟩, ⟨k1, 0, 0, 0, 0, 0⟩] W) : Kept w k0 [⟨k6, 0, a, b, c, d⟩, ⟨k0, 0, g0, g1, g2, 0⟩, ⟨k1, 0, 0, 0, 0, 0⟩] W := h.2.2.2.2.2.2.2.2
theorem readS_alloc {w W : World} {k0 k1 k6 a b c d g0 g1 g2 : Nat} {o : Obj} (h : W.cell? ⟨k6, 0, none⟩ = some (.int .u64 (a : Int)) ∧ W.cell? ⟨k6, 1, none⟩ = some (.int .u64 (b : Int)) ∧ W.cell? ⟨k6, 2, none⟩ = some (.int .u64 (c : Int)) ∧ W.cell? ⟨k6, 3, none⟩ = some (.int .u64 (d : Int)) ∧ W.cell? ⟨k0, 0, none⟩ = some (.int .u64 (g0 : Int)) ∧ W.cell? ⟨k0, 1, none⟩ = some (.int .u64 (g1 : Int)) ∧ W.cell? ⟨k0, 2, none⟩ = some (.int .u64 (g2 : Int)) ∧ W.cell? ⟨k0, 3, none⟩ = some (.int .u64 0) ∧ Kept w k0 [⟨k6, 0, a, b, c, d⟩, ⟨k0, 0, g0, g1, g2, 0⟩, ⟨k1, 0, 0, 0, 0, 0⟩] W) : (W.alloc o).cell? ⟨k6, 0, none⟩ = some (.int .u64 (a : Int)) ∧ (W.alloc o).cell? ⟨k6, 1, none⟩ = some (.int .u64 (b : Int)) ∧ (W.alloc o).cell? ⟨k6, 2, none⟩ = some (.int .u64 (c : Int)) ∧ (W.alloc o).cell? ⟨k6, 3, none⟩ = some (.int .u64 (d : Int)) ∧ (W.alloc o).cell? ⟨k0, 0, none⟩ = some (.int .u64 (g0 : Int)) ∧ (W.alloc o).cell? ⟨k0, 1, none⟩ = some (.int .u64 (g1 : Int)) ∧ (W.alloc o).cell? ⟨k0, 2, none⟩ = some (.int .u64 (g2 : Int)) ∧ (W.alloc o).cell? ⟨k0, 3, none⟩ = some (.int .u64 0) ∧ Kept w k0 [⟨k6, 0, a, b, c, d⟩, ⟨k0, 0, g0, g1, g2, 0⟩, ⟨k1, 0, 0, 0, 0, 0⟩] (W.alloc o) := readS_of ((readS_get h).alloc o)
theorem readS_allocd {w W : World} {k0 k1 k6 a b c d g0 g1 g2 : Nat} {o : Obj} (h : W.drew.cell? ⟨k6, 0, none⟩ = some (.int .u64 (a : Int)) ∧ W.drew.cell? ⟨k6, 1, none⟩ = some (.int .u64 (b : Int)) ∧ W.drew.cell? ⟨k6, 2, none⟩ = some (.int .u64 (c : Int)) ∧ W.drew.cell? ⟨k6, 3, none⟩ = some (.int .u64 (d : Int)) ∧ W.drew.cell? ⟨k0, 0, none⟩ = some (.int .u64 (g0 : Int)) ∧ W.drew.cell? ⟨k0, 1, none⟩ = some (.int .u64 (g1 : Int)) ∧ W.drew.cell? ⟨k0, 2, none⟩ = some (.int .u64 (g2 : Int)) ∧ W.drew.cell? ⟨k0, 3, none⟩ = some (.int .u64 0) ∧ Kept w k0 [⟨k6, 0, a, b, c, d⟩, ⟨k0, 0, g0, g1, g2, 0⟩, ⟨k1, 0, 0, 0, 0, 0⟩] W.drew) : (W.alloc o).drew.cell? ⟨k6, 0, none⟩ = some (.int .u64 (a : Int)) ∧ (W.alloc o).drew.cell? ⟨k6, 1, none⟩ = some (.int .u64 (b : Int)) ∧ (W.alloc o).drew.cell? ⟨k6, 2, none⟩ = some (.int .u64 (c : Int)) ∧ (W.alloc o).drew.cell? ⟨k6, 3, none⟩ = some (.int .u64 (d : Int)) ∧ (W.alloc o).drew.cell? ⟨k0, 0, none⟩ = some (.int .u64 (g0 : Int)) ∧ (W.alloc o).drew.cell? ⟨k0, 1, none⟩ = some (.int .u64 (g1 : Int)) ∧ (W.alloc o).drew.cell? ⟨k0, 2, none⟩ = some (.int .u64 (g2 : Int)) ∧ (W.alloc o).drew.cell? ⟨k0, 3, none⟩ = some (.int .u64 0) ∧ Kept w k0 [⟨k6, 0, a, b, c, d⟩, ⟨k0, 0, g0, g1, g2, 0⟩, ⟨k1, 0, 0, 0, 0, 0⟩] (W.alloc o).drew := readS_of (((readS_get h).undrew).alloc o).drew

set_option maxHeartbeats 1000000 in
theorem Read_len (pv : Value) (p : Option Addr) (n cap : Nat) (w : World) (g0 g1 g2 : Nat) (hp : pv = .agg #[.int .u64 (g0 : Int), .int .u64 (g1 : Int), .int .u64 (g2 : Int), .int .u64 0]) (hn : n ≠ 32) :
    Calls Try.prog 89 #[pv, .slice p n cap] w (Ret fun e w' => Below w.heap.size w w' ∧ e = .tuple #[.agg #[.int .u64 0, .int .u64 0, .int .u64 0, .int .u64 0], .bool false]) := by
  subst hp
  have h1 : ¬ (n : Int) = 32 := by omega
  go_enter Try.func89, Try.ntmps89
  go_wp2
  refine bodyPost_ret (v := ?v) ?hr rfl ?hR
  case hr => simp [results, Try.results89, go_sem]; rfl
  exact ⟨_, rfl, below2 _ _ _, rfl⟩

set_option maxHeartbeats 4000000 in
set_option maxRecDepth 100000 in
theorem Read_any (g0 g1 g2 P g o cap : Nat) (bs : Bs) (hG : Gap g0 g1 g2 P) (w : World) (hs : bs.size = 32) (hc : 32 ≤ cap) (hg : g < w.heap.size) (hB : Holds encB w g o bs) :
    Calls Try.prog 89 #[.agg #[.int .u64 (g0 : Int), .int .u64 (g1 : Int), .int .u64 (g2 : Int), .int .u64 0], .slice (some ⟨g, o, none⟩) 32 cap] w
      (Ret fun e w' => Below w.heap.size w w' ∧ ((beV bs.toList < P ∧ ∃ v, e = .tuple #[v, .bool true] ∧ Four v (beV bs.toList)) ∨ (P ≤ beV bs.toList ∧ e = .tuple #[.agg #[.int .u64 0, .int .u64 0, .int .u64 0, .int .u64 0], .bool false]))) := by
  have HG : Hid (Gap g0 g1 g2 P) := hG
  have HBS : Hid (Holds encB w g o bs) := hB
  have HS : Hid (bs.size = 32) := hs
  clear hG hB hs
  go_enter Try.func89, Try.ntmps89
  go_wp2_with fail
  have PR := (At4.made w 79 g0 g1 g2 0 rfl).alloc (.cells #[.int .u64 0, .int .u64 0, .int .u64 0, .int .u64 0] 85)
  have RE := At4.made (w.alloc (.cells #[.int .u64 (g0 : Int), .int .u64 (g1 : Int), .int .u64 (g2 : Int), .int .u64 0] 79)) 85 0 0 0 0 (World.size_alloc _ _)
  have KP0 := ((Kept.mk1 (below2 w (.cells #[.int .u64 (g0 : Int), .int .u64 (g1 : Int), .int .u64 (g2 : Int), .int .u64 0] 79) (.cells #[.int .u64 0, .int .u64 0, .int .u64 0, .int .u64 0] 85)) (below2 w (.cells #[.int .u64 (g0 : Int), .int .u64 (g1 : Int), .int .u64 (g2 : Int), .int .u64 0] 79) (.cells #[.int .u64 0, .int .u64 0, .int .u64 0, .int .u64 0] 85)).size).cons RE.blk).cons PR.blk
  have HB0 := Holds.below HBS.out (below2 w (.cells #[.int .u64 (g0 : Int), .int .u64 (g1 : Int), .int .u64 (g2 : Int), .int .u64 0] 79) (.cells #[.int .u64 0, .int .u64 0, .int .u64 0, .int .u64 0] 85)) hg
  clear PR RE
  generalize World.alloc _ _ = W0 at KP0 HB0 ⊢
  refine (fromBytes_any (some ⟨g, o, none⟩) g o 32 cap bs _ (Nat.le_refl 32) hc HS.out (Or.inr ⟨rfl, HB0⟩)).mono ?_
  rintro e w1 ⟨v, rfl, hb1, hF⟩
  obtain ⟨a, b, c, d, rfl, ha, hb, hc', hd, es⟩ := id hF
  have HF : Hid (Four _ _) := hF
  have K1 := KP0.call hb1
  clear es hF hb1 KP0 HB0
  go_wp2_with fail
  have KP := (K1.alloc (.cells #[.int .u64 (a : Int), .int .u64 (b : Int), .int .u64 (c : Int), .int .u64 (d : Int)] 85)).cons (At4.made w1 85 a b c d rfl).blk
  have q60 : w1.heap.size ≠ w.heap.size := Nat.ne_of_gt K1.head.lt
  clear K1
  generalize World.alloc _ _ = W1 at KP ⊢
  generalize w1.heap.size = k6 at KP q60 ⊢
  generalize h1 : w.heap.size + 1 = k1 at KP ⊢
  have Q1 : Hid (w.heap.size ≤ k1) := by unfold Hid; omega
  generalize h0 : w.heap.size = k0 at KP Q1 hg q60 ⊢
  have H0 : Hid (w.heap.size = k0) := h0
  clear h0 h1
  go_cut [8] (fun s8 wx => ∃ k : Nat, s8 = .int .u64 (k : Int) ∧ k ≤ 1 ∧ Hid (∃ t, t < top ∧ t + top * k = beV bs.toList + val g0 g1 g2 0) ∧ Kept w k0 [⟨k6, 0, a, b, c, d⟩, ⟨k0, 0, g0, g1, g2, 0⟩, ⟨k1, 0, 0, 0, 0, 0⟩] wx)
  case first =>
    go_region_held3 (fun w' => w'.cell? ⟨k6, 0, none⟩ = some (.int .u64 (a : Int)) ∧ w'.cell? ⟨k6, 1, none⟩ = some (.int .u64 (b : Int)) ∧ w'.cell? ⟨k6, 2, none⟩ = some (.int .u64 (c : Int)) ∧ w'.cell? ⟨k6, 3, none⟩ = some (.int .u64 (d : Int)) ∧ w'.cell? ⟨k0, 0, none⟩ = some (.int .u64 (g0 : Int)) ∧ w'.cell? ⟨k0, 1, none⟩ = some (.int .u64 (g1 : Int)) ∧ w'.cell? ⟨k0, 2, none⟩ = some (.int .u64 (g2 : Int)) ∧ w'.cell? ⟨k0, 3, none⟩ = some (.int .u64 0) ∧ Kept w k0 [⟨k6, 0, a, b, c, d⟩, ⟨k0, 0, g0, g1, g2, 0⟩, ⟨k1, 0, 0, 0, 0, 0⟩] w') (first | (with_reducible exact readS_of KP) | (with_reducible exact readS_of KP.drew) | (with_reducible exact readS_allocd (by assumption)) | (with_reducible exact readS_alloc (by assumption)) | (with_reducible exact readS_of (KP.alloc _)) | (with_reducible exact readS_of (KP.set4' M7 (fun x hx => Nat.ne_of_gt (N7 x hx)) _ _ _ _)) | (with_reducible exact readS_of (KP.alloc _).drew) | (with_reducible exact readS_of (KP.set4' M7 (fun x hx => Nat.ne_of_gt (N7 x hx)) _ _ _ _).drew) | fail) (first | (go_at_call 84; refine (four_any _ _ HF.out _).mono ?_; rintro e w2 ⟨v, rfl, hb1, rfl⟩; (try (with_reducible have T1 := T.call hb1; clear T; have T := T1; clear T1)); (try (first | (with_reducible have T := (At4.made _ 77 0 0 0 0 rfl).call hb1) | (with_reducible have T := (At4.made _ 77 0 0 0 0 rfl).drew.call hb1)); have N7 := KP.lts; have M7 := KP.le); have KP1 := Kept.call (readS_get (by assumption)) hb1; clear KP; have KP := KP1; clear KP1 hb1) | (go_at_call 109; refine (plus_any _ _ _ _ HF.out (Four.mk HG.out.h0 HG.out.h1 HG.out.h2 (by decide) rfl) _).mono ?_; rintro e w2 ⟨v, rfl, hb1, v2, t, k, rfl, hF2, hk, he⟩; obtain ⟨a', b', c', d', rfl, ha', hb', hc', hd', es⟩ := id hF2; have HT : Hid (t < top ∧ t + top * k = beV bs.toList + val g0 g1 g2 0) := ⟨hF2.lt, he⟩; clear es he hF2; (try (with_reducible have T1 := T.call hb1; clear T; have T := T1; clear T1)); (try (first | (with_reducible have T := (At4.made _ 77 0 0 0 0 rfl).call hb1) | (with_reducible have T := (At4.made _ 77 0 0 0 0 rfl).drew.call hb1)); have N7 := KP.lts; have M7 := KP.le); have KP1 := Kept.call (readS_get (by assumption)) hb1; clear KP; have KP := KP1; clear KP1 hb1; (try (obtain ⟨tc0, tc1, tc2, tc3, tf⟩ := id T; have zt := T.lt))))
    all_goals (try go_wp2)
    all_goals (have HX : Hid (∃ t, t < top ∧ t + top * k = beV bs.toList + val g0 g1 g2 0) := ⟨t, HT.out⟩)
    all_goals (go_meet; first | (with_reducible exact ⟨k, rfl, hk, HX, KP.alloc _⟩) | (with_reducible exact ⟨k, rfl, hk, HX, (KP.alloc _).drew⟩) | (with_reducible exact ⟨k, rfl, hk, HX, KP.set4' M7 (fun x hx => Nat.ne_of_gt (N7 x hx)) _ _ _ _⟩) | (with_reducible exact ⟨k, rfl, hk, HX, (KP.set4' M7 (fun x hx => Nat.ne_of_gt (N7 x hx)) _ _ _ _).drew⟩) | fail)
  case rest =>
    clear KP
    obtain ⟨k, rfl, hk, HE, KP⟩ := hcut
    have hk' : k = 0 ∨ k = 1 := by omega
    rcases hk' with rfl | rfl
    · obtain ⟨xc0, xc1, xc2, xc3, xf⟩ := KP.head.at4
      obtain ⟨rc0, rc1, rc2, rc3, rf⟩ := KP.tail.tail.head.at4
      have z1 := KP.tail.tail.head.lt
      go_wp2
      have RF := KP.tail.tail.head.at4.self4 a b c d
      unfold set4 at RF
      refine bodyPost_ret (v := ?v0) ?hr0 rfl ?hR0
      case hr0 => simp [results, Try.results89, go_sem, RF.c0, RF.c1, RF.c2, RF.c3]; rfl
      refine ⟨_, rfl, ?_, Or.inl ⟨?_, _, rfl, HF.out⟩⟩
      · rw [H0.out]; exact below_set4 KP.bl Q1.out _ _ _ _
      · obtain ⟨t, h1, h2⟩ := HE.out
        have := HG.out.hP
        omega
    · obtain ⟨rc0, rc1, rc2, rc3, rf⟩ := KP.tail.tail.head.at4
      have z1 := KP.tail.tail.head.lt
      go_wp2
      have RF : At4 (set4 wc k1 (.int .u64 0) (.int .u64 0) (.int .u64 0) (.int .u64 0)) k1 0 0 0 0 := KP.tail.tail.head.at4.self4 0 0 0 0
      unfold set4 at RF
      refine bodyPost_ret (v := ?v1) ?hr1 rfl ?hR1
      case hr1 => simp [results, Try.results89, go_sem, RF.c0, RF.c1, RF.c2, RF.c3]; rfl
      refine ⟨_, rfl, ?_, Or.inr ⟨?_, rfl⟩⟩
      · rw [H0.out]; exact below_set4 KP.bl Q1.out _ _ _ _
      · obtain ⟨t, h1, h2⟩ := HE.out
        have := HG.out.hP
        omega
end Go.Proofs.Ytbimbalfdmffaab
namespace Go.Proofs.Ytbimbalfdmffaab
open Go.RowKit Go.Sort

def gv0 : Value := .agg #[.int .u64 4294968273, .int .u64 0, .int .u64 0, .int .u64 0]
def gv1 : Value := .agg #[.int .u64 4624529908474429119, .int .u64 4994812053365940164, .int .u64 1, .int .u64 0]

theorem gap0 : Gap 4294968273 0 0 p0 := ⟨by decide, by decide, by decide, Or.inl ⟨rfl, rfl⟩, by decide +kernel, by decide +kernel, by decide +kernel⟩
theorem gap1 : Gap 4624529908474429119 4994812053365940164 1 p1 := ⟨by decide, by decide, by decide, Or.inr ⟨4994812053365940165, by decide +kernel, by decide⟩, by decide +kernel, by decide +kernel, by decide +kernel⟩

theorem Coordinates_any (w : World) :
    Calls Try.prog 63 #[] w fun e w' => e = .returned (.agg #[.int .u64 4294968273, .int .u64 0, .int .u64 0, .int .u64 0]) ∧ w' = w.alloc (.cells #[.int .u64 4294968273, .int .u64 0, .int .u64 0, .int .u64 0] 79) := by
  go_enter Try.func63, Try.ntmps63
  go_wp2
  refine bodyPost_ret (v := ?v) ?hr rfl ?hR
  case hr => simp [results, Try.results63, go_sem]; rfl
  exact ⟨rfl, rfl⟩

theorem Scalars_any (w : World) :
    Calls Try.prog 88 #[] w fun e w' => e = .returned (.agg #[.int .u64 4624529908474429119, .int .u64 4994812053365940164, .int .u64 1, .int .u64 0]) ∧ w' = w.alloc (.cells #[.int .u64 4624529908474429119, .int .u64 4994812053365940164, .int .u64 1, .int .u64 0] 79) := by
  go_enter Try.func88, Try.ntmps88
  go_wp2
  refine bodyPost_ret (v := ?v) ?hr rfl ?hR
  case hr => simp [results, Try.results88, go_sem]; rfl
  exact ⟨rfl, rfl⟩

set_option maxHeartbeats 1000000 in
theorem byKind_no (k : Int) (a : Option Addr) (n : Nat) (hk : k < 0 ∨ (n : Int) ≤ k) (w : World) :
    Calls Try.prog 62 #[.int .i64 k, .slice a n n] w (Ret fun e w' => Below w.heap.size w w' ∧ e = .tuple #[.agg #[.int .u64 0, .int .u64 0, .int .u64 0, .int .u64 0], .int .i64 2]) := by
  by_cases h0 : k < 0
  · have d1 : decide (k < 0) = true := decide_eq_true h0
    go_enter Try.func62, Try.ntmps62
    go_wp2
    refine bodyPost_ret (v := ?v) ?hr rfl ?hR
    case hr => simp [results, Try.results62, go_sem]; rfl
    exact ⟨_, rfl, below2 _ _ _, rfl⟩
  · have d1 : decide (k < 0) = false := decide_eq_false h0
    have h1 : (n : Int) ≤ k := hk.resolve_left h0
    have d2 : decide ((n : Int) ≤ k) = true := decide_eq_true h1
    go_enter Try.func62, Try.ntmps62
    go_wp2
    refine bodyPost_ret (v := ?v2) ?hr2 rfl ?hR2
    case hr2 => simp [results, Try.results62, go_sem]; rfl
    exact ⟨_, rfl, below2 _ _ _, rfl⟩

set_option maxHeartbeats 1000000 in
theorem byKind_0 (g n a b c d : Nat) (hn : 0 < n) (w : World) (A : At4 w g a b c d) :
    Calls Try.prog 62 #[.int .i64 0, .slice (some ⟨g, 0, none⟩) n n] w (Ret fun e w' => Below w.heap.size w w' ∧ e = .tuple #[.agg #[.int .u64 (a : Int), .int .u64 (b : Int), .int .u64 (c : Int), .int .u64 (d : Int)], .int .i64 0]) := by
  obtain ⟨c0, c1, c2, c3, cf⟩ := id A
  have z := A.lt
  have h1 : ¬ (n : Int) ≤ 0 := by omega
  have h2 : (0 : Int) < (n : Int) := by omega
  have d2 : decide ((n : Int) ≤ 0) = false := decide_eq_false h1
  go_enter Try.func62, Try.ntmps62
  go_wp2
  refine bodyPost_ret (v := ?v) ?hr rfl ?hR
  case hr => simp [results, Try.results62, go_sem]; rfl
  exact ⟨_, rfl, below1 _ _, rfl⟩

set_option maxHeartbeats 1000000 in
theorem byKind_1 (g n a b c d : Nat) (hn : 1 < n) (w : World) (z : g < w.heap.size) (c0 : w.cell? ⟨g, 4, none⟩ = some (.int .u64 (a : Int))) (c1 : w.cell? ⟨g, 5, none⟩ = some (.int .u64 (b : Int)))
    (c2 : w.cell? ⟨g, 6, none⟩ = some (.int .u64 (c : Int))) (c3 : w.cell? ⟨g, 7, none⟩ = some (.int .u64 (d : Int))) :
    Calls Try.prog 62 #[.int .i64 1, .slice (some ⟨g, 0, none⟩) n n] w (Ret fun e w' => Below w.heap.size w w' ∧ e = .tuple #[.agg #[.int .u64 (a : Int), .int .u64 (b : Int), .int .u64 (c : Int), .int .u64 (d : Int)], .int .i64 0]) := by
  have h1 : ¬ (n : Int) ≤ 1 := by omega
  have h2 : (1 : Int) < (n : Int) := by omega
  have d2 : decide ((n : Int) ≤ 1) = false := decide_eq_false h1
  go_enter Try.func62, Try.ntmps62
  go_wp2
  refine bodyPost_ret (v := ?v) ?hr rfl ?hR
  case hr => simp [results, Try.results62, go_sem]; rfl
  exact ⟨_, rfl, below1 _ _, rfl⟩

set_option maxHeartbeats 1000000 in
theorem primeOf_0 (w : World) : Calls Try.prog 48 #[.int .i64 0] w (Ret fun e w' => Below w.heap.size w w' ∧ e = .tuple #[.agg #[.int .u64 4294968273, .int .u64 0, .int .u64 0, .int .u64 0], .int .i64 0]) := by
  go_enter Try.func48, Try.ntmps48
  go_wp2_with fail
  refine (Coordinates_any _).mono ?_
  rintro e w1 ⟨rfl, rfl⟩
  go_wp2_with fail
  refine (Scalars_any _).mono ?_
  rintro e w1 ⟨rfl, rfl⟩
  go_wp2_with fail
  have R := ((((At4.made w 79 0 0 0 0 rfl).alloc (.cells #[.int .u64 4294968273, .int .u64 0, .int .u64 0, .int .u64 0] 79)).alloc (.cells #[.int .u64 4624529908474429119, .int .u64 4994812053365940164, .int .u64 1, .int .u64 0] 79)).alloc (.cells #[.int .u64 4294968273, .int .u64 0, .int .u64 0, .int .u64 0, .int .u64 4624529908474429119, .int .u64 4994812053365940164, .int .u64 1, .int .u64 0] 79))
  have BL := below4 w (.cells #[.int .u64 0, .int .u64 0, .int .u64 0, .int .u64 0] 79) (.cells #[.int .u64 4294968273, .int .u64 0, .int .u64 0, .int .u64 0] 79) (.cells #[.int .u64 4624529908474429119, .int .u64 4994812053365940164, .int .u64 1, .int .u64 0] 79) (.cells #[.int .u64 4294968273, .int .u64 0, .int .u64 0, .int .u64 0, .int .u64 4624529908474429119, .int .u64 4994812053365940164, .int .u64 1, .int .u64 0] 79)
  have A := At8.made (((w.alloc (.cells #[.int .u64 0, .int .u64 0, .int .u64 0, .int .u64 0] 79)).alloc (.cells #[.int .u64 4294968273, .int .u64 0, .int .u64 0, .int .u64 0] 79)).alloc (.cells #[.int .u64 4624529908474429119, .int .u64 4994812053365940164, .int .u64 1, .int .u64 0] 79)) 79 4294968273 0 0 0 4624529908474429119 4994812053365940164 1 0 (k := w.heap.size + 1 + 1 + 1) (by simp)
  generalize World.alloc _ _ = W0 at R BL A ⊢
  refine (byKind_0 _ 2 4294968273 0 0 0 (by decide) _ ⟨A.c0, A.c1, A.c2, A.c3, A.fz⟩).mono ?_
  rintro e w1 ⟨v, rfl, hb1, rfl⟩
  replace R := R.call hb1
  have HB : Hid (Below w.heap.size w w1) := BL.trans (hb1.mono BL.size)
  clear BL A hb1
  obtain ⟨rc0, rc1, rc2, rc3, rf⟩ := id R
  have z := R.lt
  go_wp2
  have RF : At4 (set4 w1 w.heap.size (.int .u64 4294968273) (.int .u64 0) (.int .u64 0) (.int .u64 0)) w.heap.size 4294968273 0 0 0 := R.self4 4294968273 0 0 0
  unfold set4 at RF
  refine bodyPost_ret (v := ?v) ?hr rfl ?hR
  case hr => simp [results, Try.results48, go_sem, RF.c0, RF.c1, RF.c2, RF.c3]; rfl
  exact ⟨_, rfl, below_set4 HB.out (Nat.le_refl _) _ _ _ _, rfl⟩

set_option maxHeartbeats 1000000 in
theorem primeOf_1 (w : World) : Calls Try.prog 48 #[.int .i64 1] w (Ret fun e w' => Below w.heap.size w w' ∧ e = .tuple #[.agg #[.int .u64 4624529908474429119, .int .u64 4994812053365940164, .int .u64 1, .int .u64 0], .int .i64 0]) := by
  go_enter Try.func48, Try.ntmps48
  go_wp2_with fail
  refine (Coordinates_any _).mono ?_
  rintro e w1 ⟨rfl, rfl⟩
  go_wp2_with fail
  refine (Scalars_any _).mono ?_
  rintro e w1 ⟨rfl, rfl⟩
  go_wp2_with fail
  have R := ((((At4.made w 79 0 0 0 0 rfl).alloc (.cells #[.int .u64 4294968273, .int .u64 0, .int .u64 0, .int .u64 0] 79)).alloc (.cells #[.int .u64 4624529908474429119, .int .u64 4994812053365940164, .int .u64 1, .int .u64 0] 79)).alloc (.cells #[.int .u64 4294968273, .int .u64 0, .int .u64 0, .int .u64 0, .int .u64 4624529908474429119, .int .u64 4994812053365940164, .int .u64 1, .int .u64 0] 79))
  have BL := below4 w (.cells #[.int .u64 0, .int .u64 0, .int .u64 0, .int .u64 0] 79) (.cells #[.int .u64 4294968273, .int .u64 0, .int .u64 0, .int .u64 0] 79) (.cells #[.int .u64 4624529908474429119, .int .u64 4994812053365940164, .int .u64 1, .int .u64 0] 79) (.cells #[.int .u64 4294968273, .int .u64 0, .int .u64 0, .int .u64 0, .int .u64 4624529908474429119, .int .u64 4994812053365940164, .int .u64 1, .int .u64 0] 79)
  have A := At8.made (((w.alloc (.cells #[.int .u64 0, .int .u64 0, .int .u64 0, .int .u64 0] 79)).alloc (.cells #[.int .u64 4294968273, .int .u64 0, .int .u64 0, .int .u64 0] 79)).alloc (.cells #[.int .u64 4624529908474429119, .int .u64 4994812053365940164, .int .u64 1, .int .u64 0] 79)) 79 4294968273 0 0 0 4624529908474429119 4994812053365940164 1 0 (k := w.heap.size + 1 + 1 + 1) (by simp)
  generalize World.alloc _ _ = W0 at R BL A ⊢
  refine (byKind_1 _ 2 4624529908474429119 4994812053365940164 1 0 (by decide) _ A.lt A.c4 A.c5 A.c6 A.c7).mono ?_
  rintro e w1 ⟨v, rfl, hb1, rfl⟩
  replace R := R.call hb1
  have HB : Hid (Below w.heap.size w w1) := BL.trans (hb1.mono BL.size)
  clear BL A hb1
  obtain ⟨rc0, rc1, rc2, rc3, rf⟩ := id R
  have z := R.lt
  go_wp2
  have RF : At4 (set4 w1 w.heap.size (.int .u64 4624529908474429119) (.int .u64 4994812053365940164) (.int .u64 1) (.int .u64 0)) w.heap.size 4624529908474429119 4994812053365940164 1 0 := R.self4 4624529908474429119 4994812053365940164 1 0
  unfold set4 at RF
  refine bodyPost_ret (v := ?v) ?hr rfl ?hR
  case hr => simp [results, Try.results48, go_sem, RF.c0, RF.c1, RF.c2, RF.c3]; rfl
  exact ⟨_, rfl, below_set4 HB.out (Nat.le_refl _) _ _ _ _, rfl⟩

set_option maxHeartbeats 1000000 in
theorem primeOf_n (k : Int) (hk : k < 0 ∨ 2 ≤ k) (w : World) : Calls Try.prog 48 #[.int .i64 k] w (Ret fun e w' => Below w.heap.size w w' ∧ e = .tuple #[.agg #[.int .u64 0, .int .u64 0, .int .u64 0, .int .u64 0], .int .i64 2]) := by
  go_enter Try.func48, Try.ntmps48
  go_wp2_with fail
  refine (Coordinates_any _).mono ?_
  rintro e w1 ⟨rfl, rfl⟩
  go_wp2_with fail
  refine (Scalars_any _).mono ?_
  rintro e w1 ⟨rfl, rfl⟩
  go_wp2_with fail
  have R := ((((At4.made w 79 0 0 0 0 rfl).alloc (.cells #[.int .u64 4294968273, .int .u64 0, .int .u64 0, .int .u64 0] 79)).alloc (.cells #[.int .u64 4624529908474429119, .int .u64 4994812053365940164, .int .u64 1, .int .u64 0] 79)).alloc (.cells #[.int .u64 4294968273, .int .u64 0, .int .u64 0, .int .u64 0, .int .u64 4624529908474429119, .int .u64 4994812053365940164, .int .u64 1, .int .u64 0] 79))
  have BL := below4 w (.cells #[.int .u64 0, .int .u64 0, .int .u64 0, .int .u64 0] 79) (.cells #[.int .u64 4294968273, .int .u64 0, .int .u64 0, .int .u64 0] 79) (.cells #[.int .u64 4624529908474429119, .int .u64 4994812053365940164, .int .u64 1, .int .u64 0] 79) (.cells #[.int .u64 4294968273, .int .u64 0, .int .u64 0, .int .u64 0, .int .u64 4624529908474429119, .int .u64 4994812053365940164, .int .u64 1, .int .u64 0] 79)
  generalize World.alloc _ _ = W0 at R BL ⊢
  refine (byKind_no k _ 2 hk _).mono ?_
  rintro e w1 ⟨v, rfl, hb1, rfl⟩
  replace R := R.call hb1
  have HB : Hid (Below w.heap.size w w1) := BL.trans (hb1.mono BL.size)
  clear BL hb1
  obtain ⟨rc0, rc1, rc2, rc3, rf⟩ := id R
  have z := R.lt
  go_wp2
  have RF : At4 (set4 w1 w.heap.size (.int .u64 0) (.int .u64 0) (.int .u64 0) (.int .u64 0)) w.heap.size 0 0 0 0 := R.self4 0 0 0 0
  unfold set4 at RF
  refine bodyPost_ret (v := ?v) ?hr rfl ?hR
  case hr => simp [results, Try.results48, go_sem, RF.c0, RF.c1, RF.c2, RF.c3]; rfl
  exact ⟨_, rfl, below_set4 HB.out (Nat.le_refl _) _ _ _ _, rfl⟩
end Go.Proofs.Ytbimbalfdmffaab
namespace Go.Proofs.Ytbimbalfdmffaab
open Go.RowKit Go.Sort Go.Deep

set_option maxHeartbeats 2000000 in
/-- Modulus of a prime. -/
theorem PModulus_any (g0 g1 g2 P : Nat) (hG : Gap g0 g1 g2 P) (w : World) :
    Calls Try.prog 90 #[.agg #[.int .u64 (g0 : Int), .int .u64 (g1 : Int), .int .u64 (g2 : Int), .int .u64 0]] w (Ret fun e w' => Below w.heap.size w w' ∧ Four e P) := by
  have hgap := hG.hg
  go_enter Try.func90, Try.ntmps90
  go_wp2_with fail
  have R := At4.made (w.alloc (.cells #[.int .u64 (g0 : Int), .int .u64 (g1 : Int), .int .u64 (g2 : Int), .int .u64 0] 79)) 85 0 0 0 0 (World.size_alloc _ _)
  have BL := below2 w (.cells #[.int .u64 (g0 : Int), .int .u64 (g1 : Int), .int .u64 (g2 : Int), .int .u64 0] 79) (.cells #[.int .u64 0, .int .u64 0, .int .u64 0, .int .u64 0] 85)
  simp only [Int.natCast_zero] at R
  generalize World.alloc _ _ = W0 at R BL ⊢
  refine (minus_any _ _ 0 _ (Four.mk (a := 0) (b := 0) (c := 0) (d := 0) (by decide) (by decide) (by decide) (by decide) rfl) (Four.mk hG.h0 hG.h1 hG.h2 (by decide) rfl) _).mono ?_
  rintro e w1 ⟨v, rfl, hb1, v2, t, k, rfl, hF, hk, he⟩
  replace he : t + val g0 g1 g2 0 = 0 + top * k := he
  have hPt : t = P := by
    have h1 := hF.lt
    have h2 := hG.hP
    have : k = 0 ∨ k = 1 := by omega
    rcases this with h | h <;> rw [h] at he <;> omega
  subst hPt
  replace R := R.call hb1
  have HB : Hid (Below w.heap.size w w1) := BL.trans (hb1.mono BL.size)
  clear BL hb1 he
  obtain ⟨a, b, c, d, rfl, ha, hb, hc, hd, ht⟩ := id hF
  clear ht
  have z := R.lt
  go_wp2_with fail
  refine (number_any _ _ hF _).mono ?_
  rintro e w2 ⟨v', rfl, hb2, rfl⟩
  replace HB : Hid (Below w.heap.size w w2) := (HB.out.alloc (by omega) _).trans (hb2.mono (by simp; omega))
  replace R := (R.alloc _).call hb2
  clear hb2 z
  obtain ⟨rc0, rc1, rc2, rc3, rf⟩ := id R
  have z := R.lt
  go_wp2
  have RF := R.self4 a b c d
  unfold set4 at RF
  refine bodyPost_ret (v := ?v) ?hr rfl ?hR
  case hr => simp [results, Try.results90, go_sem, RF.c0, RF.c1, RF.c2, RF.c3]; rfl
  exact ⟨_, rfl, below_set4 HB.out (Nat.le_succ _) _ _ _ _, hF⟩
end Go.Proofs.Ytbimbalfdmffaab
namespace Go.Proofs.Ytbimbalfdmffaab
open Go.RowKit Go.Sort Go.Deep

/-- Bytes of a number, one by one, as the reference lays them. -/
def bytesTo (T : Bs) : Nat → Bs
  | 0 => Array.replicate 32 0
  | k + 1 => (bytesTo T k).setIfInBounds k T[k]!

theorem bytesTo_size (T : Bs) (k : Nat) : (bytesTo T k).size = 32 := by
  induction k with
  | zero => simp [bytesTo]
  | succ k ih => simp [bytesTo, ih]
theorem bytesTo_at (T : Bs) (k j : Nat) (hk : k ≤ 32) (hj : j < k) : (bytesTo T k)[j]! = T[j]! := by
  induction k with
  | zero => omega
  | succ k ih =>
    by_cases h : j = k
    · subst h
      exact getElem!_set_same _ _ _ (by rw [bytesTo_size]; omega)
    · rw [bytesTo, getElem!_set_other _ _ _ _ h]
      exact ih (by omega) (by omega)
theorem bytesTo_all {w : World} {g : Nat} {T : Bs} (hT : T.size = 32) (h : Holds encB w g 0 (bytesTo T 32)) : Holds encB w g 0 T := by
  intro j hj
  rw [← bytesTo_at T 32 j (Nat.le_refl _) (by omega)]
  exact h j (by rw [bytesTo_size]; omega)

/-- The word in which a byte lies. -/
def wordOf (a b c d k : Nat) : Nat := if k < 8 then a else if k < 16 then b else if k < 24 then c else d

theorem be8_at (x j : Nat) (hj : j < 8) : (be8 x)[j]! = UInt8.ofNat (x / 2 ^ (8 * (7 - j))) := by
  match j, hj with
  | 0, _ => rfl
  | 1, _ => rfl
  | 2, _ => rfl
  | 3, _ => rfl
  | 4, _ => rfl
  | 5, _ => rfl
  | 6, _ => rfl
  | 7, _ =>
    show UInt8.ofNat x = UInt8.ofNat (x / 2 ^ (8 * (7 - 7)))
    rw [Nat.sub_self, Nat.mul_zero, Nat.pow_zero, Nat.div_one]

theorem be32_at (a b c d i : Nat) (hi : i < 32) : (be32 a b c d)[i]! = UInt8.ofNat (wordOf a b c d (31 - i) / 2 ^ (8 * ((31 - i) % 8))) := by
  have e : be32 a b c d = be8 d ++ be8 c ++ be8 b ++ be8 a := rfl
  have s1 : (be8 d ++ be8 c).size = 16 := by simp only [Array.size_append, be8_size]
  have s2 : (be8 d ++ be8 c ++ be8 b).size = 24 := by simp only [Array.size_append, be8_size]
  unfold wordOf
  by_cases k1 : i < 8
  · rw [if_neg (by omega), if_neg (by omega), if_neg (by omega), show (31 - i) % 8 = 7 - i by omega, ← be8_at d i k1,
      e, app_front _ _ i (by omega), ← getElem!_pos (be8 d ++ be8 c ++ be8 b) i (by omega), app_front _ _ i (by omega), ← getElem!_pos (be8 d ++ be8 c) i (by omega), app_front _ _ i (by rw [be8_size]; exact k1), ← getElem!_pos (be8 d) i (by rw [be8_size]; exact k1)]
  · by_cases k2 : i < 16
    · rw [if_neg (by omega), if_neg (by omega), if_pos (by omega), show (31 - i) % 8 = 7 - (i - 8) by omega, ← be8_at c (i - 8) (by omega),
        e, app_front _ _ i (by omega), ← getElem!_pos (be8 d ++ be8 c ++ be8 b) i (by omega), app_front _ _ i (by omega), ← getElem!_pos (be8 d ++ be8 c) i (by omega), app_back _ _ i (by rw [be8_size]; omega) (by rw [be8_size, be8_size]; omega), be8_size]
    · by_cases k3 : i < 24
      · rw [if_neg (by omega), if_pos (by omega), show (31 - i) % 8 = 7 - (i - 16) by omega, ← be8_at b (i - 16) (by omega),
          e, app_front _ _ i (by omega), ← getElem!_pos (be8 d ++ be8 c ++ be8 b) i (by omega), app_back _ _ i (by omega) (by rw [s1, be8_size]; omega), s1]
      · rw [if_pos (by omega), show (31 - i) % 8 = 7 - (i - 24) by omega, ← be8_at a (i - 24) (by omega),
          e, app_back _ _ i (by omega) (by rw [s2, be8_size]; omega), s2]

theorem wordOf_lt {a b c d : Nat} (k : Nat) (ha : a < 18446744073709551616) (hb : b < 18446744073709551616) (hc : c < 18446744073709551616) (hd : d < 18446744073709551616) : wordOf a b c d k < 18446744073709551616 := by
  unfold wordOf; split; exact ha; split; exact hb; split; exact hc; exact hd

theorem At4.word {w : World} {k a b c d : Nat} (h : At4 w k a b c d) (i : Nat) (hi : i < 32) : w.cell? ⟨k, i / 8, none⟩ = some (.int .u64 (wordOf a b c d i : Int)) := by
  unfold wordOf
  by_cases h1 : i < 8
  · rw [if_pos h1, show i / 8 = 0 by omega]; exact h.c0
  · rw [if_neg h1]
    by_cases h2 : i < 16
    · rw [if_pos h2, show i / 8 = 1 by omega]; exact h.c1
    · rw [if_neg h2]
      by_cases h3 : i < 24
      · rw [if_pos h3, show i / 8 = 2 by omega]; exact h.c2
      · rw [if_neg h3, show i / 8 = 3 by omega]; exact h.c3

set_option maxHeartbeats 2000000 in
set_option maxRecDepth 100000 in
theorem rBytes_any (x : Value) (m : Nat) (w : World) (hx : Four x m) :
    Calls Try.prog 61 #[x] w (Ret fun e w' => Below w.heap.size w w' ∧ ∃ a b c d : Nat, x = .agg #[.int .u64 (a : Int), .int .u64 (b : Int), .int .u64 (c : Int), .int .u64 (d : Int)] ∧ e = .string ⟨be32 a b c d⟩) := by
  obtain ⟨a, b, c, d, rfl, ha, hb, hc, hd, em⟩ := hx
  clear em
  have hmk : ∀ w : World, (Instr.makeSlice 23 (.int .i64 32) (.int .i64 32)).run Try.prog w = .ok (.slice (some ⟨w.heap.size, 0, none⟩) 32 32) (w.alloc (.cells (madeCells #[.int .u8 0] 32) 5)) :=
    run_make_row' (P := Try.prog) 23 5 (.int .u8 0) 1 slice22 info5 rfl .i64 .i64 32 (by omega) (by omega)
  go_enter Try.func61, Try.ntmps61
  go_wp2
  have hH0 : Holds encB (((w.alloc (.cells #[.int .u64 (a : Int), .int .u64 (b : Int), .int .u64 (c : Int), .int .u64 (d : Int)] 33)).alloc (.cells (madeCells #[.int .u8 0] 32) 5))) (w.heap.size + 1) 0 (Array.replicate 32 0) := by
    have := Holds.made (enc := encB) (w.alloc (.cells #[.int .u64 (a : Int), .int .u64 (b : Int), .int .u64 (c : Int), .int .u64 (d : Int)] 33)) 5 32 0
    rw [World.size_alloc] at this
    exact this
  have hb0 := below2 w (.cells #[.int .u64 (a : Int), .int .u64 (b : Int), .int .u64 (c : Int), .int .u64 (d : Int)] 33) (.cells (madeCells #[.int .u8 0] 32) 5)
  have X := (At4.made w 33 a b c d rfl).alloc (.cells (madeCells #[.int .u8 0] 32) 5)
  generalize World.alloc _ _ = W at hH0 hb0 X ⊢
  have HBW : Hid (Below w.heap.size w W) := hb0
  clear hb0 hmk
  go_loopg [4] 32 (fun gk s4 wr => ∃ (k : Nat), k + gk = 32 ∧ s4 = .int .i64 (k : Int) ∧ Holds encB wr (w.heap.size + 1) 0 (bytesTo (be32 a b c d) k) ∧ At4 wr w.heap.size a b c d ∧ Hid (Below w.heap.size w wr))
  case atStart => exact ⟨0, rfl, rfl, hH0, X, HBW⟩
  case round =>
    obtain ⟨k, hk, rfl, hB, X', HB⟩ := hrel
    by_cases hlt : k < 32
    · obtain ⟨c0, f0⟩ := hB k (by rw [bytesTo_size]; omega)
      rw [Nat.zero_add] at c0 f0
      have xw := X'.word (31 - k) (by omega)
      have hwl := wordOf_lt (31 - k) ha hb hc hd
      have hbyte := be32_at a b c d k hlt
      obtain ⟨q, hq⟩ : ∃ q, 31 - k = q := ⟨_, rfl⟩
      rw [hq] at xw hwl hbyte
      generalize wordOf a b c d q = v at xw hwl hbyte
      have i1 : (31 : Int) - (k : Int) = (q : Int) := by omega
      have i2 : (q : Int).tdiv 8 = ((q / 8 : Nat) : Int) := by rw [Int.tdiv_eq_ediv_of_nonneg (by omega)]; omega
      have i3 : (q : Int).tmod 8 = ((q % 8 : Nat) : Int) := by rw [Int.tmod_eq_emod_of_nonneg (by omega)]; omega
      have i4 : (q / 8 : Nat) < 4 := by omega
      have hlt' : (k : Int) < 32 := by omega
      have hs1 : (8 : Int) * ((q % 8 : Nat) : Int) = ((8 * (q % 8) : Nat) : Int) := by omega
      have hv : (Value.int .u8 ((v : Int) / 2 ^ (8 * (q % 8)) % 256)) = encB (be32 a b c d)[k]! := by
        rw [hbyte, ← byte_at v (2 ^ (8 * (q % 8))), Int.natCast_pow]
        rfl
      have Hv : Hid (_ = _) := hv
      clear hv hbyte hq
      go_wp2
      rw [Hv.out]
      go_roundg (gk - 1)
      case measure => omega
      case rel =>
        refine ⟨k + 1, by omega, rfl, ?_, X'.other (by omega) _, HB.out.setCell (p := ⟨w.heap.size + 1, k, none⟩) (Nat.le_succ _) _⟩
        have := Holds.set hB (i := k) (by rw [bytesTo_size]; omega) (be32 a b c d)[k]!
        rw [Nat.zero_add] at this
        exact this
    · have hk32 : k = 32 := by omega
      subst hk32
      have hT := bytesTo_all (be32_size a b c d) hB
      have kc := conv_str Try.prog 23 9 5 slice22 int5 str9 wr (w.heap.size + 1) 0 32 32 _ hT (be32_size a b c d)
      clear hB hT
      go_wp2
      go_ret
      exact ⟨_, rfl, HB.out, a, b, c, d, rfl, rfl⟩
end Go.Proofs.Ytbimbalfdmffaab
namespace Go.Proofs.Ytbimbalfdmffaab
open Go.RowKit Go.Sort Go.Deep

/-- A slice of 32 bytes of its own, from block B on: the number n. -/
def IsBytes (W : World) (B : Nat) (v : Value) (n : Nat) : Prop :=
  ∃ g a b c d : Nat, v = .slice (some ⟨g, 0, none⟩) 32 32 ∧ B ≤ g ∧ Four (.agg #[.int .u64 (a : Int), .int .u64 (b : Int), .int .u64 (c : Int), .int .u64 (d : Int)]) n ∧ Holds encB W g 0 (be32 a b c d)

theorem IsBytes.call {W w1 : World} {B n : Nat} {v : Value} (h : IsBytes W B v n) (hb : Below W.heap.size W w1) : IsBytes w1 B v n := by
  obtain ⟨g, a, b, c, d, h1, h2, h3, h4⟩ := h
  exact ⟨g, a, b, c, d, h1, h2, h3, Holds.below h4 hb (Holds.lt h4 (by rw [be32_size]; omega))⟩
theorem IsBytes.drew {W : World} {B n : Nat} {v : Value} (h : IsBytes W B v n) : IsBytes W.drew B v n := by
  obtain ⟨g, a, b, c, d, h1, h2, h3, h4⟩ := h
  exact ⟨g, a, b, c, d, h1, h2, h3, Holds.drew h4⟩
theorem IsBytes.mono {W : World} {B B' n : Nat} {v : Value} (h : IsBytes W B v n) (hb : B' ≤ B) : IsBytes W B' v n := by
  obtain ⟨g, a, b, c, d, h1, h2, h3, h4⟩ := h
  exact ⟨g, a, b, c, d, h1, Nat.le_trans hb h2, h3, h4⟩

theorem bytes_of (x : Value) (m : Nat) (w : World) (hx : Four x m) :
    Calls Try.prog 51 #[x] w (Ret fun e w' => Below w.heap.size w w' ∧ IsBytes w' w.heap.size e m) := by
  refine (Bytes_any x m w hx).mono ?_
  rintro e w' ⟨v, rfl, hb, g, a, b, c, d, rfl, hg, rfl, hH⟩
  exact ⟨_, rfl, hb, g, a, b, c, d, rfl, hg, hx, hH⟩

end Go.Proofs.Ytbimbalfdmffaab
namespace Go.Proofs.Ytbimbalfdmffaab
open Go.RowKit Go.Sort Go.Deep

theorem ag_inj {a b c d a' b' c' d' : Nat} (h : Value.agg #[.int .u64 (a : Int), .int .u64 (b : Int), .int .u64 (c : Int), .int .u64 (d : Int)] = .agg #[.int .u64 (a' : Int), .int .u64 (b' : Int), .int .u64 (c' : Int), .int .u64 (d' : Int)]) : a' = a ∧ b' = b ∧ c' = c ∧ d' = d := by
  simp only [Value.agg.injEq, Array.mk.injEq, List.cons.injEq, Value.int.injEq, true_and, and_true, Int.ofNat_inj] at h
  exact ⟨h.1.symm, h.2.1.symm, h.2.2.1.symm, h.2.2.2.symm⟩
theorem toldS_of {w W : World} {k0 a b c d g : Nat} {T : Bs} (h : Kept w k0 [⟨k0, 0, a, b, c, d⟩] W) (hH : Holds encB W g 0 T) (hT : T.size = 32) : W.cell? ⟨k0, 0, none⟩ = some (.int .u64 (a : Int)) ∧ W.cell? ⟨k0, 1, none⟩ = some (.int .u64 (b : Int)) ∧ W.cell? ⟨k0, 2, none⟩ = some (.int .u64 (c : Int)) ∧ W.cell? ⟨k0, 3, none⟩ = some (.int .u64 (d : Int)) ∧ (convert 23 9 (.slice (some ⟨g, 0, none⟩) 32 32)).run Try.prog W = .ok (.string ⟨T⟩) W ∧ Kept w k0 [⟨k0, 0, a, b, c, d⟩] W :=
  ⟨h.head.c0, h.head.c1, h.head.c2, h.head.c3, conv_str Try.prog 23 9 5 slice22 int5 str9 _ g 0 32 32 _ hH hT, h⟩

set_option maxHeartbeats 2000000 in
set_option maxRecDepth 100000 in
theorem told_ok (v x : Value) (n B : Nat) (w : World) (hv : IsBytes w B v n) (hx : Four x n) :
    Calls Try.prog 22 #[v, .int .i64 0, .int .i64 0, x] w (Ret fun e w' => Below w.heap.size w w' ∧ e = .bool true) := by
  obtain ⟨g, a, b, c, d, rfl, hg, hF, hH⟩ := hv
  obtain rfl := hF.inj hx
  have hgl := Holds.lt hH (by rw [be32_size]; omega)
  have HX : Hid (Four _ _) := hx
  clear hF hx hg
  go_enter Try.func22, Try.ntmps22
  go_wp2_with fail
  have KP := (Kept.mk1 (below1 w (.cells #[.int .u64 (a : Int), .int .u64 (b : Int), .int .u64 (c : Int), .int .u64 (d : Int)] 33)) (below1 w _).size).cons (At4.made w 33 a b c d rfl).blk
  replace hH := Holds.below hH (below1 w (.cells #[.int .u64 (a : Int), .int .u64 (b : Int), .int .u64 (c : Int), .int .u64 (d : Int)] 33)) hgl
  generalize World.alloc _ _ = W0 at KP hH ⊢
  generalize h0 : w.heap.size = k0 at KP hgl ⊢
  have H0 : Hid (w.heap.size = k0) := h0
  clear h0
  obtain ⟨T, hT⟩ : ∃ T, be32 a b c d = T := ⟨_, rfl⟩
  have hTs : T.size = 32 := hT ▸ be32_size a b c d
  rw [hT] at hH
  have HT : Hid (be32 a b c d = T) := hT
  clear hT
  go_region_held3 (fun w' => w'.cell? ⟨k0, 0, none⟩ = some (.int .u64 (a : Int)) ∧ w'.cell? ⟨k0, 1, none⟩ = some (.int .u64 (b : Int)) ∧ w'.cell? ⟨k0, 2, none⟩ = some (.int .u64 (c : Int)) ∧ w'.cell? ⟨k0, 3, none⟩ = some (.int .u64 (d : Int)) ∧ (convert 23 9 (.slice (some ⟨g, 0, none⟩) 32 32)).run Try.prog w' = .ok (.string ⟨T⟩) w' ∧ Kept w k0 [⟨k0, 0, a, b, c, d⟩] w') (first | (with_reducible exact toldS_of KP hH hTs) | (with_reducible exact toldS_of KP.drew (Holds.drew hH) hTs) | fail) (first | (go_at_call 61; refine (rBytes_any _ _ _ HX.out).mono ?_; rintro e w1 ⟨v, rfl, hb1, a', b', c', d', he, rfl⟩; obtain ⟨rfl, rfl, rfl, rfl⟩ := ag_inj he; rw [HT.out]; have KP1 := KP.drew.call hb1; have hH1 := Holds.below (Holds.drew hH) hb1 (Holds.lt hH (by omega)); clear KP hb1 he hH; have KP := KP1; have hH := hH1; clear KP1 hH1))
  go_wp2
  go_ret
  exact ⟨_, rfl, H0.out ▸ KP.bl, by simp⟩
end Go.Proofs.Ytbimbalfdmffaab
namespace Go.Proofs.Ytbimbalfdmffaab
open Go.RowKit Go.Sort

theorem Known_law (k : Int) (w : World) : Calls Try.prog 15 #[.int .i64 k] w fun e w' => e = .returned (.bool (decide (k = 0 ∨ k = 1))) ∧ w' = w := by
  by_cases h0 : k = 0
  · subst h0
    go_enter Try.func15, Try.ntmps15
    go_wp2
    go_ret
    exact ⟨rfl, rfl⟩
  · by_cases h1 : k = 1
    · subst h1
      go_enter Try.func15, Try.ntmps15
      go_wp2
      go_ret
      exact ⟨rfl, rfl⟩
    · have d0 : decide (k = 0) = false := decide_eq_false h0
      have d1 : decide (k = 1) = false := decide_eq_false h1
      have d2 : decide (k = 0 ∨ k = 1) = false := decide_eq_false (by omega)
      rw [d2]
      clear d2
      go_enter Try.func15, Try.ntmps15
      go_wp2
      go_ret
      exact ⟨by simp [h0, h1], rfl⟩
end Go.Proofs.Ytbimbalfdmffaab
namespace Go.Proofs.Ytbimbalfdmffaab
open Go.RowKit Go.Sort

/-- Three arguments and a result, each in a block of its own. -/
theorem kept4 (w : World) (t0 t1 t2 t3 : TypeId) (a b c d e f g h i j k l m n o p : Nat) :
    Kept w w.heap.size [⟨w.heap.size, 0, a, b, c, d⟩, ⟨w.heap.size + 1, 0, e, f, g, h⟩, ⟨w.heap.size + 1 + 1, 0, i, j, k, l⟩, ⟨w.heap.size + 1 + 1 + 1, 0, m, n, o, p⟩]
      ((((w.alloc (.cells #[.int .u64 (a : Int), .int .u64 (b : Int), .int .u64 (c : Int), .int .u64 (d : Int)] t0)).alloc (.cells #[.int .u64 (e : Int), .int .u64 (f : Int), .int .u64 (g : Int), .int .u64 (h : Int)] t1)).alloc (.cells #[.int .u64 (i : Int), .int .u64 (j : Int), .int .u64 (k : Int), .int .u64 (l : Int)] t2)).alloc (.cells #[.int .u64 (m : Int), .int .u64 (n : Int), .int .u64 (o : Int), .int .u64 (p : Int)] t3)) := by
  refine ((((Kept.mk1 (below4 w _ _ _ _) (below4 w _ _ _ _).size).cons ?_).cons ?_).cons ?_).cons ?_
  · exact (At4.made _ t3 m n o p (by simp)).blk
  · exact ((At4.made _ t2 i j k l (by simp)).alloc _).blk
  · exact (((At4.made _ t1 e f g h (by simp)).alloc _).alloc _).blk
  · exact ((((At4.made _ t0 a b c d rfl).alloc _).alloc _).alloc _).blk

theorem plus_lo {g0 g1 g2 P m n s l : Nat} (hG : Gap g0 g1 g2 P) (h1 : s + top * 0 = m + n) (h2 : l + top * 0 = s + val g0 g1 g2 0) (hl : l < top) : (m + n) % P = s := by
  have := hG.hP
  rw [← h1, Nat.mul_zero, Nat.add_zero, Nat.mod_eq_of_lt (by omega)]
theorem plus_hi {g0 g1 g2 P m n s l k j : Nat} (hG : Gap g0 g1 g2 P) (hm : m < P) (hn : n < P) (h1 : s + top * k = m + n) (h2 : l + top * j = s + val g0 g1 g2 0) (hk : k ≤ 1) (hj : j ≤ 1) (hz : ¬ (k = 0 ∧ j = 0)) (hs : s < top) (_ : l < top) : (m + n) % P = l := by
  have h3 := hG.hP
  have h4 := hG.hP2
  have hk' : k = 0 ∨ k = 1 := by omega
  have hj' : j = 0 ∨ j = 1 := by omega
  have : m + n = l + P := by
    rcases hk' with h | h <;> rcases hj' with h' | h' <;> rw [h] at h1 <;> rw [h'] at h2 <;> first | omega | (exfalso; exact hz ⟨h, h'⟩)
  rw [this, Nat.add_mod_right, Nat.mod_eq_of_lt (by omega)]
theorem or2 (a b : Nat) (ha : a ≤ 1) (hb : b ≤ 1) : ∃ o : Nat, bits .or .u64 (a : Int) (b : Int) = (o : Int) ∧ (o = 0 ↔ (a = 0 ∧ b = 0)) := by
  have h1 : a = 0 ∨ a = 1 := by omega
  have h2 : b = 0 ∨ b = 1 := by omega
  rcases h1 with rfl | rfl <;> rcases h2 with rfl | rfl
  · exact ⟨0, by decide +kernel, by decide⟩
  · exact ⟨1, by decide +kernel, by decide⟩
  · exact ⟨1, by decide +kernel, by decide⟩
  · exact ⟨1, by decide +kernel, by decide⟩
theorem minus_lo {P m n s : Nat} (hm : m < P) (hn : n < P) (h1 : s + n = m + top * 0) : (m + P - n) % P = s := by
  rw [show m + P - n = s + P by omega, Nat.add_mod_right, Nat.mod_eq_of_lt (by omega)]
theorem minus_hi {g0 g1 g2 P m n s l j : Nat} (hG : Gap g0 g1 g2 P) (_ : m < P) (hn : n < P) (h1 : s + n = m + top * 1) (h2 : l + val g0 g1 g2 0 = s + top * j) (hj : j ≤ 1) (hl : l < top) (hs : s < top) : (m + P - n) % P = l := by
  have h3 := hG.hP
  have hj' : j = 0 ∨ j = 1 := by omega
  have : m + P - n = l := by
    rcases hj' with h' | h' <;> rw [h'] at h2 <;> omega
  rw [this, Nat.mod_eq_of_lt (by omega)]

set_option maxHeartbeats 4000000 in
set_option maxRecDepth 100000 in
theorem sum_any (g0 g1 g2 P : Nat) (x y : Value) (m n : Nat) (hG : Gap g0 g1 g2 P) (hx : Four x m) (hy : Four y n) (hm : m < P) (hn : n < P) (w : World) :
    Calls Try.prog 83 #[.agg #[.int .u64 (g0 : Int), .int .u64 (g1 : Int), .int .u64 (g2 : Int), .int .u64 0], x, y] w (Ret fun e w' => Below w.heap.size w w' ∧ Four e ((m + n) % P)) := by
  obtain ⟨a, b, c, d, rfl, ha, hb, hc, hd, em⟩ := id hx
  obtain ⟨p, q, r, s, rfl, hp, hq, hr, hs, en⟩ := id hy
  clear em en ha hb hc hd hp hq hr hs
  go_enter Try.func83, Try.ntmps83
  go_wp2_with fail
  have KP := kept4 w 79 77 77 77 g0 g1 g2 0 a b c d p q r s 0 0 0 0
  simp only [Int.natCast_zero] at KP
  generalize World.alloc _ _ = W0 at KP ⊢
  generalize h3 : w.heap.size + 1 + 1 + 1 = k3 at KP ⊢
  generalize h2 : w.heap.size + 1 + 1 = k2 at KP ⊢
  generalize h1 : w.heap.size + 1 = k1 at KP ⊢
  have Q3 : Hid (w.heap.size ≤ k3) := by unfold Hid; omega
  generalize h0 : w.heap.size = k0 at KP Q3 ⊢
  have H0 : Hid (w.heap.size = k0) := h0
  have n03 : k0 ≠ k3 := by omega
  clear h0 h1 h2 h3
  refine (plus_any _ _ _ _ hx hy _).mono ?_
  rintro e w1 ⟨v, rfl, hb1, v2, t, k, rfl, ⟨a1, b1, c1, d1, rfl, ha1, hb1', hc1, hd1, es⟩, hk, he⟩
  have HE : Hid (val a1 b1 c1 d1 + top * k = m + n) := by unfold Hid; rw [← es]; exact he
  clear es he
  replace KP := KP.call hb1
  clear hb1
  have KP4 := (KP.alloc (.cells #[.int .u64 (a1 : Int), .int .u64 (b1 : Int), .int .u64 (c1 : Int), .int .u64 (d1 : Int)] 77)).cons (At4.made w1 77 a1 b1 c1 d1 rfl).blk
  have m0 : k0 ≠ w1.heap.size := Nat.ne_of_lt KP.head.lt
  have m3 : k3 ≠ w1.heap.size := Nat.ne_of_lt KP.tail.tail.tail.head.lt
  clear KP
  obtain ⟨pc0, pc1, pc2, pc3, pf⟩ := KP4.tail.head.at4
  have z0 := KP4.tail.head.lt
  go_wp2_with fail
  generalize World.alloc _ _ = W1 at KP4 z0 pc0 pc1 pc2 pc3 pf ⊢
  refine (plus_any _ _ _ _ (Four.mk ha1 hb1' hc1 hd1 rfl) (Four.mk hG.h0 hG.h1 hG.h2 (by decide) rfl) _).mono ?_
  rintro e w2 ⟨v, rfl, hb2, v3, t2, j, rfl, ⟨a2, b2, c2, d2, rfl, ha2, hb2', hc2, hd2, es⟩, hj, he⟩
  have HE2 : Hid (val a2 b2 c2 d2 + top * j = val a1 b1 c1 d1 + val g0 g1 g2 0) := by unfold Hid; rw [← es]; exact he
  clear es he pc0 pc1 pc2 pc3 pf z0
  replace KP4 := KP4.call hb2
  clear hb2
  have HG : Hid (Gap g0 g1 g2 P) := hG
  have HM : Hid (m < P ∧ n < P) := ⟨hm, hn⟩
  clear hG hm hn hx hy m0 n03
  generalize w1.heap.size = k4 at KP4 m3 ⊢
  obtain ⟨sc0, sc1, sc2, sc3, sf⟩ := KP4.head.at4
  obtain ⟨rc0, rc1, rc2, rc3, rf⟩ := KP4.tail.tail.tail.tail.head.at4
  have z4 := KP4.head.lt
  have z3 := KP4.tail.tail.tail.tail.head.lt
  obtain ⟨o, ho, hoz⟩ := or2 k j hk hj
  by_cases hz : k = 0 ∧ j = 0
  · obtain ⟨rfl, rfl⟩ := hz
    obtain rfl : o = 0 := hoz.2 ⟨rfl, rfl⟩
    clear hoz
    replace ho : bits .or .u64 0 0 = 0 := ho
    go_wp2
    have RF := (KP4.tail.tail.tail.tail.head.at4.self4 a1 b1 c1 d1).alloc (.cells #[.int .u64 (a2 : Int), .int .u64 (b2 : Int), .int .u64 (c2 : Int), .int .u64 (d2 : Int)] 77)
    unfold set4 at RF
    refine bodyPost_ret (v := ?v0) ?hr0 rfl ?hR0
    case hr0 => simp [results, Try.results83, go_sem, RF.c0, RF.c1, RF.c2, RF.c3]; rfl
    refine ⟨_, rfl, ?_, Four.mk ha1 hb1' hc1 hd1 (plus_lo HG.out HE.out HE2.out (val_lt ha2 hb2' hc2 hd2))⟩
    rw [H0.out]
    exact (below_set4 KP4.bl Q3.out _ _ _ _).alloc (by simpa [set4] using KP4.le) _
  · have ho0 : ¬ o = 0 := fun h => hz (hoz.1 h)
    clear hoz
    go_wp2
    have RF := (KP4.tail.tail.tail.tail.head.at4.self4 a2 b2 c2 d2).alloc (.cells #[.int .u64 (a2 : Int), .int .u64 (b2 : Int), .int .u64 (c2 : Int), .int .u64 (d2 : Int)] 77)
    unfold set4 at RF
    refine bodyPost_ret (v := ?v1) ?hr1 rfl ?hR1
    case hr1 => simp [results, Try.results83, go_sem, RF.c0, RF.c1, RF.c2, RF.c3]; rfl
    refine ⟨_, rfl, ?_, Four.mk ha2 hb2' hc2 hd2 (plus_hi HG.out HM.out.1 HM.out.2 HE.out HE2.out hk hj hz (val_lt ha1 hb1' hc1 hd1) (val_lt ha2 hb2' hc2 hd2))⟩
    rw [H0.out]
    exact (below_set4 KP4.bl Q3.out _ _ _ _).alloc (by simpa [set4] using KP4.le) _

set_option maxHeartbeats 4000000 in
set_option maxRecDepth 100000 in
theorem difference_any (g0 g1 g2 P : Nat) (x y : Value) (m n : Nat) (hG : Gap g0 g1 g2 P) (hx : Four x m) (hy : Four y n) (hm : m < P) (hn : n < P) (w : World) :
    Calls Try.prog 86 #[.agg #[.int .u64 (g0 : Int), .int .u64 (g1 : Int), .int .u64 (g2 : Int), .int .u64 0], x, y] w (Ret fun e w' => Below w.heap.size w w' ∧ Four e ((m + P - n) % P)) := by
  obtain ⟨a, b, c, d, rfl, ha, hb, hc, hd, em⟩ := id hx
  obtain ⟨p, q, r, s, rfl, hp, hq, hr, hs, en⟩ := id hy
  clear em en ha hb hc hd hp hq hr hs
  go_enter Try.func86, Try.ntmps86
  go_wp2_with fail
  have KP := kept4 w 79 77 77 77 g0 g1 g2 0 a b c d p q r s 0 0 0 0
  simp only [Int.natCast_zero] at KP
  generalize World.alloc _ _ = W0 at KP ⊢
  generalize h3 : w.heap.size + 1 + 1 + 1 = k3 at KP ⊢
  generalize h2 : w.heap.size + 1 + 1 = k2 at KP ⊢
  generalize h1 : w.heap.size + 1 = k1 at KP ⊢
  have Q3 : Hid (w.heap.size ≤ k3) := by unfold Hid; omega
  generalize h0 : w.heap.size = k0 at KP Q3 ⊢
  have H0 : Hid (w.heap.size = k0) := h0
  have n03 : k0 ≠ k3 := by omega
  clear h0 h1 h2 h3
  refine (minus_any _ _ _ _ hx hy _).mono ?_
  rintro e w1 ⟨v, rfl, hb1, v2, t, k, rfl, ⟨a1, b1, c1, d1, rfl, ha1, hb1', hc1, hd1, es⟩, hk, he⟩
  have HE : Hid (val a1 b1 c1 d1 + n = m + top * k) := by unfold Hid; rw [← es]; exact he
  clear es he
  replace KP := KP.call hb1
  clear hb1
  have KP4 := (KP.alloc (.cells #[.int .u64 (a1 : Int), .int .u64 (b1 : Int), .int .u64 (c1 : Int), .int .u64 (d1 : Int)] 77)).cons (At4.made w1 77 a1 b1 c1 d1 rfl).blk
  have m0 : k0 ≠ w1.heap.size := Nat.ne_of_lt KP.head.lt
  have m3 : k3 ≠ w1.heap.size := Nat.ne_of_lt KP.tail.tail.tail.head.lt
  have HG : Hid (Gap g0 g1 g2 P) := hG
  have HM : Hid (m < P ∧ n < P) := ⟨hm, hn⟩
  have Q4 : Hid (k0 ≤ w1.heap.size) := KP.le
  clear hG hm hn hx hy
  have hk' : k = 0 ∨ k = 1 := by omega
  obtain ⟨rc0, rc1, rc2, rc3, rf⟩ := KP.tail.tail.tail.head.at4
  have z3 := KP.tail.tail.tail.head.lt
  rcases hk' with rfl | rfl
  · clear KP4
    go_wp2
    have RF := (KP.tail.tail.tail.head.at4.self4 a1 b1 c1 d1).alloc (.cells #[.int .u64 (a1 : Int), .int .u64 (b1 : Int), .int .u64 (c1 : Int), .int .u64 (d1 : Int)] 77)
    unfold set4 at RF
    refine bodyPost_ret (v := ?v0) ?hr0 rfl ?hR0
    case hr0 => simp [results, Try.results86, go_sem, RF.c0, RF.c1, RF.c2, RF.c3]; rfl
    refine ⟨_, rfl, ?_, Four.mk ha1 hb1' hc1 hd1 (minus_lo HM.out.1 HM.out.2 HE.out)⟩
    rw [H0.out]
    exact (below_set4 KP.bl Q3.out _ _ _ _).alloc (by simpa [set4] using KP.le) _
  · clear KP rc0 rc1 rc2 rc3 rf z3
    obtain ⟨pc0, pc1, pc2, pc3, pf⟩ := KP4.tail.head.at4
    have z0 := KP4.tail.head.lt
    go_wp2_with fail
    generalize World.alloc _ _ = W1 at KP4 z0 pc0 pc1 pc2 pc3 pf ⊢
    refine (minus_any _ _ _ _ (Four.mk ha1 hb1' hc1 hd1 rfl) (Four.mk HG.out.h0 HG.out.h1 HG.out.h2 (by decide) rfl) _).mono ?_
    rintro e w2 ⟨v, rfl, hb2, v3, t2, j, rfl, ⟨a2, b2, c2, d2, rfl, ha2, hb2', hc2, hd2, es⟩, hj, he⟩
    have HE2 : Hid (val a2 b2 c2 d2 + val g0 g1 g2 0 = val a1 b1 c1 d1 + top * j) := by unfold Hid; rw [← es]; exact he
    clear es he pc0 pc1 pc2 pc3 pf z0
    replace KP4 := KP4.call hb2
    clear hb2
    generalize w1.heap.size = k4 at KP4 m0 m3 Q4 ⊢
    obtain ⟨sc0, sc1, sc2, sc3, sf⟩ := KP4.head.at4
    obtain ⟨rc0, rc1, rc2, rc3, rf⟩ := KP4.tail.tail.tail.tail.head.at4
    have z4 := KP4.head.lt
    have z3 := KP4.tail.tail.tail.tail.head.lt
    go_wp2
    have RF := (KP4.tail.tail.tail.tail.head.at4.other4 m3.symm (.int .u64 (a2 : Int)) (.int .u64 (b2 : Int)) (.int .u64 (c2 : Int)) (.int .u64 (d2 : Int))).self4 a2 b2 c2 d2
    unfold set4 at RF
    refine bodyPost_ret (v := ?v1) ?hr1 rfl ?hR1
    case hr1 => simp [results, Try.results86, go_sem, RF.c0, RF.c1, RF.c2, RF.c3]; rfl
    refine ⟨_, rfl, ?_, Four.mk ha2 hb2' hc2 hd2 (minus_hi HG.out HM.out.1 HM.out.2 HE.out HE2.out hj (val_lt ha2 hb2' hc2 hd2) (val_lt ha1 hb1' hc1 hd1))⟩
    rw [H0.out]
    exact below_set4 (below_set4 KP4.bl Q4.out _ _ _ _) Q3.out _ _ _ _
end Go.Proofs.Ytbimbalfdmffaab
namespace Go.Proofs.Ytbimbalfdmffaab
open Go.RowKit Go.Sort

theorem rows_sum {a b c d n m r0 s0 t0 u0 y0 y1 y2 y3 : Nat} (em : m = val a b c d)
    (e0 : r0 + 18446744073709551616 * y0 = a * n + val 0 0 0 0)
    (e1 : s0 + 18446744073709551616 * y1 = b * n + y0)
    (e2 : t0 + 18446744073709551616 * y2 = c * n + y1)
    (e3 : u0 + 18446744073709551616 * y3 = d * n + y2) :
    val r0 s0 t0 u0 + top * y3 = m * n := by
  have hm : val a b c d * n = val (a * n) (b * n) (c * n) (d * n) := by
    rw [Nat.mul_comm, mul_val, Nat.mul_comm n a, Nat.mul_comm n b, Nat.mul_comm n c, Nat.mul_comm n d]
  rw [em, hm]
  generalize a * n = x0 at *
  generalize b * n = x1 at *
  generalize c * n = x2 at *
  generalize d * n = x3 at *
  unfold val at *
  unfold top
  omega

set_option maxHeartbeats 4000000 in
set_option maxRecDepth 100000 in
theorem product_any (g0 g1 g2 P : Nat) (x y : Value) (m n : Nat) (hG : Gap g0 g1 g2 P) (hx : Four x m) (hy : Four y n) (w : World) :
    Calls Try.prog 87 #[.agg #[.int .u64 (g0 : Int), .int .u64 (g1 : Int), .int .u64 (g2 : Int), .int .u64 0], x, y] w (Ret fun e w' => Below w.heap.size w w' ∧ Four e (m * n % P)) := by
  obtain ⟨a, b, c, d, rfl, ha, hb, hc, hd, em⟩ := hx
  obtain ⟨p, q, r, s, rfl, hp, hq, hr, hs, en⟩ := id hy
  have HM : Hid (m = val a b c d) := em
  clear em en
  go_enter Try.func87, Try.ntmps87
  go_wp2_with fail
  have KP := kept4 w 79 77 77 77 g0 g1 g2 0 a b c d p q r s 0 0 0 0
  simp only [Int.natCast_zero] at KP
  have PR := KP.head.at4
  have X := KP.tail.head.at4
  have Y := KP.tail.tail.head.at4
  have RE := KP.tail.tail.tail.head.at4
  have BL : Hid (Below w.heap.size w _) := KP.bl
  clear KP
  generalize World.alloc _ _ = w1 at X Y PR RE BL ⊢
  generalize h3 : w.heap.size + 1 + 1 + 1 = k3 at RE ⊢
  generalize h2 : w.heap.size + 1 + 1 = k4 at Y ⊢
  generalize h1 : w.heap.size + 1 = k1 at X ⊢
  have Q3 : Hid (w.heap.size ≤ k3) := by unfold Hid; omega
  generalize h0 : w.heap.size = k0 at PR BL Q3 ⊢
  have n03 : k0 ≠ k3 := by omega
  have n13 : k1 ≠ k3 := by omega
  have H0 : Hid (w.heap.size = k0) := h0
  clear h0 h1 h2 h3
  refine (row_any a _ _ _ _ ha hy (Four.mk (a := 0) (b := 0) (c := 0) (d := 0) (by decide) (by decide) (by decide) (by decide) rfl) _).mono ?_
  rintro e w2 ⟨v, rfl, hb2, l0, v2, t0, rfl, hl0, ⟨a0, b0, c0, d0, rfl, ha0, hb0, hc0, hd0, es⟩, he⟩
  have HQ0 : Hid (l0 + 18446744073709551616 * val a0 b0 c0 d0 = a * n + val 0 0 0 0) := by unfold Hid; rw [← es]; exact he
  clear he es
  replace BL : Hid (Below k0 w w2) := blcall BL PR hb2
  replace X := X.call hb2
  replace Y := Y.call hb2
  replace RE := RE.call hb2
  replace PR := PR.call hb2
  clear hb2
  obtain ⟨xc0, xc1, xc2, xc3, xf⟩ := id X
  have z1 := X.lt
  obtain ⟨yc0, yc1, yc2, yc3, yf⟩ := id Y
  have z4 := Y.lt
  obtain ⟨rc0, rc1, rc2, rc3, rf⟩ := id RE
  have z3 := RE.lt
  obtain ⟨pc0, pc1, pc2, pc3, pf⟩ := id PR
  have z0 := PR.lt
  go_wp2_with fail
  refine (row_any b _ _ _ _ hb hy (Four.mk ha0 hb0 hc0 hd0 rfl) _).mono ?_
  rintro e w3 ⟨v, rfl, hb3, l1, v3, t1, rfl, hl1, ⟨a1, b1, c1, d1, rfl, ha1, hb1, hc1, hd1, es⟩, he⟩
  clear xc0 xc1 xc2 xc3 xf z1 yc0 yc1 yc2 yc3 yf z4 rc0 rc1 rc2 rc3 rf z3 pc0 pc1 pc2 pc3 pf z0
  have HQ1 : Hid (l1 + 18446744073709551616 * val a1 b1 c1 d1 = b * n + val a0 b0 c0 d0) := by unfold Hid; rw [← es]; exact he
  clear he es
  have j0 : k0 ≠ w2.heap.size := Nat.ne_of_lt PR.lt
  have j1 : k1 ≠ w2.heap.size := Nat.ne_of_lt X.lt
  have j3 : k3 ≠ w2.heap.size := Nat.ne_of_lt RE.lt
  have j4 : k4 ≠ w2.heap.size := Nat.ne_of_lt Y.lt
  have J0 : Hid (k0 ≤ w2.heap.size) := Nat.le_of_lt PR.lt
  have T := (At4.made w2 77 a0 b0 c0 d0 rfl).call hb3
  replace BL : Hid (Below k0 w w3) := blcall (W := w2.alloc (.cells #[.int .u64 (a0 : Int), .int .u64 (b0 : Int), .int .u64 (c0 : Int), .int .u64 (d0 : Int)] 77)) (BL.out.alloc (Nat.le_of_lt PR.lt) _) (PR.alloc _) hb3
  replace X := (X.alloc _).call hb3
  replace Y := (Y.alloc _).call hb3
  replace RE := (RE.alloc _).call hb3
  replace PR := (PR.alloc _).call hb3
  clear hb3
  generalize w2.heap.size = k5 at T j0 j1 j3 j4 J0 ⊢
  obtain ⟨xc0, xc1, xc2, xc3, xf⟩ := id X
  have z1 := X.lt
  obtain ⟨yc0, yc1, yc2, yc3, yf⟩ := id Y
  have z4 := Y.lt
  obtain ⟨rc0, rc1, rc2, rc3, rf⟩ := id RE
  have z3 := RE.lt
  obtain ⟨pc0, pc1, pc2, pc3, pf⟩ := id PR
  have z0 := PR.lt
  obtain ⟨tc0, tc1, tc2, tc3, tf⟩ := id T
  have z5 := T.lt
  go_wp2_with fail
  refine (row_any c _ _ _ _ hc hy (Four.mk ha1 hb1 hc1 hd1 rfl) _).mono ?_
  rintro e w4 ⟨v, rfl, hbb, l2, v4, t4, rfl, hl2, ⟨a2, b2, c2, d2, rfl, ha2, hb2, hc2, hd2, es⟩, he⟩
  clear xc0 xc1 xc2 xc3 xf z1 yc0 yc1 yc2 yc3 yf z4 rc0 rc1 rc2 rc3 rf z3 pc0 pc1 pc2 pc3 pf z0 tc0 tc1 tc2 tc3 tf z5
  have HQ2 : Hid (l2 + 18446744073709551616 * val a2 b2 c2 d2 = c * n + val a1 b1 c1 d1) := by unfold Hid; rw [← es]; exact he
  clear he es
  replace BL : Hid (Below k0 w w4) := blcall (below_set4 BL.out J0.out _ _ _ _) (PR.other4 j0.symm _ _ _ _) hbb
  replace X := (X.other4 j1.symm _ _ _ _).call hbb
  replace Y := (Y.other4 j4.symm _ _ _ _).call hbb
  replace RE := (RE.other4 j3.symm _ _ _ _).call hbb
  replace PR := (PR.other4 j0.symm _ _ _ _).call hbb
  replace T := (T.self4 a1 b1 c1 d1).call hbb
  clear hbb
  obtain ⟨xc0, xc1, xc2, xc3, xf⟩ := id X
  have z1 := X.lt
  obtain ⟨yc0, yc1, yc2, yc3, yf⟩ := id Y
  have z4 := Y.lt
  obtain ⟨rc0, rc1, rc2, rc3, rf⟩ := id RE
  have z3 := RE.lt
  obtain ⟨pc0, pc1, pc2, pc3, pf⟩ := id PR
  have z0 := PR.lt
  obtain ⟨tc0, tc1, tc2, tc3, tf⟩ := id T
  have z5 := T.lt
  go_wp2_with fail
  refine (row_any d _ _ _ _ hd hy (Four.mk ha2 hb2 hc2 hd2 rfl) _).mono ?_
  rintro e w5 ⟨v, rfl, hbb, l3, v4, t4, rfl, hl3, ⟨a3, b3, c3, d3, rfl, ha3, hb3, hc3, hd3, es⟩, he⟩
  clear xc0 xc1 xc2 xc3 xf z1 yc0 yc1 yc2 yc3 yf z4 rc0 rc1 rc2 rc3 rf z3 pc0 pc1 pc2 pc3 pf z0 tc0 tc1 tc2 tc3 tf z5
  have HQ3 : Hid (l3 + 18446744073709551616 * val a3 b3 c3 d3 = d * n + val a2 b2 c2 d2) := by unfold Hid; rw [← es]; exact he
  clear he es
  replace BL : Hid (Below k0 w w5) := blcall (below_set4 BL.out J0.out _ _ _ _) (PR.other4 j0.symm _ _ _ _) hbb
  replace X := (X.other4 j1.symm _ _ _ _).call hbb
  replace Y := (Y.other4 j4.symm _ _ _ _).call hbb
  replace RE := (RE.other4 j3.symm _ _ _ _).call hbb
  replace PR := (PR.other4 j0.symm _ _ _ _).call hbb
  replace T := (T.self4 a2 b2 c2 d2).call hbb
  clear hbb
  obtain ⟨rc0, rc1, rc2, rc3, rf⟩ := id RE
  have z3 := RE.lt
  obtain ⟨pc0, pc1, pc2, pc3, pf⟩ := id PR
  have z0 := PR.lt
  obtain ⟨tc0, tc1, tc2, tc3, tf⟩ := id T
  have z5 := T.lt
  go_wp2_with fail
  refine (fold_any g0 g1 g2 _ _ _ _ P hG.h0 hG.h1 hG.h2 hG.hor hG.hP hG.hP2 (Four.mk hl0 hl1 hl2 hl3 rfl) (Four.mk ha3 hb3 hc3 hd3 rfl) _).mono ?_
  rintro e w6 ⟨v, rfl, hbb, hv⟩
  rw [rows_sum HM.out HQ0.out HQ1.out HQ2.out HQ3.out] at hv
  clear rc0 rc1 rc2 rc3 rf z3 pc0 pc1 pc2 pc3 pf z0 tc0 tc1 tc2 tc3 tf z5
  replace BL : Hid (Below k0 w w6) := blcall (below_set4 BL.out J0.out _ _ _ _) (PR.other4 j0.symm _ _ _ _) hbb
  replace RE := (RE.other4 j3.symm _ _ _ _).call hbb
  replace PR := (PR.other4 j0.symm _ _ _ _).call hbb
  clear hbb T X Y HQ0 HQ1 HQ2 HQ3 HM
  obtain ⟨a7, b7, c7, d7, rfl, ha7, hb7, hc7, hd7, hv7⟩ := id hv
  have HV : Hid (Four _ _) := hv
  clear hv hv7
  obtain ⟨rc0, rc1, rc2, rc3, rf⟩ := id RE
  have z3 := RE.lt
  go_wp2
  have RF := RE.self4 a7 b7 c7 d7
  unfold set4 at RF
  refine bodyPost_ret (v := ?v) ?hr rfl ?hR
  case hr => simp [results, Try.results87, go_sem, RF.c0, RF.c1, RF.c2, RF.c3]; rfl
  refine ⟨_, rfl, ?_, HV.out⟩
  rw [H0.out]
  exact below_set4 BL.out Q3.out _ _ _ _
end Go.Proofs.Ytbimbalfdmffaab
namespace Go.Proofs.Ytbimbalfdmffaab
open Go.RowKit Go.Sort

theorem wrS_of {w W : World} {k0 k1 k2 a b c d p q r s g0 g1 g2 : Nat} (h : Kept w k0 [⟨k0, 0, g0, g1, g2, 0⟩, ⟨k1, 0, a, b, c, d⟩, ⟨k2, 0, p, q, r, s⟩] W) : W.cell? ⟨k0, 0, none⟩ = some (.int .u64 (g0 : Int)) ∧ W.cell? ⟨k0, 1, none⟩ = some (.int .u64 (g1 : Int)) ∧ W.cell? ⟨k0, 2, none⟩ = some (.int .u64 (g2 : Int)) ∧ W.cell? ⟨k0, 3, none⟩ = some (.int .u64 0) ∧ W.cell? ⟨k1, 0, none⟩ = some (.int .u64 (a : Int)) ∧ W.cell? ⟨k1, 1, none⟩ = some (.int .u64 (b : Int)) ∧ W.cell? ⟨k1, 2, none⟩ = some (.int .u64 (c : Int)) ∧ W.cell? ⟨k1, 3, none⟩ = some (.int .u64 (d : Int)) ∧ W.cell? ⟨k2, 0, none⟩ = some (.int .u64 (p : Int)) ∧ W.cell? ⟨k2, 1, none⟩ = some (.int .u64 (q : Int)) ∧ W.cell? ⟨k2, 2, none⟩ = some (.int .u64 (r : Int)) ∧ W.cell? ⟨k2, 3, none⟩ = some (.int .u64 (s : Int)) ∧ Kept w k0 [⟨k0, 0, g0, g1, g2, 0⟩, ⟨k1, 0, a, b, c, d⟩, ⟨k2, 0, p, q, r, s⟩] W :=
  ⟨h.head.c0, h.head.c1, h.head.c2, h.head.c3, h.tail.head.c0, h.tail.head.c1, h.tail.head.c2, h.tail.head.c3, h.tail.tail.head.c0, h.tail.tail.head.c1, h.tail.tail.head.c2, h.tail.tail.head.c3, h⟩

set_option maxHeartbeats 4000000 in
set_option maxRecDepth 100000 in
theorem Plus_any (g0 g1 g2 P : Nat) (x y : Value) (m n : Nat) (hG : Gap g0 g1 g2 P) (hx : Four x m) (hy : Four y n) (hm : m < P) (hn : n < P) (w : World) :
    Calls Try.prog 45 #[.agg #[.int .u64 (g0 : Int), .int .u64 (g1 : Int), .int .u64 (g2 : Int), .int .u64 0], x, y] w (Ret fun e w' => Below w.heap.size w w' ∧ Four e ((m + n) % P)) := by
  obtain ⟨a, b, c, d, rfl, ha, hb, hc, hd, em⟩ := id hx
  obtain ⟨p, q, r, s, rfl, hp, hq, hr, hs, en⟩ := id hy
  have HX : Hid (Four _ m) := hx
  have HY : Hid (Four _ n) := hy
  have HO : Hid (∀ w, Calls Try.prog 83 #[.agg #[.int .u64 (g0 : Int), .int .u64 (g1 : Int), .int .u64 (g2 : Int), .int .u64 0], .agg #[.int .u64 (a : Int), .int .u64 (b : Int), .int .u64 (c : Int), .int .u64 (d : Int)], .agg #[.int .u64 (p : Int), .int .u64 (q : Int), .int .u64 (r : Int), .int .u64 (s : Int)]] w (Ret fun e w' => Below w.heap.size w w' ∧ Four e ((m + n) % P))) := fun w => sum_any g0 g1 g2 P _ _ m n hG hx hy hm hn w
  clear em en hx hy ha hb hc hd hp hq hr hs hG hm hn
  go_enter Try.func45, Try.ntmps45
  go_wp2_with fail
  have KP0 := kept4 w 79 85 85 85 g0 g1 g2 0 a b c d p q r s 0 0 0 0
  simp only [Int.natCast_zero] at KP0
  generalize World.alloc _ _ = W0 at KP0 ⊢
  generalize h3 : w.heap.size + 1 + 1 + 1 = k3 at KP0 ⊢
  generalize h2 : w.heap.size + 1 + 1 = k2 at KP0 ⊢
  generalize h1 : w.heap.size + 1 = k1 at KP0 ⊢
  have Q3 : Hid (w.heap.size ≤ k3) := by unfold Hid; omega
  generalize h0 : w.heap.size = k0 at KP0 Q3 ⊢
  have H0 : Hid (w.heap.size = k0) := h0
  have hl3 : ∀ x ∈ ([⟨k0, 0, g0, g1, g2, 0⟩, ⟨k1, 0, a, b, c, d⟩, ⟨k2, 0, p, q, r, s⟩] : List Blk), k3 ≠ x.k := by simp only [List.mem_cons, List.not_mem_nil, or_false]; rintro x (rfl | rfl | rfl) <;> simp only <;> omega
  clear h0 h1 h2 h3
  have KP : Kept w k0 [⟨k0, 0, g0, g1, g2, 0⟩, ⟨k1, 0, a, b, c, d⟩, ⟨k2, 0, p, q, r, s⟩] W0 := (((Kept.mk1 KP0.bl KP0.le).cons KP0.tail.tail.head).cons KP0.tail.head).cons KP0.head
  have T3 := KP0.tail.tail.tail.head.at4
  clear KP0
  obtain ⟨tc0, tc1, tc2, tc3, tf⟩ := id T3
  have zt := T3.lt
  go_region_held3 (fun w' => w'.cell? ⟨k0, 0, none⟩ = some (.int .u64 (g0 : Int)) ∧ w'.cell? ⟨k0, 1, none⟩ = some (.int .u64 (g1 : Int)) ∧ w'.cell? ⟨k0, 2, none⟩ = some (.int .u64 (g2 : Int)) ∧ w'.cell? ⟨k0, 3, none⟩ = some (.int .u64 0) ∧ w'.cell? ⟨k1, 0, none⟩ = some (.int .u64 (a : Int)) ∧ w'.cell? ⟨k1, 1, none⟩ = some (.int .u64 (b : Int)) ∧ w'.cell? ⟨k1, 2, none⟩ = some (.int .u64 (c : Int)) ∧ w'.cell? ⟨k1, 3, none⟩ = some (.int .u64 (d : Int)) ∧ w'.cell? ⟨k2, 0, none⟩ = some (.int .u64 (p : Int)) ∧ w'.cell? ⟨k2, 1, none⟩ = some (.int .u64 (q : Int)) ∧ w'.cell? ⟨k2, 2, none⟩ = some (.int .u64 (r : Int)) ∧ w'.cell? ⟨k2, 3, none⟩ = some (.int .u64 (s : Int)) ∧ Kept w k0 [⟨k0, 0, g0, g1, g2, 0⟩, ⟨k1, 0, a, b, c, d⟩, ⟨k2, 0, p, q, r, s⟩] w') (first | (with_reducible exact wrS_of KP) | (with_reducible exact wrS_of KP.drew) | (with_reducible exact wrS_of (KP.set4' Q3.out hl3 _ _ _ _)) | (with_reducible exact wrS_of (KP.set4' Q3.out hl3 _ _ _ _).drew) | fail) (first | (go_at_call_of 84 (Value.agg #[Value.int .u64 (a : Int), Value.int .u64 (b : Int), Value.int .u64 (c : Int), Value.int .u64 (d : Int)]); refine (four_any _ _ HX.out _).mono ?_; rintro e w1 ⟨v, rfl, hb1, rfl⟩; (first | (with_reducible (have KP1 := KP.drew.call hb1)) | (with_reducible (have KP1 := KP.call hb1)) | fail); (first | (with_reducible (have T1 := T3.drew.call hb1)) | (with_reducible (have T1 := T3.call hb1)) | fail); clear KP T3 hb1; have KP := KP1; have T3 := T1; clear KP1 T1; obtain ⟨tc0, tc1, tc2, tc3, tf⟩ := id T3; have zt := T3.lt) | (go_at_call_of 84 (Value.agg #[Value.int .u64 (p : Int), Value.int .u64 (q : Int), Value.int .u64 (r : Int), Value.int .u64 (s : Int)]); refine (four_any _ _ HY.out _).mono ?_; rintro e w1 ⟨v, rfl, hb1, rfl⟩; (first | (with_reducible (have KP1 := KP.drew.call hb1)) | (with_reducible (have KP1 := KP.call hb1)) | fail); (first | (with_reducible (have T1 := T3.drew.call hb1)) | (with_reducible (have T1 := T3.call hb1)) | fail); clear KP T3 hb1; have KP := KP1; have T3 := T1; clear KP1 T1; obtain ⟨tc0, tc1, tc2, tc3, tf⟩ := id T3; have zt := T3.lt) | (go_at_call 83; refine (HO.out _).mono ?_; rintro e w1 ⟨v, rfl, hb1, hF3⟩; obtain ⟨a', b', c', d', rfl, ha', hb', hc', hd', es3⟩ := id hF3; clear es3; have HF3 : Hid (Four _ _) := hF3; clear hF3; (first | (with_reducible (have KP1 := KP.drew.call hb1)) | (with_reducible (have KP1 := KP.call hb1)) | fail); (first | (with_reducible (have T1 := T3.drew.call hb1)) | (with_reducible (have T1 := T3.call hb1)) | fail); clear KP T3 hb1; have KP := KP1; have T3 := T1; clear KP1 T1; obtain ⟨tc0, tc1, tc2, tc3, tf⟩ := id T3; have zt := T3.lt) | (go_at_call 85; refine (number_any _ _ HF3.out _).mono ?_; rintro e w1 ⟨v, rfl, hb1, rfl⟩; (first | (with_reducible (have KP1 := KP.drew.call hb1)) | (with_reducible (have KP1 := KP.call hb1)) | fail); (first | (with_reducible (have T1 := T3.drew.call hb1)) | (with_reducible (have T1 := T3.call hb1)) | fail); clear KP T3 hb1; have KP := KP1; have T3 := T1; clear KP1 T1; obtain ⟨tc0, tc1, tc2, tc3, tf⟩ := id T3; have zt := T3.lt))
  all_goals (try go_wp2)
  all_goals (have RF := T3.self4 a' b' c' d')
  all_goals unfold set4 at RF
  all_goals (refine bodyPost_ret (v := (.agg #[.int .u64 (a' : Int), .int .u64 (b' : Int), .int .u64 (c' : Int), .int .u64 (d' : Int)])) ?_ rfl ?_)
  all_goals first | (refine ⟨_, rfl, ?_, HF3.out⟩; rw [H0.out]; exact below_set4 KP.bl Q3.out _ _ _ _) | (simp [results, Try.results45, go_sem, RF.c0, RF.c1, RF.c2, RF.c3]; done) | fail

set_option maxHeartbeats 4000000 in
set_option maxRecDepth 100000 in
theorem Minus_any (g0 g1 g2 P : Nat) (x y : Value) (m n : Nat) (hG : Gap g0 g1 g2 P) (hx : Four x m) (hy : Four y n) (hm : m < P) (hn : n < P) (w : World) :
    Calls Try.prog 46 #[.agg #[.int .u64 (g0 : Int), .int .u64 (g1 : Int), .int .u64 (g2 : Int), .int .u64 0], x, y] w (Ret fun e w' => Below w.heap.size w w' ∧ Four e ((m + P - n) % P)) := by
  obtain ⟨a, b, c, d, rfl, ha, hb, hc, hd, em⟩ := id hx
  obtain ⟨p, q, r, s, rfl, hp, hq, hr, hs, en⟩ := id hy
  have HX : Hid (Four _ m) := hx
  have HY : Hid (Four _ n) := hy
  have HO : Hid (∀ w, Calls Try.prog 86 #[.agg #[.int .u64 (g0 : Int), .int .u64 (g1 : Int), .int .u64 (g2 : Int), .int .u64 0], .agg #[.int .u64 (a : Int), .int .u64 (b : Int), .int .u64 (c : Int), .int .u64 (d : Int)], .agg #[.int .u64 (p : Int), .int .u64 (q : Int), .int .u64 (r : Int), .int .u64 (s : Int)]] w (Ret fun e w' => Below w.heap.size w w' ∧ Four e ((m + P - n) % P))) := fun w => difference_any g0 g1 g2 P _ _ m n hG hx hy hm hn w
  clear em en hx hy ha hb hc hd hp hq hr hs hG hm hn
  go_enter Try.func46, Try.ntmps46
  go_wp2_with fail
  have KP0 := kept4 w 79 85 85 85 g0 g1 g2 0 a b c d p q r s 0 0 0 0
  simp only [Int.natCast_zero] at KP0
  generalize World.alloc _ _ = W0 at KP0 ⊢
  generalize h3 : w.heap.size + 1 + 1 + 1 = k3 at KP0 ⊢
  generalize h2 : w.heap.size + 1 + 1 = k2 at KP0 ⊢
  generalize h1 : w.heap.size + 1 = k1 at KP0 ⊢
  have Q3 : Hid (w.heap.size ≤ k3) := by unfold Hid; omega
  generalize h0 : w.heap.size = k0 at KP0 Q3 ⊢
  have H0 : Hid (w.heap.size = k0) := h0
  have hl3 : ∀ x ∈ ([⟨k0, 0, g0, g1, g2, 0⟩, ⟨k1, 0, a, b, c, d⟩, ⟨k2, 0, p, q, r, s⟩] : List Blk), k3 ≠ x.k := by simp only [List.mem_cons, List.not_mem_nil, or_false]; rintro x (rfl | rfl | rfl) <;> simp only <;> omega
  clear h0 h1 h2 h3
  have KP : Kept w k0 [⟨k0, 0, g0, g1, g2, 0⟩, ⟨k1, 0, a, b, c, d⟩, ⟨k2, 0, p, q, r, s⟩] W0 := (((Kept.mk1 KP0.bl KP0.le).cons KP0.tail.tail.head).cons KP0.tail.head).cons KP0.head
  have T3 := KP0.tail.tail.tail.head.at4
  clear KP0
  obtain ⟨tc0, tc1, tc2, tc3, tf⟩ := id T3
  have zt := T3.lt
  go_region_held3 (fun w' => w'.cell? ⟨k0, 0, none⟩ = some (.int .u64 (g0 : Int)) ∧ w'.cell? ⟨k0, 1, none⟩ = some (.int .u64 (g1 : Int)) ∧ w'.cell? ⟨k0, 2, none⟩ = some (.int .u64 (g2 : Int)) ∧ w'.cell? ⟨k0, 3, none⟩ = some (.int .u64 0) ∧ w'.cell? ⟨k1, 0, none⟩ = some (.int .u64 (a : Int)) ∧ w'.cell? ⟨k1, 1, none⟩ = some (.int .u64 (b : Int)) ∧ w'.cell? ⟨k1, 2, none⟩ = some (.int .u64 (c : Int)) ∧ w'.cell? ⟨k1, 3, none⟩ = some (.int .u64 (d : Int)) ∧ w'.cell? ⟨k2, 0, none⟩ = some (.int .u64 (p : Int)) ∧ w'.cell? ⟨k2, 1, none⟩ = some (.int .u64 (q : Int)) ∧ w'.cell? ⟨k2, 2, none⟩ = some (.int .u64 (r : Int)) ∧ w'.cell? ⟨k2, 3, none⟩ = some (.int .u64 (s : Int)) ∧ Kept w k0 [⟨k0, 0, g0, g1, g2, 0⟩, ⟨k1, 0, a, b, c, d⟩, ⟨k2, 0, p, q, r, s⟩] w') (first | (with_reducible exact wrS_of KP) | (with_reducible exact wrS_of KP.drew) | (with_reducible exact wrS_of (KP.set4' Q3.out hl3 _ _ _ _)) | (with_reducible exact wrS_of (KP.set4' Q3.out hl3 _ _ _ _).drew) | fail) (first | (go_at_call_of 84 (Value.agg #[Value.int .u64 (a : Int), Value.int .u64 (b : Int), Value.int .u64 (c : Int), Value.int .u64 (d : Int)]); refine (four_any _ _ HX.out _).mono ?_; rintro e w1 ⟨v, rfl, hb1, rfl⟩; (first | (with_reducible (have KP1 := KP.drew.call hb1)) | (with_reducible (have KP1 := KP.call hb1)) | fail); (first | (with_reducible (have T1 := T3.drew.call hb1)) | (with_reducible (have T1 := T3.call hb1)) | fail); clear KP T3 hb1; have KP := KP1; have T3 := T1; clear KP1 T1; obtain ⟨tc0, tc1, tc2, tc3, tf⟩ := id T3; have zt := T3.lt) | (go_at_call_of 84 (Value.agg #[Value.int .u64 (p : Int), Value.int .u64 (q : Int), Value.int .u64 (r : Int), Value.int .u64 (s : Int)]); refine (four_any _ _ HY.out _).mono ?_; rintro e w1 ⟨v, rfl, hb1, rfl⟩; (first | (with_reducible (have KP1 := KP.drew.call hb1)) | (with_reducible (have KP1 := KP.call hb1)) | fail); (first | (with_reducible (have T1 := T3.drew.call hb1)) | (with_reducible (have T1 := T3.call hb1)) | fail); clear KP T3 hb1; have KP := KP1; have T3 := T1; clear KP1 T1; obtain ⟨tc0, tc1, tc2, tc3, tf⟩ := id T3; have zt := T3.lt) | (go_at_call 86; refine (HO.out _).mono ?_; rintro e w1 ⟨v, rfl, hb1, hF3⟩; obtain ⟨a', b', c', d', rfl, ha', hb', hc', hd', es3⟩ := id hF3; clear es3; have HF3 : Hid (Four _ _) := hF3; clear hF3; (first | (with_reducible (have KP1 := KP.drew.call hb1)) | (with_reducible (have KP1 := KP.call hb1)) | fail); (first | (with_reducible (have T1 := T3.drew.call hb1)) | (with_reducible (have T1 := T3.call hb1)) | fail); clear KP T3 hb1; have KP := KP1; have T3 := T1; clear KP1 T1; obtain ⟨tc0, tc1, tc2, tc3, tf⟩ := id T3; have zt := T3.lt) | (go_at_call 85; refine (number_any _ _ HF3.out _).mono ?_; rintro e w1 ⟨v, rfl, hb1, rfl⟩; (first | (with_reducible (have KP1 := KP.drew.call hb1)) | (with_reducible (have KP1 := KP.call hb1)) | fail); (first | (with_reducible (have T1 := T3.drew.call hb1)) | (with_reducible (have T1 := T3.call hb1)) | fail); clear KP T3 hb1; have KP := KP1; have T3 := T1; clear KP1 T1; obtain ⟨tc0, tc1, tc2, tc3, tf⟩ := id T3; have zt := T3.lt))
  all_goals (try go_wp2)
  all_goals (have RF := T3.self4 a' b' c' d')
  all_goals unfold set4 at RF
  all_goals (refine bodyPost_ret (v := (.agg #[.int .u64 (a' : Int), .int .u64 (b' : Int), .int .u64 (c' : Int), .int .u64 (d' : Int)])) ?_ rfl ?_)
  all_goals first | (refine ⟨_, rfl, ?_, HF3.out⟩; rw [H0.out]; exact below_set4 KP.bl Q3.out _ _ _ _) | (simp [results, Try.results46, go_sem, RF.c0, RF.c1, RF.c2, RF.c3]; done) | fail

set_option maxHeartbeats 4000000 in
set_option maxRecDepth 100000 in
theorem Times_any (g0 g1 g2 P : Nat) (x y : Value) (m n : Nat) (hG : Gap g0 g1 g2 P) (hx : Four x m) (hy : Four y n) (w : World) :
    Calls Try.prog 47 #[.agg #[.int .u64 (g0 : Int), .int .u64 (g1 : Int), .int .u64 (g2 : Int), .int .u64 0], x, y] w (Ret fun e w' => Below w.heap.size w w' ∧ Four e (m * n % P)) := by
  obtain ⟨a, b, c, d, rfl, ha, hb, hc, hd, em⟩ := id hx
  obtain ⟨p, q, r, s, rfl, hp, hq, hr, hs, en⟩ := id hy
  have HX : Hid (Four _ m) := hx
  have HY : Hid (Four _ n) := hy
  have HO : Hid (∀ w, Calls Try.prog 87 #[.agg #[.int .u64 (g0 : Int), .int .u64 (g1 : Int), .int .u64 (g2 : Int), .int .u64 0], .agg #[.int .u64 (a : Int), .int .u64 (b : Int), .int .u64 (c : Int), .int .u64 (d : Int)], .agg #[.int .u64 (p : Int), .int .u64 (q : Int), .int .u64 (r : Int), .int .u64 (s : Int)]] w (Ret fun e w' => Below w.heap.size w w' ∧ Four e (m * n % P))) := fun w => product_any g0 g1 g2 P _ _ m n hG hx hy w
  clear em en hx hy ha hb hc hd hp hq hr hs hG
  go_enter Try.func47, Try.ntmps47
  go_wp2_with fail
  have KP0 := kept4 w 79 85 85 85 g0 g1 g2 0 a b c d p q r s 0 0 0 0
  simp only [Int.natCast_zero] at KP0
  generalize World.alloc _ _ = W0 at KP0 ⊢
  generalize h3 : w.heap.size + 1 + 1 + 1 = k3 at KP0 ⊢
  generalize h2 : w.heap.size + 1 + 1 = k2 at KP0 ⊢
  generalize h1 : w.heap.size + 1 = k1 at KP0 ⊢
  have Q3 : Hid (w.heap.size ≤ k3) := by unfold Hid; omega
  generalize h0 : w.heap.size = k0 at KP0 Q3 ⊢
  have H0 : Hid (w.heap.size = k0) := h0
  have hl3 : ∀ x ∈ ([⟨k0, 0, g0, g1, g2, 0⟩, ⟨k1, 0, a, b, c, d⟩, ⟨k2, 0, p, q, r, s⟩] : List Blk), k3 ≠ x.k := by simp only [List.mem_cons, List.not_mem_nil, or_false]; rintro x (rfl | rfl | rfl) <;> simp only <;> omega
  clear h0 h1 h2 h3
  have KP : Kept w k0 [⟨k0, 0, g0, g1, g2, 0⟩, ⟨k1, 0, a, b, c, d⟩, ⟨k2, 0, p, q, r, s⟩] W0 := (((Kept.mk1 KP0.bl KP0.le).cons KP0.tail.tail.head).cons KP0.tail.head).cons KP0.head
  have T3 := KP0.tail.tail.tail.head.at4
  clear KP0
  obtain ⟨tc0, tc1, tc2, tc3, tf⟩ := id T3
  have zt := T3.lt
  go_region_held3 (fun w' => w'.cell? ⟨k0, 0, none⟩ = some (.int .u64 (g0 : Int)) ∧ w'.cell? ⟨k0, 1, none⟩ = some (.int .u64 (g1 : Int)) ∧ w'.cell? ⟨k0, 2, none⟩ = some (.int .u64 (g2 : Int)) ∧ w'.cell? ⟨k0, 3, none⟩ = some (.int .u64 0) ∧ w'.cell? ⟨k1, 0, none⟩ = some (.int .u64 (a : Int)) ∧ w'.cell? ⟨k1, 1, none⟩ = some (.int .u64 (b : Int)) ∧ w'.cell? ⟨k1, 2, none⟩ = some (.int .u64 (c : Int)) ∧ w'.cell? ⟨k1, 3, none⟩ = some (.int .u64 (d : Int)) ∧ w'.cell? ⟨k2, 0, none⟩ = some (.int .u64 (p : Int)) ∧ w'.cell? ⟨k2, 1, none⟩ = some (.int .u64 (q : Int)) ∧ w'.cell? ⟨k2, 2, none⟩ = some (.int .u64 (r : Int)) ∧ w'.cell? ⟨k2, 3, none⟩ = some (.int .u64 (s : Int)) ∧ Kept w k0 [⟨k0, 0, g0, g1, g2, 0⟩, ⟨k1, 0, a, b, c, d⟩, ⟨k2, 0, p, q, r, s⟩] w') (first | (with_reducible exact wrS_of KP) | (with_reducible exact wrS_of KP.drew) | (with_reducible exact wrS_of (KP.set4' Q3.out hl3 _ _ _ _)) | (with_reducible exact wrS_of (KP.set4' Q3.out hl3 _ _ _ _).drew) | fail) (first | (go_at_call_of 84 (Value.agg #[Value.int .u64 (a : Int), Value.int .u64 (b : Int), Value.int .u64 (c : Int), Value.int .u64 (d : Int)]); refine (four_any _ _ HX.out _).mono ?_; rintro e w1 ⟨v, rfl, hb1, rfl⟩; (first | (with_reducible (have KP1 := KP.drew.call hb1)) | (with_reducible (have KP1 := KP.call hb1)) | fail); (first | (with_reducible (have T1 := T3.drew.call hb1)) | (with_reducible (have T1 := T3.call hb1)) | fail); clear KP T3 hb1; have KP := KP1; have T3 := T1; clear KP1 T1; obtain ⟨tc0, tc1, tc2, tc3, tf⟩ := id T3; have zt := T3.lt) | (go_at_call_of 84 (Value.agg #[Value.int .u64 (p : Int), Value.int .u64 (q : Int), Value.int .u64 (r : Int), Value.int .u64 (s : Int)]); refine (four_any _ _ HY.out _).mono ?_; rintro e w1 ⟨v, rfl, hb1, rfl⟩; (first | (with_reducible (have KP1 := KP.drew.call hb1)) | (with_reducible (have KP1 := KP.call hb1)) | fail); (first | (with_reducible (have T1 := T3.drew.call hb1)) | (with_reducible (have T1 := T3.call hb1)) | fail); clear KP T3 hb1; have KP := KP1; have T3 := T1; clear KP1 T1; obtain ⟨tc0, tc1, tc2, tc3, tf⟩ := id T3; have zt := T3.lt) | (go_at_call 87; refine (HO.out _).mono ?_; rintro e w1 ⟨v, rfl, hb1, hF3⟩; obtain ⟨a', b', c', d', rfl, ha', hb', hc', hd', es3⟩ := id hF3; clear es3; have HF3 : Hid (Four _ _) := hF3; clear hF3; (first | (with_reducible (have KP1 := KP.drew.call hb1)) | (with_reducible (have KP1 := KP.call hb1)) | fail); (first | (with_reducible (have T1 := T3.drew.call hb1)) | (with_reducible (have T1 := T3.call hb1)) | fail); clear KP T3 hb1; have KP := KP1; have T3 := T1; clear KP1 T1; obtain ⟨tc0, tc1, tc2, tc3, tf⟩ := id T3; have zt := T3.lt) | (go_at_call 85; refine (number_any _ _ HF3.out _).mono ?_; rintro e w1 ⟨v, rfl, hb1, rfl⟩; (first | (with_reducible (have KP1 := KP.drew.call hb1)) | (with_reducible (have KP1 := KP.call hb1)) | fail); (first | (with_reducible (have T1 := T3.drew.call hb1)) | (with_reducible (have T1 := T3.call hb1)) | fail); clear KP T3 hb1; have KP := KP1; have T3 := T1; clear KP1 T1; obtain ⟨tc0, tc1, tc2, tc3, tf⟩ := id T3; have zt := T3.lt))
  all_goals (try go_wp2)
  all_goals (have RF := T3.self4 a' b' c' d')
  all_goals unfold set4 at RF
  all_goals (refine bodyPost_ret (v := (.agg #[.int .u64 (a' : Int), .int .u64 (b' : Int), .int .u64 (c' : Int), .int .u64 (d' : Int)])) ?_ rfl ?_)
  all_goals first | (refine ⟨_, rfl, ?_, HF3.out⟩; rw [H0.out]; exact below_set4 KP.bl Q3.out _ _ _ _) | (simp [results, Try.results47, go_sem, RF.c0, RF.c1, RF.c2, RF.c3]; done) | fail
end Go.Proofs.Ytbimbalfdmffaab
namespace Go.Proofs.Ytbimbalfdmffaab
open Go.RowKit Go.Sort

theorem At4.wd {w : World} {k a b c d : Nat} (h : At4 w k a b c d) (q : Nat) (hq : q < 4) : w.cell? ⟨k, q, none⟩ = some (.int .u64 (wd a b c d q : Int)) := by
  have h' : q = 0 ∨ q = 1 ∨ q = 2 ∨ q = 3 := by omega
  rcases h' with rfl | rfl | rfl | rfl
  · exact h.c0
  · exact h.c1
  · exact h.c2
  · exact h.c3

theorem wrap_i (n : Nat) (h : n < 9223372036854775808) : IntKind.i64.wrap (n : Int) = (n : Int) := by rw [IntKind.wrap_i64]; omega

theorem or_bit (b t : Nat) (hb : b < 4294967296) (ht : t < 2) : bits .or .i64 ((2 * b : Nat) : Int) (t : Int) = ((2 * b + t : Nat) : Int) := by
  rw [(bits_nat .i64 40 (by decide) (fun n h0 h1 => by rw [IntKind.wrap_i64]; omega) (2 * b) t (by omega) (by omega)).2]
  have := Nat.two_pow_add_eq_or_of_lt (i := 1) (b := t) (by omega) b
  rw [show 2 ^ 1 * b = 2 * b from rfl] at this
  rw [← this]

theorem and_one (v : Nat) (hv : v < 18446744073709551616) : bits .and .u64 (v : Int) 1 = ((v % 2 : Nat) : Int) := by
  have := bits_and_u64_nat v 1 hv (by omega)
  rw [show v &&& 1 = v % 2 from Nat.and_one_is_mod v] at this
  exact this

theorem bits_start {m f c g : Nat} (hm : m < top) (h : g = c ∨ f + g = 256) : m / 2 ^ (f + g) % 2 ^ (c - g) = 0 := by
  rcases h with rfl | h
  · rw [Nat.sub_self, Nat.pow_zero, Nat.mod_one]
  · rw [h, Nat.div_eq_of_lt (by exact hm), Nat.zero_mod]

theorem bits_next {m f g c : Nat} (hg : 0 < g) (hc : g ≤ c) : m / 2 ^ (f + (g - 1)) % 2 ^ (c - (g - 1)) = 2 * (m / 2 ^ (f + g) % 2 ^ (c - g)) + m / 2 ^ (f + (g - 1)) % 2 := by
  rw [show c - (g - 1) = c - g + 1 by omega, bit_step, show f + (g - 1) + 1 = f + g by omega]

set_option maxHeartbeats 2000000 in
set_option maxRecDepth 100000 in
theorem Bits_any (x : Value) (m f c : Nat) (hx : Four x m) (hf : f ≤ 256) (hc : c ≤ 32) (w : World) :
    Calls Try.prog 112 #[x, .int .i64 (f : Int), .int .i64 (c : Int)] w (Ret fun e w' => Below w.heap.size w w' ∧ e = .int .i64 ((m / 2 ^ f % 2 ^ c : Nat) : Int)) := by
  obtain ⟨x0, x1, x2, x3, rfl, hx0, hx1, hx2, hx3, em⟩ := id hx
  have HX : Hid (Four _ m) := hx
  have HL : Hid (x0 < 18446744073709551616 ∧ x1 < 18446744073709551616 ∧ x2 < 18446744073709551616 ∧ x3 < 18446744073709551616 ∧ m = val x0 x1 x2 x3) := ⟨hx0, hx1, hx2, hx3, em⟩
  clear hx hx0 hx1 hx2 hx3 em
  have HM : Hid (m < top) := HX.out.lt
  clear HX
  obtain ⟨R, hR⟩ : ∃ R, m / 2 ^ f % 2 ^ c = R := ⟨_, rfl⟩
  have HR : Hid (m / 2 ^ f % 2 ^ c = R) := hR
  rw [hR]
  clear hR
  by_cases hle : (f : Int) + (c : Int) ≤ 256
  · have hle2 : ¬ (256 : Int) < (f : Int) + (c : Int) := by omega
    go_enter Try.func112, Try.ntmps112
    go_wp2
    have X := At4.made w 85 x0 x1 x2 x3 rfl
    have BL : Hid (Below w.heap.size w _) := below1 w (.cells #[.int .u64 (x0 : Int), .int .u64 (x1 : Int), .int .u64 (x2 : Int), .int .u64 (x3 : Int)] 85)
    generalize World.alloc _ _ = W0 at X BL ⊢
    go_loopg [7, 8] (c) (fun gk s7 s8 wr => gk ≤ c ∧ f + gk ≤ 256 ∧ s7 = .int .i64 ((m / 2 ^ (f + gk) % 2 ^ (c - gk) : Nat) : Int) ∧ s8 = .int .i64 ((f : Int) + (gk : Int) - 1) ∧ W0 = wr)
    case atStart => exact ⟨by omega, by omega, by rw [bits_start HM.out (Or.inl rfl)]; rfl, by congr 1 <;> omega, rfl⟩
    case round =>
      obtain ⟨hg1, hg2, rfl, rfl, rfl⟩ := hrel
      by_cases hz : gk = 0
      · subst hz
        have d1 : ¬ (f : Int) ≤ (f : Int) + ((0 : Nat) : Int) - 1 := by omega
        rw [Nat.add_zero, Nat.sub_zero, HR.out]
        go_wp2
        go_ret
        exact ⟨_, rfl, BL.out, rfl⟩
      · obtain ⟨i, hi⟩ : ∃ i, f + (gk - 1) = i := ⟨_, rfl⟩
        have e1 : (f : Int) + (gk : Int) - 1 = (i : Int) := by omega
        have d1 : (f : Int) ≤ (i : Int) := by omega
        have hi2 : i < 256 := by omega
        have xw := X.wd (i / 64) (by omega)
        have hwl : wd x0 x1 x2 x3 (i / 64) < 18446744073709551616 := wd_lt _ HL.out.1 HL.out.2.1 HL.out.2.2.1 HL.out.2.2.2.1
        have hbit : wd x0 x1 x2 x3 (i / 64) / 2 ^ (i % 64) % 2 = m / 2 ^ i % 2 := by rw [HL.out.2.2.2.2]; exact wd_bit i hi2 HL.out.1 HL.out.2.1 HL.out.2.2.1 HL.out.2.2.2.1
        have i2 : (i : Int).tdiv 64 = ((i / 64 : Nat) : Int) := by rw [Int.tdiv_eq_ediv_of_nonneg (by omega)]; omega
        have i3 : (i : Int).tmod 64 = ((i % 64 : Nat) : Int) := by rw [Int.tmod_eq_emod_of_nonneg (by omega)]; omega
        have i4 : (i / 64 : Nat) < 4 := by omega
        generalize wd x0 x1 x2 x3 (i / 64) = v at xw hwl hbit
        have hvl : v / 2 ^ (i % 64) < 18446744073709551616 := Nat.lt_of_le_of_lt (Nat.div_le_self _ _) hwl
        have hand : bits .and .u64 ((v : Int) / 2 ^ (i % 64)) 1 = ((m / 2 ^ i % 2 : Nat) : Int) := by
          have := and_one (v / 2 ^ (i % 64)) hvl
          rw [hbit] at this
          rw [← this, Int.natCast_ediv, Int.natCast_pow]
          rfl
        obtain ⟨t, ht⟩ : ∃ t, m / 2 ^ i % 2 = t := ⟨_, rfl⟩
        have ht2 : t < 2 := by omega
        have hN := bits_next (m := m) (f := f) (g := gk) (c := c) (by omega) hg1
        rw [hi, ht] at hN
        have hbl : m / 2 ^ (f + gk) % 2 ^ (c - gk) < 4294967296 := Nat.lt_of_lt_of_le (Nat.mod_lt _ (Nat.pow_pos (by decide))) (show 2 ^ (c - gk) ≤ 2 ^ 32 from Nat.pow_le_pow_right (by decide) (by omega))
        rw [ht] at hand
        generalize m / 2 ^ (f + gk) % 2 ^ (c - gk) = B at hN hbl ⊢
        have hor := or_bit B t hbl ht2
        have hsh : IntKind.i64.wrap ((B : Int) * 2) = ((2 * B : Nat) : Int) := by rw [show (B : Int) * 2 = ((2 * B : Nat) : Int) by omega]; exact wrap_i _ (by omega)
        have hct : IntKind.i64.wrap (t : Int) = (t : Int) := wrap_i _ (by omega)
        have HN : Hid (_ = _) := hN
        have HI : Hid (f + (gk - 1) = i) := hi
        have zx := X.lt
        clear hN hi hbit ht hvl
        rw [e1]
        clear e1
        go_wp2
        go_roundg (gk - 1)
        case measure => omega
        case rel =>
          refine ⟨by omega, by omega, ?_, ?_, rfl⟩
          · rw [HI.out, HN.out, ← hor, Int.natCast_mul]; rfl
          · congr 1; have := HI.out; omega
  · have hlt : (256 : Int) < (f : Int) + (c : Int) := by omega
    go_enter Try.func112, Try.ntmps112
    go_wp2
    have X := At4.made w 85 x0 x1 x2 x3 rfl
    have BL : Hid (Below w.heap.size w _) := below1 w (.cells #[.int .u64 (x0 : Int), .int .u64 (x1 : Int), .int .u64 (x2 : Int), .int .u64 (x3 : Int)] 85)
    generalize World.alloc _ _ = W0 at X BL ⊢
    go_loopg [7, 8] (256 - f) (fun gk s7 s8 wr => gk ≤ c ∧ f + gk ≤ 256 ∧ s7 = .int .i64 ((m / 2 ^ (f + gk) % 2 ^ (c - gk) : Nat) : Int) ∧ s8 = .int .i64 ((f : Int) + (gk : Int) - 1) ∧ W0 = wr)
    case atStart => exact ⟨by omega, by omega, by rw [bits_start HM.out (Or.inr (by omega))]; rfl, by congr 1 <;> omega, rfl⟩
    case round =>
      obtain ⟨hg1, hg2, rfl, rfl, rfl⟩ := hrel
      by_cases hz : gk = 0
      · subst hz
        have d1 : ¬ (f : Int) ≤ (f : Int) + ((0 : Nat) : Int) - 1 := by omega
        rw [Nat.add_zero, Nat.sub_zero, HR.out]
        go_wp2
        go_ret
        exact ⟨_, rfl, BL.out, rfl⟩
      · obtain ⟨i, hi⟩ : ∃ i, f + (gk - 1) = i := ⟨_, rfl⟩
        have e1 : (f : Int) + (gk : Int) - 1 = (i : Int) := by omega
        have d1 : (f : Int) ≤ (i : Int) := by omega
        have hi2 : i < 256 := by omega
        have xw := X.wd (i / 64) (by omega)
        have hwl : wd x0 x1 x2 x3 (i / 64) < 18446744073709551616 := wd_lt _ HL.out.1 HL.out.2.1 HL.out.2.2.1 HL.out.2.2.2.1
        have hbit : wd x0 x1 x2 x3 (i / 64) / 2 ^ (i % 64) % 2 = m / 2 ^ i % 2 := by rw [HL.out.2.2.2.2]; exact wd_bit i hi2 HL.out.1 HL.out.2.1 HL.out.2.2.1 HL.out.2.2.2.1
        have i2 : (i : Int).tdiv 64 = ((i / 64 : Nat) : Int) := by rw [Int.tdiv_eq_ediv_of_nonneg (by omega)]; omega
        have i3 : (i : Int).tmod 64 = ((i % 64 : Nat) : Int) := by rw [Int.tmod_eq_emod_of_nonneg (by omega)]; omega
        have i4 : (i / 64 : Nat) < 4 := by omega
        generalize wd x0 x1 x2 x3 (i / 64) = v at xw hwl hbit
        have hvl : v / 2 ^ (i % 64) < 18446744073709551616 := Nat.lt_of_le_of_lt (Nat.div_le_self _ _) hwl
        have hand : bits .and .u64 ((v : Int) / 2 ^ (i % 64)) 1 = ((m / 2 ^ i % 2 : Nat) : Int) := by
          have := and_one (v / 2 ^ (i % 64)) hvl
          rw [hbit] at this
          rw [← this, Int.natCast_ediv, Int.natCast_pow]
          rfl
        obtain ⟨t, ht⟩ : ∃ t, m / 2 ^ i % 2 = t := ⟨_, rfl⟩
        have ht2 : t < 2 := by omega
        have hN := bits_next (m := m) (f := f) (g := gk) (c := c) (by omega) hg1
        rw [hi, ht] at hN
        have hbl : m / 2 ^ (f + gk) % 2 ^ (c - gk) < 4294967296 := Nat.lt_of_lt_of_le (Nat.mod_lt _ (Nat.pow_pos (by decide))) (show 2 ^ (c - gk) ≤ 2 ^ 32 from Nat.pow_le_pow_right (by decide) (by omega))
        rw [ht] at hand
        generalize m / 2 ^ (f + gk) % 2 ^ (c - gk) = B at hN hbl ⊢
        have hor := or_bit B t hbl ht2
        have hsh : IntKind.i64.wrap ((B : Int) * 2) = ((2 * B : Nat) : Int) := by rw [show (B : Int) * 2 = ((2 * B : Nat) : Int) by omega]; exact wrap_i _ (by omega)
        have hct : IntKind.i64.wrap (t : Int) = (t : Int) := wrap_i _ (by omega)
        have HN : Hid (_ = _) := hN
        have HI : Hid (f + (gk - 1) = i) := hi
        have zx := X.lt
        clear hN hi hbit ht hvl
        rw [e1]
        clear e1
        go_wp2
        go_roundg (gk - 1)
        case measure => omega
        case rel =>
          refine ⟨by omega, by omega, ?_, ?_, rfl⟩
          · rw [HI.out, HN.out, ← hor, Int.natCast_mul]; rfl
          · congr 1; have := HI.out; omega
end Go.Proofs.Ytbimbalfdmffaab
namespace Go.Proofs.Ytbimbalfdmffaab
open Go.RowKit Go.Sort

def pw0 : Array Value := #[.int .u64 1] ++ Array.replicate 63 (.int .u64 0)
def pwz : Array Value := Array.replicate 64 (.int .u64 0)
theorem zeroT : ∀ w : World, (zeroValue 147).run Try.prog w = .ok (.agg pwz) w := fun _ => by kernel_rfl
theorem builtT : Try.prog.built 147 [(0, .agg #[.int .u64 1, .int .u64 0, .int .u64 0, .int .u64 0])] = some pw0 := by kernel_rfl
theorem sizeT : (Try.prog.info? 147).map (·.size) = some pw0.size := by kernel_rfl
theorem oneT : pw0.all (·.oneCell') = true := by kernel_rfl

theorem wpList_built {ops : Array Oper} {rest : List Oper} {o : Oper} {a : Act} {w : World} {Q : Exit → Act → World → Prop} (hg : o.guard = none) (t : TypeId) (parts : Array (Nat × Operand)) (cells : Array Value) (ho : o.op = .build t parts)
    (hf : Try.prog.built t (parts.map fun (i, x) => (i, a.eval x)).toList = some cells)
    (h : wpList Try.prog ops Q rest (a.put o.dst (.agg cells)) w) : wpList Try.prog ops Q (o :: rest) a w :=
  wpList_build hg t parts ho (by rw [hf]; rfl) (by rw [hf]; exact h)

/-- Sixteen numbers of four words in a block: the first i are powers. -/
def Tab (W : World) (k m P i : Nat) : Prop := ∀ j, j < 16 → ∃ a b c d : Nat, (Blk.mk k (j * 4) a b c d).at W ∧ (j < i → Four (.agg #[.int .u64 (a : Int), .int .u64 (b : Int), .int .u64 (c : Int), .int .u64 (d : Int)]) (m ^ j % P))

theorem Tab.call {W w1 : World} {k m P i : Nat} (h : Tab W k m P i) (hb : Below W.heap.size W w1) : Tab w1 k m P i := fun j hj => by
  obtain ⟨a, b, c, d, h1, h2⟩ := h j hj
  exact ⟨a, b, c, d, h1.call hb, h2⟩
theorem Tab.drew {W : World} {k m P i : Nat} (h : Tab W k m P i) : Tab W.drew k m P i := fun j hj => by
  obtain ⟨a, b, c, d, h1, h2⟩ := h j hj
  exact ⟨a, b, c, d, ⟨h1.c0, h1.c1, h1.c2, h1.c3, h1.f⟩, h2⟩
theorem Tab.other {W : World} {k m P i g o : Nat} (h : Tab W k m P i) (hg : g ≠ k) (v : Value) : Tab (W.setCell ⟨g, o, none⟩ v) k m P i := fun j hj => by
  obtain ⟨a, b, c, d, h1, h2⟩ := h j hj
  exact ⟨a, b, c, d, h1.other hg v, h2⟩
theorem Blk.at.off {W : World} {x : Blk} {i : Nat} (h : x.at W) (hi : i < x.o ∨ x.o + 3 < i) (v : Value) : x.at (W.setCell ⟨x.k, i, none⟩ v) :=
  ⟨by rw [World.cell?_setCell_other _ _ _ _ (ne_addr (Or.inr (by omega)))]; exact h.c0, by rw [World.cell?_setCell_other _ _ _ _ (ne_addr (Or.inr (by omega)))]; exact h.c1,
   by rw [World.cell?_setCell_other _ _ _ _ (ne_addr (Or.inr (by omega)))]; exact h.c2, by rw [World.cell?_setCell_other _ _ _ _ (ne_addr (Or.inr (by omega)))]; exact h.c3, fun o => by rw [World.frozen?_setCell]; exact h.f o⟩
theorem Blk.at.put {W : World} {k o a b c d : Nat} (h : (Blk.mk k o a b c d).at W) (x y z t : Nat) :
    (Blk.mk k o x y z t).at ((((W.setCell ⟨k, o, none⟩ (.int .u64 (x : Int))).setCell ⟨k, o + 1, none⟩ (.int .u64 (y : Int))).setCell ⟨k, o + 2, none⟩ (.int .u64 (z : Int))).setCell ⟨k, o + 3, none⟩ (.int .u64 (t : Int))) := by
  have s0 := World.cell?_setCell_same W ⟨k, o, none⟩ (.int .u64 (x : Int)) h.c0
  have o1 : ∀ (W : World) (i j : Nat) (v : Value), i ≠ j → (W.setCell ⟨k, i, none⟩ v).cell? ⟨k, j, none⟩ = W.cell? ⟨k, j, none⟩ := fun W i j v hij => World.cell?_setCell_other _ _ _ _ (ne_addr (Or.inr hij))
  refine ⟨?_, ?_, ?_, ?_, fun i => ?_⟩
  · show World.cell? _ ⟨k, o, none⟩ = _
    rw [o1 _ _ _ _ (by omega), o1 _ _ _ _ (by omega), o1 _ _ _ _ (by omega)]; exact s0
  · show World.cell? _ ⟨k, o + 1, none⟩ = _
    rw [o1 _ _ _ _ (by omega), o1 _ _ _ _ (by omega)]
    exact World.cell?_setCell_same _ _ _ (by rw [o1 _ _ _ _ (by omega)]; exact h.c1)
  · show World.cell? _ ⟨k, o + 2, none⟩ = _
    rw [o1 _ _ _ _ (by omega)]
    exact World.cell?_setCell_same _ _ _ (by rw [o1 _ _ _ _ (by omega), o1 _ _ _ _ (by omega)]; exact h.c2)
  · show World.cell? _ ⟨k, o + 3, none⟩ = _
    exact World.cell?_setCell_same _ _ _ (by rw [o1 _ _ _ _ (by omega), o1 _ _ _ _ (by omega), o1 _ _ _ _ (by omega)]; exact h.c3)
  · rw [World.frozen?_setCell, World.frozen?_setCell, World.frozen?_setCell, World.frozen?_setCell]; exact h.f i
theorem Tab.put {W : World} {k m P i x y z t : Nat} (h : Tab W k m P i) (hi : i < 16) (hF : Four (.agg #[.int .u64 (x : Int), .int .u64 (y : Int), .int .u64 (z : Int), .int .u64 (t : Int)]) (m ^ i % P)) :
    Tab ((((W.setCell ⟨k, i * 4, none⟩ (.int .u64 (x : Int))).setCell ⟨k, i * 4 + 1, none⟩ (.int .u64 (y : Int))).setCell ⟨k, i * 4 + 2, none⟩ (.int .u64 (z : Int))).setCell ⟨k, i * 4 + 3, none⟩ (.int .u64 (t : Int))) k m P (i + 1) := fun j hj => by
  obtain ⟨a, b, c, d, h1, h2⟩ := h j hj
  by_cases hji : j = i
  · subst hji
    exact ⟨x, y, z, t, h1.put x y z t, fun _ => hF⟩
  · refine ⟨a, b, c, d, ?_, fun h3 => h2 (by omega)⟩
    exact (((h1.off (by simp only; omega) _).off (by simp only; omega) _).off (by simp only; omega) _).off (by simp only; omega) _

theorem newest (w : World) (o : Obj) : (w.alloc o).heap[w.heap.size]? = some o := by
  show (w.heap.push o)[w.heap.size]? = some o
  simp

theorem pw0_at (j : Nat) : pw0[j]? = if j = 0 then some (.int .u64 1) else if j < 64 then some (.int .u64 0) else none := by
  match j with
  | 0 => rfl
  | j + 1 =>
    rw [if_neg (by omega)]
    unfold pw0
    rw [Array.getElem?_append_right (by simp)]
    by_cases h : j + 1 < 64
    · rw [if_pos h]; simp [Array.getElem?_replicate]; omega
    · rw [if_neg h]; simp [Array.getElem?_replicate]; omega

theorem Tab.new (w : World) (m P : Nat) (hP : 1 < P) : Tab ((w.alloc (.cells pwz 147)).setRow w.heap.size pw0) w.heap.size m P 1 := fun j hj => by
  have hg : (w.alloc (.cells pwz 147)).heap[w.heap.size]? = some (.cells pwz 147 (0, 0)) := newest w _
  have hc := fun i => cell_setRow_same (w.alloc (.cells pwz 147)) w.heap.size i pwz pw0 147 (0, 0) hg
  have hf : ∀ o, ((w.alloc (.cells pwz 147)).setRow w.heap.size pw0).frozen? ⟨w.heap.size, o, none⟩ = false := fun o => by
    have h1 := setRow_heap _ _ _ pw0 _ _ hg
    unfold World.frozen?
    dsimp only
    rw [h1]
    simp
  by_cases h0 : j = 0
  · subst h0
    refine ⟨1, 0, 0, 0, ⟨?_, ?_, ?_, ?_, hf⟩, fun _ => ?_⟩
    · rw [hc, pw0_at]; rfl
    · rw [hc, pw0_at]; rfl
    · rw [hc, pw0_at]; rfl
    · rw [hc, pw0_at]; rfl
    · rw [Nat.pow_zero, Nat.mod_eq_of_lt hP]
      exact Four.mk (by decide) (by decide) (by decide) (by decide) rfl
  · refine ⟨0, 0, 0, 0, ⟨?_, ?_, ?_, ?_, hf⟩, fun h => by omega⟩
    · rw [hc, pw0_at, if_neg (by simp only; omega), if_pos (by simp only; omega)]; rfl
    · rw [hc, pw0_at, if_neg (by simp only; omega), if_pos (by simp only; omega)]; rfl
    · rw [hc, pw0_at, if_neg (by simp only; omega), if_pos (by simp only; omega)]; rfl
    · rw [hc, pw0_at, if_neg (by simp only; omega), if_pos (by simp only; omega)]; rfl

theorem below_setRow {B : Nat} {w W : World} (h : Below B w W) {g : Nat} (hg : B ≤ g) (cs : Array Value) : Below B w (W.setRow g cs) :=
  ⟨h.os, h.tape, h.output, by rw [setRow_size]; exact h.size, fun k hk => by rw [setRow_other W g k cs (by omega)]; exact h.block k hk⟩

theorem pow_kept {w W W' : World} {k0 : Nat} {l : List Blk} (h : Kept w k0 l W) (hb : Below W.heap.size W W') : Kept w k0 l W' := h.call hb
theorem below_tab (W : World) : Below W.heap.size W ((W.alloc (.cells pwz 147)).setRow W.heap.size pw0) := below_setRow (below1 W _) (Nat.le_refl _) _
end Go.Proofs.Ytbimbalfdmffaab
namespace Go.Proofs.Ytbimbalfdmffaab
open Go.RowKit Go.Sort

theorem powS_of {w W : World} {k0 k1 k2 k3 k4 j a b c d p q r s pa pb pc pd g0 g1 g2 : Nat} (h : Kept w k0 [⟨k0, 0, g0, g1, g2, 0⟩, ⟨k4, j * 4, pa, pb, pc, pd⟩, ⟨k1, 0, a, b, c, d⟩, ⟨k2, 0, p, q, r, s⟩, ⟨k3, 0, 0, 0, 0, 0⟩] W) : W.cell? ⟨k0, 0, none⟩ = some (.int .u64 (g0 : Int)) ∧ W.cell? ⟨k0, 1, none⟩ = some (.int .u64 (g1 : Int)) ∧ W.cell? ⟨k0, 2, none⟩ = some (.int .u64 (g2 : Int)) ∧ W.cell? ⟨k0, 3, none⟩ = some (.int .u64 0) ∧ W.cell? ⟨k4, j * 4, none⟩ = some (.int .u64 (pa : Int)) ∧ W.cell? ⟨k4, j * 4 + 1, none⟩ = some (.int .u64 (pb : Int)) ∧ W.cell? ⟨k4, j * 4 + 2, none⟩ = some (.int .u64 (pc : Int)) ∧ W.cell? ⟨k4, j * 4 + 3, none⟩ = some (.int .u64 (pd : Int)) ∧ W.cell? ⟨k1, 0, none⟩ = some (.int .u64 (a : Int)) ∧ W.cell? ⟨k1, 1, none⟩ = some (.int .u64 (b : Int)) ∧ W.cell? ⟨k1, 2, none⟩ = some (.int .u64 (c : Int)) ∧ W.cell? ⟨k1, 3, none⟩ = some (.int .u64 (d : Int)) ∧ Kept w k0 [⟨k0, 0, g0, g1, g2, 0⟩, ⟨k4, j * 4, pa, pb, pc, pd⟩, ⟨k1, 0, a, b, c, d⟩, ⟨k2, 0, p, q, r, s⟩, ⟨k3, 0, 0, 0, 0, 0⟩] W :=
  ⟨h.head.c0, h.head.c1, h.head.c2, h.head.c3, h.tail.head.c0, h.tail.head.c1, h.tail.head.c2, h.tail.head.c3, h.tail.tail.head.c0, h.tail.tail.head.c1, h.tail.tail.head.c2, h.tail.tail.head.c3, h⟩
theorem powT_of {w W : World} {k0 k1 k2 k3 k4 k5 m P a b c d p q r s na nb nc nd g0 g1 g2 : Nat} (h : Kept w k0 (⟨k5, 0, na, nb, nc, nd⟩ :: [⟨k0, 0, g0, g1, g2, 0⟩, ⟨k1, 0, a, b, c, d⟩, ⟨k2, 0, p, q, r, s⟩, ⟨k3, 0, 0, 0, 0, 0⟩]) W) (t : Tab W k4 m P 16) : W.cell? ⟨k0, 0, none⟩ = some (.int .u64 (g0 : Int)) ∧ W.cell? ⟨k0, 1, none⟩ = some (.int .u64 (g1 : Int)) ∧ W.cell? ⟨k0, 2, none⟩ = some (.int .u64 (g2 : Int)) ∧ W.cell? ⟨k0, 3, none⟩ = some (.int .u64 0) ∧ W.cell? ⟨k5, 0, none⟩ = some (.int .u64 (na : Int)) ∧ W.cell? ⟨k5, 1, none⟩ = some (.int .u64 (nb : Int)) ∧ W.cell? ⟨k5, 2, none⟩ = some (.int .u64 (nc : Int)) ∧ W.cell? ⟨k5, 3, none⟩ = some (.int .u64 (nd : Int)) ∧ W.cell? ⟨k2, 0, none⟩ = some (.int .u64 (p : Int)) ∧ W.cell? ⟨k2, 1, none⟩ = some (.int .u64 (q : Int)) ∧ W.cell? ⟨k2, 2, none⟩ = some (.int .u64 (r : Int)) ∧ W.cell? ⟨k2, 3, none⟩ = some (.int .u64 (s : Int)) ∧ Kept w k0 (⟨k5, 0, na, nb, nc, nd⟩ :: [⟨k0, 0, g0, g1, g2, 0⟩, ⟨k1, 0, a, b, c, d⟩, ⟨k2, 0, p, q, r, s⟩, ⟨k3, 0, 0, 0, 0, 0⟩]) W ∧ Tab W k4 m P 16 :=
  ⟨h.tail.head.c0, h.tail.head.c1, h.tail.head.c2, h.tail.head.c3, h.head.c0, h.head.c1, h.head.c2, h.head.c3, h.tail.tail.tail.head.c0, h.tail.tail.tail.head.c1, h.tail.tail.tail.head.c2, h.tail.tail.tail.head.c3, h, t⟩
/-- A store into another place of the table. -/
theorem pow_put {w W : World} {k0 k1 k2 k3 k4 j i a b c d p q r s pa pb pc pd g0 g1 g2 : Nat} (h : Kept w k0 [⟨k0, 0, g0, g1, g2, 0⟩, ⟨k4, j * 4, pa, pb, pc, pd⟩, ⟨k1, 0, a, b, c, d⟩, ⟨k2, 0, p, q, r, s⟩, ⟨k3, 0, 0, 0, 0, 0⟩] W) (hk : k0 ≤ k4) (h0 : k4 ≠ k0) (h1 : k4 ≠ k1) (h2 : k4 ≠ k2) (h3 : k4 ≠ k3) (hi : i < j * 4 ∨ j * 4 + 3 < i) (v : Value) : Kept w k0 [⟨k0, 0, g0, g1, g2, 0⟩, ⟨k4, j * 4, pa, pb, pc, pd⟩, ⟨k1, 0, a, b, c, d⟩, ⟨k2, 0, p, q, r, s⟩, ⟨k3, 0, 0, 0, 0, 0⟩] (W.setCell ⟨k4, i, none⟩ v) := by
  refine ((((((Kept.mk1 (h.bl.setCell (p := ⟨k4, i, none⟩) hk v) (by simpa using h.le)).cons ?_).cons ?_).cons ?_).cons ?_).cons ?_)
  · exact h.tail.tail.tail.tail.head.other h3 v
  · exact h.tail.tail.tail.head.other h2 v
  · exact h.tail.tail.head.other h1 v
  · exact h.tail.head.off hi v
  · exact h.head.other h0 v

theorem pow_puts {w W : World} {k0 k1 k2 k3 k4 j i a b c d p q r s pa pb pc pd g0 g1 g2 : Nat} (h : Kept w k0 [⟨k0, 0, g0, g1, g2, 0⟩, ⟨k4, j * 4, pa, pb, pc, pd⟩, ⟨k1, 0, a, b, c, d⟩, ⟨k2, 0, p, q, r, s⟩, ⟨k3, 0, 0, 0, 0, 0⟩] W) (hk : k0 ≤ k4) (h0 : k4 ≠ k0) (h1 : k4 ≠ k1) (h2 : k4 ≠ k2) (h3 : k4 ≠ k3)
    (o0 : i * 4 < j * 4 ∨ j * 4 + 3 < i * 4) (o1 : i * 4 + 1 < j * 4 ∨ j * 4 + 3 < i * 4 + 1) (o2 : i * 4 + 2 < j * 4 ∨ j * 4 + 3 < i * 4 + 2) (o3 : i * 4 + 3 < j * 4 ∨ j * 4 + 3 < i * 4 + 3) (x y z t : Value) :
    Kept w k0 [⟨k0, 0, g0, g1, g2, 0⟩, ⟨k4, j * 4, pa, pb, pc, pd⟩, ⟨k1, 0, a, b, c, d⟩, ⟨k2, 0, p, q, r, s⟩, ⟨k3, 0, 0, 0, 0, 0⟩] ((((W.setCell ⟨k4, i * 4, none⟩ x).setCell ⟨k4, i * 4 + 1, none⟩ y).setCell ⟨k4, i * 4 + 2, none⟩ z).setCell ⟨k4, i * 4 + 3, none⟩ t) :=
  pow_put (pow_put (pow_put (pow_put h hk h0 h1 h2 h3 o0 x) hk h0 h1 h2 h3 o1 y) hk h0 h1 h2 h3 o2 z) hk h0 h1 h2 h3 o3 t

set_option maxHeartbeats 4000000 in
set_option maxRecDepth 100000 in
theorem power_any (g0 g1 g2 P : Nat) (x y : Value) (m n : Nat) (hG : Gap g0 g1 g2 P) (hx : Four x m) (hy : Four y n) (w : World) :
    Calls Try.prog 91 #[.agg #[.int .u64 (g0 : Int), .int .u64 (g1 : Int), .int .u64 (g2 : Int), .int .u64 0], x, y] w (Ret fun e w' => Below w.heap.size w w' ∧ Four e (m ^ n % P)) := by
  obtain ⟨a, b, c, d, rfl, ha, hb, hc, hd, em⟩ := id hx
  obtain ⟨p, q, r, s, rfl, hp, hq, hr, hs, en⟩ := id hy
  have HX : Hid (Four _ m) := hx
  have HY : Hid (Four _ n) := hy
  have HG : Hid (Gap g0 g1 g2 P) := hG
  clear em en hx hy ha hb hc hd hp hq hr hs hG
  go_enter Try.func91, Try.ntmps91
  go_upto_region 1 with fail
  have KP := kept4 w 79 85 85 85 g0 g1 g2 0 a b c d p q r s 0 0 0 0
  simp only [Int.natCast_zero] at KP
  generalize World.alloc _ _ = W0 at KP ⊢
  have zv := zeroT
  have hpz : ¬ pwz.size < 4 := by decide
  have hgr : (W0.alloc (.cells pwz 147)).heap[W0.heap.size]? = some (.cells pwz 147 (0, 0)) := newest W0 _
  go_wp2_with (first | refine wpList_store_row rfl 147 _ _ rfl W0.heap.size pw0 rfl rfl 147 pwz hgr sizeT rfl oneT ?_)
  have TB := Tab.new W0 m P (by have := HG.out.hP2; have : 3 < top := by decide
                                omega)
  have hlt := KP.lts
  have Q4 : Hid (w.heap.size ≤ W0.heap.size) := KP.le
  replace KP := KP.call (below_tab W0)
  clear zv hgr hpz
  generalize World.setRow _ _ _ = W1 at KP TB ⊢
  generalize W0.heap.size = k4 at TB hlt Q4 ⊢
  generalize h3 : w.heap.size + 1 + 1 + 1 = k3 at KP hlt ⊢
  generalize h2 : w.heap.size + 1 + 1 = k2 at KP hlt ⊢
  generalize h1 : w.heap.size + 1 = k1 at KP hlt ⊢
  have Q3 : Hid (w.heap.size ≤ k3) := by unfold Hid; omega
  generalize h0 : w.heap.size = k0 at KP hlt Q3 Q4 ⊢
  have H0 : Hid (w.heap.size = k0) := h0
  have n40 : k4 ≠ k0 := Nat.ne_of_gt (hlt _ (List.mem_cons_self))
  have n41 : k4 ≠ k1 := Nat.ne_of_gt (hlt ⟨k1, 0, a, b, c, d⟩ (by simp))
  have n42 : k4 ≠ k2 := Nat.ne_of_gt (hlt ⟨k2, 0, p, q, r, s⟩ (by simp))
  have n43 : k4 ≠ k3 := Nat.ne_of_gt (hlt ⟨k3, 0, 0, 0, 0, 0⟩ (by simp))
  clear h0 h1 h2 h3 hlt
  generalize pwz.setIfInBounds 0 (Value.int IntKind.u64 1) = zz
  go_loopg [8] 15 (fun gk s8 wr => ∃ i : Nat, i + gk = 16 ∧ 1 ≤ i ∧ s8 = .int .i64 (i : Int) ∧ Kept w k0 [⟨k0, 0, g0, g1, g2, 0⟩, ⟨k1, 0, a, b, c, d⟩, ⟨k2, 0, p, q, r, s⟩, ⟨k3, 0, 0, 0, 0, 0⟩] wr ∧ Tab wr k4 m P i)
  case atStart => exact ⟨1, rfl, Nat.le_refl _, rfl, KP, TB⟩
  case round =>
    clear KP TB
    obtain ⟨i, hi, hi1, rfl, KP0, TB⟩ := hrel
    by_cases hlt : i < 16
    · obtain ⟨j, hji⟩ : ∃ j, i = j + 1 := ⟨i - 1, by omega⟩
      obtain ⟨pa, pb, pc, pd, BJ, hFJ⟩ := TB j (by omega)
      have HFJ : Hid (Four _ (m ^ j % P)) := hFJ (by omega)
      have KP : Kept w k0 [⟨k0, 0, g0, g1, g2, 0⟩, ⟨k4, j * 4, pa, pb, pc, pd⟩, ⟨k1, 0, a, b, c, d⟩, ⟨k2, 0, p, q, r, s⟩, ⟨k3, 0, 0, 0, 0, 0⟩] wr := by
        refine ((((((Kept.mk1 KP0.bl KP0.le).cons ?_).cons ?_).cons ?_).cons ?_).cons ?_)
        · exact KP0.tail.tail.tail.head
        · exact KP0.tail.tail.head
        · exact KP0.tail.head
        · exact BJ
        · exact KP0.head
      clear KP0 BJ hFJ
      have hlt' : (i : Int) < 16 := by omega
      have e1 : (i : Int) - 1 = (j : Int) := by omega
      have hj16 : j < 16 := by omega
      have hj16i : (j : Int) < 16 := by omega
      have hw1 : IntKind.i64.wrap (j : Int) = (j : Int) := wrap_i _ (by omega)
      have HJ : Hid (i = j + 1) := hji
      have o0 : Hid (i * 4 < j * 4 ∨ j * 4 + 3 < i * 4) := by unfold Hid; omega
      have o1 : Hid (i * 4 + 1 < j * 4 ∨ j * 4 + 3 < i * 4 + 1) := by unfold Hid; omega
      have o2 : Hid (i * 4 + 2 < j * 4 ∨ j * 4 + 3 < i * 4 + 2) := by unfold Hid; omega
      have o3 : Hid (i * 4 + 3 < j * 4 ∨ j * 4 + 3 < i * 4 + 3) := by unfold Hid; omega
      clear hji
      go_upto_region 5 with fail
      go_region_held3 (fun w' => w'.cell? ⟨k0, 0, none⟩ = some (.int .u64 (g0 : Int)) ∧ w'.cell? ⟨k0, 1, none⟩ = some (.int .u64 (g1 : Int)) ∧ w'.cell? ⟨k0, 2, none⟩ = some (.int .u64 (g2 : Int)) ∧ w'.cell? ⟨k0, 3, none⟩ = some (.int .u64 0) ∧ w'.cell? ⟨k4, j * 4, none⟩ = some (.int .u64 (pa : Int)) ∧ w'.cell? ⟨k4, j * 4 + 1, none⟩ = some (.int .u64 (pb : Int)) ∧ w'.cell? ⟨k4, j * 4 + 2, none⟩ = some (.int .u64 (pc : Int)) ∧ w'.cell? ⟨k4, j * 4 + 3, none⟩ = some (.int .u64 (pd : Int)) ∧ w'.cell? ⟨k1, 0, none⟩ = some (.int .u64 (a : Int)) ∧ w'.cell? ⟨k1, 1, none⟩ = some (.int .u64 (b : Int)) ∧ w'.cell? ⟨k1, 2, none⟩ = some (.int .u64 (c : Int)) ∧ w'.cell? ⟨k1, 3, none⟩ = some (.int .u64 (d : Int)) ∧ Kept w k0 [⟨k0, 0, g0, g1, g2, 0⟩, ⟨k4, j * 4, pa, pb, pc, pd⟩, ⟨k1, 0, a, b, c, d⟩, ⟨k2, 0, p, q, r, s⟩, ⟨k3, 0, 0, 0, 0, 0⟩] w') (first | (with_reducible exact powS_of KP) | (with_reducible exact powS_of KP.drew) | (with_reducible exact powS_of (pow_puts KP Q4.out n40 n41 n42 n43 o0.out o1.out o2.out o3.out _ _ _ _)) | (with_reducible exact powS_of (pow_puts KP Q4.out n40 n41 n42 n43 o0.out o1.out o2.out o3.out _ _ _ _).drew) | fail) (first | (go_at_call 84; refine (four_any _ _ HX.out _).mono ?_; rintro e w1 ⟨v, rfl, hb1, rfl⟩; (first | (with_reducible (have KP1 := KP.drew.call hb1)) | (with_reducible (have KP1 := KP.call hb1)) | fail); (first | (with_reducible (have T1 := TB.drew.call hb1)) | (with_reducible (have T1 := TB.call hb1)) | fail); clear KP TB hb1; have KP := KP1; have TB := T1; clear KP1 T1) | (go_at_call 87; refine (product_any g0 g1 g2 P _ _ _ _ HG.out HFJ.out HX.out _).mono ?_; rintro e w1 ⟨v, rfl, hb1, hF3⟩; obtain ⟨a', b', c', d', rfl, ha', hb', hc', hd', es3⟩ := id hF3; clear es3; have HF3 : Hid (Four _ _) := hF3; clear hF3; (first | (with_reducible (have KP1 := KP.drew.call hb1)) | (with_reducible (have KP1 := KP.call hb1)) | fail); (first | (with_reducible (have T1 := TB.drew.call hb1)) | (with_reducible (have T1 := TB.call hb1)) | fail); clear KP TB hb1; have KP := KP1; have TB := T1; clear KP1 T1; obtain ⟨ya, yb, yc, yd, BI, hFI⟩ := TB i hlt; clear hFI; obtain ⟨tc0, tc1, tc2, tc3, tf⟩ := id BI; have zt := BI.lt; clear BI))
      go_wp2
      go_roundg (gk - 1)
      case measure => omega
      case rel =>
        have K3 := pow_puts KP Q4.out n40 n41 n42 n43 o0.out o1.out o2.out o3.out (.int .u64 (a' : Int)) (.int .u64 (b' : Int)) (.int .u64 (c' : Int)) (.int .u64 (d' : Int))
        refine ⟨i + 1, by omega, by omega, rfl, ?_, ?_⟩
        · exact ((((Kept.mk1 K3.bl K3.le).cons K3.tail.tail.tail.tail.head).cons K3.tail.tail.tail.head).cons K3.tail.tail.head).cons K3.head
        · refine TB.put hlt ?_
          have h1 := HF3.out
          rw [pow_step_mod, ← HJ.out] at h1
          exact h1
    · have hi16 : i = 16 := by omega
      subst hi16
      obtain ⟨pa, pb, pc, pd, BJ, hFJ⟩ := TB 0 (by decide)
      have HFJ : Hid (Four _ (m ^ 0 % P)) := hFJ (by decide)
      replace BJ : (Blk.mk k4 0 pa pb pc pd).at wr := BJ
      obtain ⟨tc0, tc1, tc2, tc3, tf⟩ := id BJ
      replace tc0 : wr.cell? ⟨k4, 0, none⟩ = some (.int .u64 (pa : Int)) := tc0
      replace tc1 : wr.cell? ⟨k4, 1, none⟩ = some (.int .u64 (pb : Int)) := tc1
      replace tc2 : wr.cell? ⟨k4, 2, none⟩ = some (.int .u64 (pc : Int)) := tc2
      replace tc3 : wr.cell? ⟨k4, 3, none⟩ = some (.int .u64 (pd : Int)) := tc3
      have zt := BJ.lt
      clear hFJ
      go_wp2
      clear tc0 tc1 tc2 tc3 tf zt
      have KN : Kept w k0 (⟨wr.heap.size, 0, pa, pb, pc, pd⟩ :: [⟨k0, 0, g0, g1, g2, 0⟩, ⟨k1, 0, a, b, c, d⟩, ⟨k2, 0, p, q, r, s⟩, ⟨k3, 0, 0, 0, 0, 0⟩]) _ := (KP0.alloc (.cells #[.int .u64 (pa : Int), .int .u64 (pb : Int), .int .u64 (pc : Int), .int .u64 (pd : Int)] 77)).cons (At4.made wr 77 pa pb pc pd rfl).blk
      have TN := TB.call (below1 wr (.cells #[.int .u64 (pa : Int), .int .u64 (pb : Int), .int .u64 (pc : Int), .int .u64 (pd : Int)] 77))
      have hlt5 := KP0.lts
      have n54 : wr.heap.size ≠ k4 := Nat.ne_of_gt BJ.lt
      have Q5 : Hid (k0 ≤ wr.heap.size) := KP0.le
      clear KP0 TB BJ
      generalize World.alloc _ _ = W5 at KN TN ⊢
      generalize wr.heap.size = k5 at KN hlt5 n54 Q5 ⊢
      have hl5 : ∀ x ∈ ([⟨k0, 0, g0, g1, g2, 0⟩, ⟨k1, 0, a, b, c, d⟩, ⟨k2, 0, p, q, r, s⟩, ⟨k3, 0, 0, 0, 0, 0⟩] : List Blk), k5 ≠ x.k := fun x hx => Nat.ne_of_gt (hlt5 x hx)
      have n50 : k5 ≠ k0 := hl5 _ (List.mem_cons_self)
      have n52 : k5 ≠ k2 := hl5 ⟨k2, 0, p, q, r, s⟩ (by simp)
      have n53 : k5 ≠ k3 := hl5 ⟨k3, 0, 0, 0, 0, 0⟩ (by simp)
      clear hlt5 hlt hi hi1
      go_loopg [10] 64 (fun gk s10 wr => gk ≤ 64 ∧ s10 = .int .i64 (4 * (gk : Int) - 4) ∧ (∃ na nb nc nd : Nat, Kept w k0 (⟨k5, 0, na, nb, nc, nd⟩ :: [⟨k0, 0, g0, g1, g2, 0⟩, ⟨k1, 0, a, b, c, d⟩, ⟨k2, 0, p, q, r, s⟩, ⟨k3, 0, 0, 0, 0, 0⟩]) wr ∧ Hid (Four (.agg #[.int .u64 (na : Int), .int .u64 (nb : Int), .int .u64 (nc : Int), .int .u64 (nd : Int)]) (m ^ (n / 2 ^ (4 * gk)) % P))) ∧ Tab wr k4 m P 16)
      case atStart =>
        refine ⟨Nat.le_refl _, rfl, ⟨pa, pb, pc, pd, KN, ?_⟩, TN⟩
        have h1 := HFJ.out
        rw [show n / 2 ^ (4 * 64) = 0 from Nat.div_eq_of_lt HY.out.lt]
        exact h1
      case round =>
        clear KN TN HFJ
        obtain ⟨hg64, rfl, ⟨na, nb, nc, nd, KP, HF⟩, TB⟩ := hrel
        by_cases hz : gk = 0
        · subst hz
          have HF0 := HF.out
          rw [Nat.mul_zero, Nat.pow_zero, Nat.div_one] at HF0
          obtain ⟨tc0, tc1, tc2, tc3, tf⟩ := KP.head.at4
          have zt := KP.head.lt
          go_wp2_with fail
          refine (number_any _ _ HF0 _).mono ?_
          rintro e w1 ⟨v, rfl, hb1, rfl⟩
          have HFE : Hid (Four _ _) := HF0
          clear HF0 tc0 tc1 tc2 tc3 tf zt HF
          have KP1 := KP.call hb1
          clear hb1 KP
          obtain ⟨rc0, rc1, rc2, rc3, rf⟩ := KP1.tail.tail.tail.tail.head.at4
          have zr := KP1.tail.tail.tail.tail.head.lt
          go_wp2
          have RF := KP1.tail.tail.tail.tail.head.at4.self4 na nb nc nd
          unfold set4 at RF
          refine bodyPost_ret (v := ?v) ?hr rfl ?hR
          case hr => simp [results, Try.results91, go_sem, RF.c0, RF.c1, RF.c2, RF.c3]; rfl
          refine ⟨_, rfl, ?_, HFE.out⟩
          rw [H0.out]
          exact below_set4 KP1.bl Q3.out _ _ _ _
        · obtain ⟨I, hI⟩ : ∃ I, 4 * (gk - 1) = I := ⟨_, rfl⟩
          have e1 : 4 * (gk : Int) - 4 = (I : Int) := by omega
          rw [e1]
          clear e1
          have d1 : (0 : Int) ≤ (I : Int) := by omega
          have HI : Hid (4 * (gk - 1) = I) := hI
          have hI2 : I ≤ 252 := by omega
          obtain ⟨E, hE⟩ : ∃ E, n / 2 ^ (4 * gk) = E := ⟨_, rfl⟩
          have HE : Hid (n / 2 ^ (4 * gk) = E) := hE
          rw [hE] at HF
          clear hI hE
          go_wp2
          refine wp_loop_rounds 5 ?_
          obtain ⟨tc0, tc1, tc2, tc3, tf⟩ := KP.head.at4
          have zt := KP.head.lt
          obtain ⟨pc0, pc1, pc2, pc3, pf⟩ := KP.tail.head.at4
          have zp := KP.tail.head.lt
          rw [rounds_succ]
          go_wp2_with fail
          clear tc0 tc1 tc2 tc3 tf zt pc0 pc1 pc2 pc3 pf zp
          refine (product_any g0 g1 g2 P _ _ _ _ HG.out HF.out HF.out _).mono ?_
          rintro e w1 ⟨v, rfl, hb1, hF3⟩
          rw [pow_two_mod] at hF3
          obtain ⟨n1a, n1b, n1c, n1d, rfl, ha', hb', hc', hd', es3⟩ := id hF3
          clear HF
          have HF : Hid (Four _ _) := hF3
          clear hF3 es3 ha' hb' hc' hd'
          replace KP := KP.call hb1
          replace TB := TB.call hb1
          clear hb1
          obtain ⟨tc0, tc1, tc2, tc3, tf⟩ := KP.head.at4
          have zt := KP.head.lt
          go_wp2_with fail
          clear tc0 tc1 tc2 tc3 tf zt
          have KP2 := KP.put Q5.out hl5 n1a n1b n1c n1d
          have TB2 := (((TB.other (o := 0) n54 (.int .u64 (n1a : Int))).other (o := 1) n54 (.int .u64 (n1b : Int))).other (o := 2) n54 (.int .u64 (n1c : Int))).other (o := 3) n54 (.int .u64 (n1d : Int))
          clear KP TB
          generalize World.setCell _ _ _ = WX1 at KP2 TB2 ⊢
          have KP := KP2
          have TB := TB2
          clear KP2 TB2
          obtain ⟨tc0, tc1, tc2, tc3, tf⟩ := KP.head.at4
          have zt := KP.head.lt
          obtain ⟨pc0, pc1, pc2, pc3, pf⟩ := KP.tail.head.at4
          have zp := KP.tail.head.lt
          rw [rounds_succ]
          go_wp2_with fail
          clear tc0 tc1 tc2 tc3 tf zt pc0 pc1 pc2 pc3 pf zp
          refine (product_any g0 g1 g2 P _ _ _ _ HG.out HF.out HF.out _).mono ?_
          rintro e w2 ⟨v, rfl, hb1, hF3⟩
          rw [pow_two_mod] at hF3
          obtain ⟨n2a, n2b, n2c, n2d, rfl, ha', hb', hc', hd', es3⟩ := id hF3
          clear HF
          have HF : Hid (Four _ _) := hF3
          clear hF3 es3 ha' hb' hc' hd'
          replace KP := KP.call hb1
          replace TB := TB.call hb1
          clear hb1
          obtain ⟨tc0, tc1, tc2, tc3, tf⟩ := KP.head.at4
          have zt := KP.head.lt
          go_wp2_with fail
          clear tc0 tc1 tc2 tc3 tf zt
          have KP2 := KP.put Q5.out hl5 n2a n2b n2c n2d
          have TB2 := (((TB.other (o := 0) n54 (.int .u64 (n2a : Int))).other (o := 1) n54 (.int .u64 (n2b : Int))).other (o := 2) n54 (.int .u64 (n2c : Int))).other (o := 3) n54 (.int .u64 (n2d : Int))
          clear KP TB
          generalize World.setCell _ _ _ = WX2 at KP2 TB2 ⊢
          have KP := KP2
          have TB := TB2
          clear KP2 TB2
          obtain ⟨tc0, tc1, tc2, tc3, tf⟩ := KP.head.at4
          have zt := KP.head.lt
          obtain ⟨pc0, pc1, pc2, pc3, pf⟩ := KP.tail.head.at4
          have zp := KP.tail.head.lt
          rw [rounds_succ]
          go_wp2_with fail
          clear tc0 tc1 tc2 tc3 tf zt pc0 pc1 pc2 pc3 pf zp
          refine (product_any g0 g1 g2 P _ _ _ _ HG.out HF.out HF.out _).mono ?_
          rintro e w3 ⟨v, rfl, hb1, hF3⟩
          rw [pow_two_mod] at hF3
          obtain ⟨n3a, n3b, n3c, n3d, rfl, ha', hb', hc', hd', es3⟩ := id hF3
          clear HF
          have HF : Hid (Four _ _) := hF3
          clear hF3 es3 ha' hb' hc' hd'
          replace KP := KP.call hb1
          replace TB := TB.call hb1
          clear hb1
          obtain ⟨tc0, tc1, tc2, tc3, tf⟩ := KP.head.at4
          have zt := KP.head.lt
          go_wp2_with fail
          clear tc0 tc1 tc2 tc3 tf zt
          have KP2 := KP.put Q5.out hl5 n3a n3b n3c n3d
          have TB2 := (((TB.other (o := 0) n54 (.int .u64 (n3a : Int))).other (o := 1) n54 (.int .u64 (n3b : Int))).other (o := 2) n54 (.int .u64 (n3c : Int))).other (o := 3) n54 (.int .u64 (n3d : Int))
          clear KP TB
          generalize World.setCell _ _ _ = WX3 at KP2 TB2 ⊢
          have KP := KP2
          have TB := TB2
          clear KP2 TB2
          obtain ⟨tc0, tc1, tc2, tc3, tf⟩ := KP.head.at4
          have zt := KP.head.lt
          obtain ⟨pc0, pc1, pc2, pc3, pf⟩ := KP.tail.head.at4
          have zp := KP.tail.head.lt
          rw [rounds_succ]
          go_wp2_with fail
          clear tc0 tc1 tc2 tc3 tf zt pc0 pc1 pc2 pc3 pf zp
          refine (product_any g0 g1 g2 P _ _ _ _ HG.out HF.out HF.out _).mono ?_
          rintro e w4 ⟨v, rfl, hb1, hF3⟩
          rw [pow_two_mod] at hF3
          obtain ⟨n4a, n4b, n4c, n4d, rfl, ha', hb', hc', hd', es3⟩ := id hF3
          clear HF
          have HF : Hid (Four _ _) := hF3
          clear hF3 es3 ha' hb' hc' hd'
          replace KP := KP.call hb1
          replace TB := TB.call hb1
          clear hb1
          obtain ⟨tc0, tc1, tc2, tc3, tf⟩ := KP.head.at4
          have zt := KP.head.lt
          go_wp2_with fail
          clear tc0 tc1 tc2 tc3 tf zt
          have KP2 := KP.put Q5.out hl5 n4a n4b n4c n4d
          have TB2 := (((TB.other (o := 0) n54 (.int .u64 (n4a : Int))).other (o := 1) n54 (.int .u64 (n4b : Int))).other (o := 2) n54 (.int .u64 (n4c : Int))).other (o := 3) n54 (.int .u64 (n4d : Int))
          clear KP TB
          generalize World.setCell _ _ _ = WX4 at KP2 TB2 ⊢
          have KP := KP2
          have TB := TB2
          clear KP2 TB2
          rw [rounds_succ]
          go_wp2_with fail
          refine anyTill.begin (fun w' => w'.cell? ⟨k0, 0, none⟩ = some (.int .u64 (g0 : Int)) ∧ w'.cell? ⟨k0, 1, none⟩ = some (.int .u64 (g1 : Int)) ∧ w'.cell? ⟨k0, 2, none⟩ = some (.int .u64 (g2 : Int)) ∧ w'.cell? ⟨k0, 3, none⟩ = some (.int .u64 0) ∧ w'.cell? ⟨k5, 0, none⟩ = some (.int .u64 (n4a : Int)) ∧ w'.cell? ⟨k5, 1, none⟩ = some (.int .u64 (n4b : Int)) ∧ w'.cell? ⟨k5, 2, none⟩ = some (.int .u64 (n4c : Int)) ∧ w'.cell? ⟨k5, 3, none⟩ = some (.int .u64 (n4d : Int)) ∧ w'.cell? ⟨k2, 0, none⟩ = some (.int .u64 (p : Int)) ∧ w'.cell? ⟨k2, 1, none⟩ = some (.int .u64 (q : Int)) ∧ w'.cell? ⟨k2, 2, none⟩ = some (.int .u64 (r : Int)) ∧ w'.cell? ⟨k2, 3, none⟩ = some (.int .u64 (s : Int)) ∧ Kept w k0 (⟨k5, 0, n4a, n4b, n4c, n4d⟩ :: [⟨k0, 0, g0, g1, g2, 0⟩, ⟨k1, 0, a, b, c, d⟩, ⟨k2, 0, p, q, r, s⟩, ⟨k3, 0, 0, 0, 0, 0⟩]) w' ∧ Tab w' k4 m P 16) 8 mixed (powT_of KP.drew TB.drew) (fun hS => ?_)
          refine anyTill.take (i := 0) (v := ?_) rfl (by kernel_rfl) (by kernel_rfl) (by kernel_rfl) (by kernel_rfl) (by kernel_rfl) (fun _ _ _ h => h) (Or.inl ⟨by rfl, ?_⟩) hS ?_
          rotate_left
          · intro w hSw
            (try dsimp only at hSw)
            go_simp
            try (with_reducible rfl)
          simp only [Act.put, List.setIfInBounds_toArray]
          refine anyTill.take (i := 1) (v := ?_) rfl (by kernel_rfl) (by kernel_rfl) (by kernel_rfl) (by kernel_rfl) (by kernel_rfl) (fun _ _ _ h => h) (Or.inl ⟨by rfl, ?_⟩) hS ?_
          rotate_left
          · intro w hSw
            (try dsimp only at hSw)
            go_simp
            try (with_reducible rfl)
          simp only [Act.put]
          refine anyTill.take (i := 2) (v := ?_) rfl (by kernel_rfl) (by kernel_rfl) (by kernel_rfl) (by kernel_rfl) (by kernel_rfl) (fun _ _ _ h => h) (Or.inl ⟨by rfl, ?_⟩) hS ?_
          rotate_left
          · intro w hSw
            (try dsimp only at hSw)
            go_simp
            try (with_reducible rfl)
          simp only [Act.put]
          refine anyTill.take (i := 3) (v := ?_) rfl (by kernel_rfl) (by kernel_rfl) (by kernel_rfl) (by kernel_rfl) (by kernel_rfl) (fun _ _ _ h => h) (Or.inl ⟨by rfl, ?_⟩) hS ?_
          rotate_left
          · intro w hSw
            (try dsimp only at hSw)
            go_simp
            try (with_reducible rfl)
          simp only [Act.put]
          try simp only [List.set_cons_zero, List.set_cons_succ]
          obtain ⟨tt, htt⟩ : ∃ tt, n / 2 ^ I % 2 ^ 4 = tt := ⟨_, rfl⟩
          have HT : Hid (n / 2 ^ I % 2 ^ 4 = tt) := htt
          have hB := fun w => Bits_any _ n I 4 HY.out (by omega) (by decide) w
          rw [htt] at hB
          have htl : tt < 16 := by have : (2 : Nat) ^ 4 = 16 := rfl
                                   rw [← htt]; omega
          have htl' : (tt : Int) < 16 := by omega
          have HB : Hid _ := hB
          clear hB htt
          refine anyTill.step (i := 4) rfl (by kernel_rfl) (fun K hK => ?_)
          go_simp
          refine (HB.out _).mono ?_
          rintro e w6 ⟨v, rfl, hb1, rfl⟩
          clear hS HB
          have KP6 := KP.drew.call hb1
          have TB6 := TB.drew.call hb1
          clear hb1 KP TB
          refine hK.out _ _ (fun _ => powT_of KP6 TB6) ?_
          clear hK K
          try simp only [Act.put, List.setIfInBounds_toArray, List.set_cons_zero, List.set_cons_succ]
          obtain ⟨ta, tb, tc, td, BT, hFT⟩ := TB6 tt htl
          have HFT : Hid (Four _ (m ^ tt % P)) := hFT htl
          clear hFT
          obtain ⟨tc0, tc1, tc2, tc3, tf⟩ := id BT
          have zt := BT.lt
          refine anyTill.step (i := 5) rfl (by kernel_rfl) (fun K hK => ?_)
          go_simp
          refine hK.out _ _ (fun _ => powT_of KP6 TB6) ?_
          clear hK K
          try simp only [Act.put, List.setIfInBounds_toArray, List.set_cons_zero, List.set_cons_succ]
          refine anyTill.step (i := 6) rfl (by kernel_rfl) (fun K hK => ?_)
          go_simp
          refine hK.out _ _ (fun _ => powT_of KP6 TB6) ?_
          clear hK K
          try simp only [Act.put, List.setIfInBounds_toArray, List.set_cons_zero, List.set_cons_succ]
          clear tc0 tc1 tc2 tc3 tf zt BT
          refine anyTill.step (i := 7) rfl (by kernel_rfl) (fun K hK => ?_)
          go_simp
          refine (product_any g0 g1 g2 P _ _ _ _ HG.out HF.out HFT.out _).mono ?_
          rintro e w7 ⟨v, rfl, hb1, hF3⟩
          rw [pow_add_mod] at hF3
          obtain ⟨ua, ub, uc, ud, rfl, ha', hb', hc', hd', es3⟩ := id hF3
          have HFU : Hid (Four _ _) := hF3
          clear hF3 es3 ha' hb' hc' hd' HF HFT
          have KP7 := KP6.call hb1
          have TB7 := TB6.call hb1
          clear hb1 KP6 TB6
          refine hK.out _ _ (fun _ => powT_of KP7 TB7) ?_
          clear hK K
          try simp only [Act.put, List.setIfInBounds_toArray, List.set_cons_zero, List.set_cons_succ]
          obtain ⟨tc0, tc1, tc2, tc3, tf⟩ := KP7.head.at4
          have zt := KP7.head.lt
          refine anyTill.step (i := 8) rfl (by kernel_rfl) (fun K hK => ?_)
          go_simp
          refine hK.out _ _ (fun h => Bool.noConfusion h) ?_
          clear hK K
          try simp only [Act.put, List.setIfInBounds_toArray, List.set_cons_zero, List.set_cons_succ]
          refine anyTill.done (by kernel_rfl) ?_ _
          clear tc0 tc1 tc2 tc3 tf zt
          go_wp2
          go_roundg (gk - 1)
          case measure => omega
          case rel =>
            refine ⟨by omega, ?_, ⟨ua, ub, uc, ud, KP7.put Q5.out hl5 ua ub uc ud, ?_⟩, (((TB7.other (o := 0) n54 _).other (o := 1) n54 _).other (o := 2) n54 _).other (o := 3) n54 _⟩
            · have := HI.out
              congr 1
              omega
            · have h1 := HFU.out
              unfold Hid
              rw [HI.out, div_win n I, show I + 4 = 4 * gk by have := HI.out; omega, HE.out, HT.out]
              rw [show 2 * (2 * (2 * (2 * E))) + tt = 16 * E + tt by omega] at h1
              exact h1
end Go.Proofs.Ytbimbalfdmffaab
namespace Go.Proofs.Ytbimbalfdmffaab
open Go.RowKit Go.Sort

/-- Two arguments and a result, each in a block of its own. -/
theorem kept3 (w : World) (t0 t1 t2 : TypeId) (a b c d e f g h i j k l : Nat) :
    Kept w w.heap.size [⟨w.heap.size, 0, a, b, c, d⟩, ⟨w.heap.size + 1, 0, e, f, g, h⟩, ⟨w.heap.size + 1 + 1, 0, i, j, k, l⟩]
      (((w.alloc (.cells #[.int .u64 (a : Int), .int .u64 (b : Int), .int .u64 (c : Int), .int .u64 (d : Int)] t0)).alloc (.cells #[.int .u64 (e : Int), .int .u64 (f : Int), .int .u64 (g : Int), .int .u64 (h : Int)] t1)).alloc (.cells #[.int .u64 (i : Int), .int .u64 (j : Int), .int .u64 (k : Int), .int .u64 (l : Int)] t2)) := by
  refine (((Kept.mk1 (below3 w _ _ _) (below3 w _ _ _).size).cons ?_).cons ?_).cons ?_
  · exact (At4.made _ t2 i j k l (by simp)).blk
  · exact ((At4.made _ t1 e f g h (by simp)).alloc _).blk
  · exact (((At4.made _ t0 a b c d rfl).alloc _).alloc _).blk

set_option maxHeartbeats 2000000 in
set_option maxRecDepth 100000 in
theorem Inverse_any (g0 g1 g2 P : Nat) (x : Value) (m : Nat) (hG : Gap g0 g1 g2 P) (hP2 : 2 ≤ P % 18446744073709551616) (hx : Four x m) (w : World) :
    Calls Try.prog 50 #[.agg #[.int .u64 (g0 : Int), .int .u64 (g1 : Int), .int .u64 (g2 : Int), .int .u64 0], x] w (Ret fun e w' => Below w.heap.size w w' ∧ Four e (m ^ (P - 2) % P)) := by
  obtain ⟨a, b, c, d, rfl, ha, hb, hc, hd, em⟩ := id hx
  have HX : Hid (Four _ m) := hx
  have HG : Hid (Gap g0 g1 g2 P) := hG
  clear em hx ha hb hc hd hG
  go_enter Try.func50, Try.ntmps50
  go_wp2_with fail
  have KP := kept3 w 79 85 85 g0 g1 g2 0 a b c d 0 0 0 0
  simp only [Int.natCast_zero] at KP
  generalize World.alloc _ _ = W0 at KP ⊢
  generalize h2 : w.heap.size + 1 + 1 = k2 at KP ⊢
  generalize h1 : w.heap.size + 1 = k1 at KP ⊢
  have Q2 : Hid (w.heap.size ≤ k2) := by unfold Hid; omega
  generalize h0 : w.heap.size = k0 at KP Q2 ⊢
  have H0 : Hid (w.heap.size = k0) := h0
  clear h0 h1 h2
  refine (PModulus_any g0 g1 g2 P HG.out _).mono ?_
  rintro e w1 ⟨v, rfl, hb1, hF⟩
  obtain ⟨pa, pb, pc, pd, rfl, hpa, hpb, hpc, hpd, eP⟩ := id hF
  replace KP := KP.call hb1
  clear hb1 hF
  have hpe : 2 ≤ pa := by rw [eP] at hP2; unfold val at hP2; omega
  obtain ⟨pe, hpe'⟩ : ∃ pe, pa = pe + 2 := ⟨pa - 2, by omega⟩
  have HE : Hid (Four (.agg #[.int .u64 (pe : Int), .int .u64 (pb : Int), .int .u64 (pc : Int), .int .u64 (pd : Int)]) (P - 2)) := by
    refine Four.mk (by omega) hpb hpc hpd ?_
    rw [eP, hpe']; unfold val; omega
  have hsub : (pa : Int) - 2 = (pe : Int) := by omega
  have hw := wrapN pe (by omega)
  clear hpe eP hP2 hpa hpb hpc hpd hpe'
  obtain ⟨xc0, xc1, xc2, xc3, xf⟩ := KP.tail.head.at4
  have zx := KP.tail.head.lt
  obtain ⟨pc0, pc1, pc2, pc3, pf⟩ := KP.head.at4
  have zp := KP.head.lt
  have n1 : k1 ≠ w1.heap.size := Nat.ne_of_lt zx
  have n0 : k0 ≠ w1.heap.size := Nat.ne_of_lt zp
  go_wp2_with fail
  refine (power_any g0 g1 g2 P _ _ _ _ HG.out HX.out HE.out _).mono ?_
  rintro e w2 ⟨v, rfl, hb2, hF⟩
  replace KP := (KP.alloc _).call hb2
  clear hb2 xc0 xc1 xc2 xc3 xf zx pc0 pc1 pc2 pc3 pf zp n0 n1
  obtain ⟨qa, qb, qc, qd, rfl, hqa, hqb, hqc, hqd, eQ⟩ := id hF
  have HF : Hid (Four _ _) := hF
  clear hF eQ hqa hqb hqc hqd
  obtain ⟨rc0, rc1, rc2, rc3, rf⟩ := KP.tail.tail.head.at4
  have zr := KP.tail.tail.head.lt
  go_wp2
  have RF := KP.tail.tail.head.at4.self4 qa qb qc qd
  unfold set4 at RF
  refine bodyPost_ret (v := ?v) ?hr rfl ?hR
  case hr => simp [results, Try.results50, go_sem, RF.c0, RF.c1, RF.c2, RF.c3]; rfl
  refine ⟨_, rfl, ?_, HF.out⟩
  rw [H0.out]
  exact below_set4 KP.bl Q2.out _ _ _ _
end Go.Proofs.Ytbimbalfdmffaab
namespace Go.Proofs.Ytbimbalfdmffaab
open Go.RowKit Go.Sort

theorem or_q (a b : Nat) (ha : a < 18446744073709551616) : bits .or .u64 ((a / 4 : Nat) : Int) ((b * 4611686018427387904 % 18446744073709551616 : Nat) : Int) = ((a / 4 + b * 4611686018427387904 % 18446744073709551616 : Nat) : Int) ∧ a / 4 + b * 4611686018427387904 % 18446744073709551616 < 18446744073709551616 := by
  have h1 : b * 4611686018427387904 % 18446744073709551616 = 2 ^ 62 * (b % 4) := by omega
  have h2 := Nat.two_pow_add_eq_or_of_lt (i := 62) (b := a / 4) (by omega) (b % 4)
  rw [bits_or_u64_nat _ _ (by omega) (by omega), h1, Nat.or_comm, ← h2]
  omega

set_option maxHeartbeats 1000000 in
theorem quarter_any (x : Value) (m : Nat) (hx : Four x m) (w : World) :
    Calls Try.prog 95 #[x] w (Ret fun e w' => Below w.heap.size w w' ∧ Four e (m / 4)) := by
  obtain ⟨a, b, c, d, rfl, ha, hb, hc, hd, em⟩ := id hx
  obtain ⟨o0, l0⟩ := or_q a b ha
  obtain ⟨o1, l1⟩ := or_q b c hb
  obtain ⟨o2, l2⟩ := or_q c d hc
  have hq := quarter_eq a b c d
  rw [← em] at hq
  have s0 : (a : Int) / 4 = ((a / 4 : Nat) : Int) := by omega
  have s1 : (b : Int) / 4 = ((b / 4 : Nat) : Int) := by omega
  have s2 : (c : Int) / 4 = ((c / 4 : Nat) : Int) := by omega
  have s3 : (d : Int) / 4 = ((d / 4 : Nat) : Int) := by omega
  have t1 : IntKind.u64.wrap ((b : Int) * 4611686018427387904) = ((b * 4611686018427387904 % 18446744073709551616 : Nat) : Int) := by rw [IntKind.wrap_u64]; omega
  have t2 : IntKind.u64.wrap ((c : Int) * 4611686018427387904) = ((c * 4611686018427387904 % 18446744073709551616 : Nat) : Int) := by rw [IntKind.wrap_u64]; omega
  have t3 : IntKind.u64.wrap ((d : Int) * 4611686018427387904) = ((d * 4611686018427387904 % 18446744073709551616 : Nat) : Int) := by rw [IntKind.wrap_u64]; omega
  have l3 : d / 4 < 18446744073709551616 := by omega
  generalize a / 4 + b * 4611686018427387904 % 18446744073709551616 = y0 at o0 l0 hq
  generalize b / 4 + c * 4611686018427387904 % 18446744073709551616 = y1 at o1 l1 hq
  generalize c / 4 + d * 4611686018427387904 % 18446744073709551616 = y2 at o2 l2 hq
  generalize b * 4611686018427387904 % 18446744073709551616 = v1 at o0 t1
  generalize c * 4611686018427387904 % 18446744073709551616 = v2 at o1 t2
  generalize d * 4611686018427387904 % 18446744073709551616 = v3 at o2 t3
  generalize a / 4 = q0 at o0 s0
  generalize b / 4 = q1 at o1 s1
  generalize c / 4 = q2 at o2 s2
  generalize d / 4 = q3 at s3 l3 hq
  have HQ : Hid _ := hq
  clear hq em hx
  go_enter Try.func95, Try.ntmps95
  go_wp2
  refine bodyPost_ret (v := ?v) ?hr rfl ?hR
  case hr => simp [results, Try.results95, go_sem]; rfl
  exact ⟨_, rfl, below2 _ _ _, Four.mk l0 l1 l2 l3 HQ.out.symm⟩

theorem Odd_any (x : Value) (m : Nat) (hx : Four x m) (w : World) :
    Calls Try.prog 96 #[x] w (Ret fun e w' => Below w.heap.size w w' ∧ e = .bool (decide (m % 2 = 1))) := by
  obtain ⟨a, b, c, d, rfl, ha, hb, hc, hd, em⟩ := id hx
  have ho := and_one a ha
  have hm : m % 2 = a % 2 := by rw [em]; unfold val; omega
  rw [hm]
  clear hm em hx
  have h2 : a % 2 = 0 ∨ a % 2 = 1 := by omega
  rcases h2 with h | h
  · rw [h] at ho ⊢
    go_enter Try.func96, Try.ntmps96
    go_wp2
    go_ret
    exact ⟨_, rfl, below1 _ _, rfl⟩
  · rw [h] at ho ⊢
    go_enter Try.func96, Try.ntmps96
    go_wp2
    go_ret
    exact ⟨_, rfl, below1 _ _, rfl⟩

theorem rootS_of {w W : World} {k0 k1 k2 k7 a b c d ra rb rc rd g0 g1 g2 : Nat} (h : Kept w k0 [⟨k0, 0, g0, g1, g2, 0⟩, ⟨k7, 0, ra, rb, rc, rd⟩, ⟨k1, 0, a, b, c, d⟩, ⟨k2, 0, 0, 0, 0, 0⟩] W) : W.cell? ⟨k0, 0, none⟩ = some (.int .u64 (g0 : Int)) ∧ W.cell? ⟨k0, 1, none⟩ = some (.int .u64 (g1 : Int)) ∧ W.cell? ⟨k0, 2, none⟩ = some (.int .u64 (g2 : Int)) ∧ W.cell? ⟨k0, 3, none⟩ = some (.int .u64 0) ∧ W.cell? ⟨k7, 0, none⟩ = some (.int .u64 (ra : Int)) ∧ W.cell? ⟨k7, 1, none⟩ = some (.int .u64 (rb : Int)) ∧ W.cell? ⟨k7, 2, none⟩ = some (.int .u64 (rc : Int)) ∧ W.cell? ⟨k7, 3, none⟩ = some (.int .u64 (rd : Int)) ∧ W.cell? ⟨k1, 0, none⟩ = some (.int .u64 (a : Int)) ∧ W.cell? ⟨k1, 1, none⟩ = some (.int .u64 (b : Int)) ∧ W.cell? ⟨k1, 2, none⟩ = some (.int .u64 (c : Int)) ∧ W.cell? ⟨k1, 3, none⟩ = some (.int .u64 (d : Int)) ∧ Kept w k0 [⟨k0, 0, g0, g1, g2, 0⟩, ⟨k7, 0, ra, rb, rc, rd⟩, ⟨k1, 0, a, b, c, d⟩, ⟨k2, 0, 0, 0, 0, 0⟩] W :=
  ⟨h.head.c0, h.head.c1, h.head.c2, h.head.c3, h.tail.head.c0, h.tail.head.c1, h.tail.head.c2, h.tail.head.c3, h.tail.tail.head.c0, h.tail.tail.head.c1, h.tail.tail.head.c2, h.tail.tail.head.c3, h⟩

theorem four_ne {a b c d m n : Nat} {v : Value} (h : Four v n) (h' : Four (.agg #[.int .u64 (a : Int), .int .u64 (b : Int), .int .u64 (c : Int), .int .u64 (d : Int)]) m) (hne : ¬ n = m) :
    ∃ p q r s : Nat, v = .agg #[.int .u64 (p : Int), .int .u64 (q : Int), .int .u64 (r : Int), .int .u64 (s : Int)] ∧ ¬ (p = a ∧ q = b ∧ r = c ∧ s = d) := by
  obtain ⟨p, q, r, s, rfl, h1⟩ := id h
  refine ⟨p, q, r, s, rfl, ?_⟩
  rintro ⟨rfl, rfl, rfl, rfl⟩
  exact hne (h.num h')

/-- The even one of two roots. -/
def even (P r : Nat) : Nat := if r % 2 = 1 then P - r else r

/-- What Root answers. -/
def RootR (P m R : Nat) (e : Value) : Prop := ∃ (ya yb yc yd : Nat) (ok : Bool), e = .tuple #[.agg #[.int .u64 (ya : Int), .int .u64 (yb : Int), .int .u64 (yc : Int), .int .u64 (yd : Int)], .bool ok] ∧
  (ok = true → R * R % P = m ∧ Four (.agg #[.int .u64 (ya : Int), .int .u64 (yb : Int), .int .u64 (yc : Int), .int .u64 (yd : Int)]) (even P R)) ∧ (ok = false → ¬ R * R % P = m)
theorem RootR.yes {P m R ya yb yc yd : Nat} (h : R * R % P = m) (hF : Four (.agg #[.int .u64 (ya : Int), .int .u64 (yb : Int), .int .u64 (yc : Int), .int .u64 (yd : Int)]) (even P R)) : RootR P m R (.tuple #[.agg #[.int .u64 (ya : Int), .int .u64 (yb : Int), .int .u64 (yc : Int), .int .u64 (yd : Int)], .bool true]) :=
  ⟨ya, yb, yc, yd, true, rfl, fun _ => ⟨h, hF⟩, fun h => Bool.noConfusion h⟩
theorem RootR.no {P m R : Nat} (h : ¬ R * R % P = m) : RootR P m R (.tuple #[.agg #[.int .u64 0, .int .u64 0, .int .u64 0, .int .u64 0], .bool false]) :=
  ⟨0, 0, 0, 0, false, rfl, fun h => Bool.noConfusion h, fun _ => h⟩

set_option maxHeartbeats 4000000 in
set_option maxRecDepth 100000 in
theorem Root_any (g0 g1 g2 P : Nat) (x : Value) (m : Nat) (hG : Gap g0 g1 g2 P) (hP1 : P / 4 % 18446744073709551616 < 18446744073709551615) (hx : Four x m) (w : World) :
    Calls Try.prog 64 #[.agg #[.int .u64 (g0 : Int), .int .u64 (g1 : Int), .int .u64 (g2 : Int), .int .u64 0], x] w (Ret fun e w' => Below w.heap.size w w' ∧ RootR P m (m ^ (P / 4 + 1) % P) e) := by
  obtain ⟨a, b, c, d, rfl, ha, hb, hc, hd, em⟩ := id hx
  have HX : Hid (Four _ m) := hx
  have HG : Hid (Gap g0 g1 g2 P) := hG
  obtain ⟨R, hR⟩ : ∃ R, m ^ (P / 4 + 1) % P = R := ⟨_, rfl⟩
  have hRP : R < P := by
    rw [← hR]
    refine Nat.mod_lt _ ?_
    have := hG.hP2
    omega
  rw [hR]
  have HRE : Hid (m ^ (P / 4 + 1) % P = R) := hR
  have HRP : Hid (R < P) := hRP
  clear em hx ha hb hc hd hG hR hRP
  go_enter Try.func64, Try.ntmps64
  go_wp2_with fail
  have KP := kept3 w 79 85 85 g0 g1 g2 0 a b c d 0 0 0 0
  simp only [Int.natCast_zero] at KP
  generalize World.alloc _ _ = W0 at KP ⊢
  generalize h2 : w.heap.size + 1 + 1 = k2 at KP ⊢
  generalize h1 : w.heap.size + 1 = k1 at KP ⊢
  have Q2 : Hid (w.heap.size ≤ k2) := by unfold Hid; omega
  generalize h0 : w.heap.size = k0 at KP Q2 ⊢
  have H0 : Hid (w.heap.size = k0) := h0
  clear h0 h1 h2
  refine (PModulus_any g0 g1 g2 P HG.out _).mono ?_
  rintro e w1 ⟨v, rfl, hb1, hF⟩
  obtain ⟨pa, pb, pc, pd, rfl, -⟩ := id hF
  replace KP := KP.call hb1
  clear hb1
  go_wp2_with fail
  refine (quarter_any _ _ hF _).mono ?_
  rintro e w2 ⟨v, rfl, hb2, hF2⟩
  obtain ⟨qa, qb, qc, qd, rfl, hqa, hqb, hqc, hqd, eq⟩ := id hF2
  replace KP := KP.call hb2
  clear hb2 hF hF2
  have hqe : qa < 18446744073709551615 := by rw [eq] at hP1; unfold val at hP1; omega
  obtain ⟨qe, hqe'⟩ : ∃ qe, qa + 1 = qe := ⟨_, rfl⟩
  have HE : Hid (Four (.agg #[.int .u64 (qe : Int), .int .u64 (qb : Int), .int .u64 (qc : Int), .int .u64 (qd : Int)]) (P / 4 + 1)) := by
    refine Four.mk (by omega) hqb hqc hqd ?_
    rw [eq, ← hqe']; unfold val; omega
  have hadd : (qa : Int) + 1 = (qe : Int) := by omega
  have hw := wrapN qe (by omega)
  clear hqe eq hP1 hqa hqb hqc hqd hqe'
  obtain ⟨xc0, xc1, xc2, xc3, xf⟩ := KP.tail.head.at4
  have zx := KP.tail.head.lt
  obtain ⟨pc0, pc1, pc2, pc3, pf⟩ := KP.head.at4
  have zp := KP.head.lt
  have n1 : k1 ≠ w2.heap.size := Nat.ne_of_lt zx
  have n0 : k0 ≠ w2.heap.size := Nat.ne_of_lt zp
  go_wp2_with fail
  refine (power_any g0 g1 g2 P _ _ _ _ HG.out HX.out HE.out _).mono ?_
  rintro e w3 ⟨v, rfl, hb3, hF⟩
  replace KP := (KP.alloc _).call hb3
  clear hb3 xc0 xc1 xc2 xc3 xf zx pc0 pc1 pc2 pc3 pf zp n0 n1 HE hadd hw
  obtain ⟨ra, rb, rc, rd, rfl, -⟩ := id hF
  rw [HRE.out] at hF
  have HF : Hid (Four _ R) := hF
  clear hF
  go_upto_region 4 with fail
  have KP7 : Kept w k0 [⟨k0, 0, g0, g1, g2, 0⟩, ⟨w3.heap.size, 0, ra, rb, rc, rd⟩, ⟨k1, 0, a, b, c, d⟩, ⟨k2, 0, 0, 0, 0, 0⟩] _ := ((((Kept.mk1 (KP.alloc (.cells #[.int .u64 (ra : Int), .int .u64 (rb : Int), .int .u64 (rc : Int), .int .u64 (rd : Int)] 85)).bl (KP.alloc _).le).cons (KP.alloc _).tail.tail.head).cons (KP.alloc _).tail.head).cons (At4.made w3 85 ra rb rc rd rfl).blk).cons (x := ⟨k0, 0, g0, g1, g2, 0⟩) (KP.alloc _).head |> fun h => by exact h
  have n70 : w3.heap.size ≠ k0 := Nat.ne_of_gt KP.head.lt
  have n72 : w3.heap.size ≠ k2 := Nat.ne_of_gt KP.tail.tail.head.lt
  have n71 : w3.heap.size ≠ k1 := Nat.ne_of_gt KP.tail.head.lt
  have Q7 : Hid (k0 ≤ w3.heap.size) := KP.le
  clear KP
  have KP := KP7
  clear KP7
  generalize World.alloc _ _ = W4 at KP ⊢
  generalize w3.heap.size = k7 at KP n70 n71 n72 Q7 ⊢
  by_cases heq : R * R % P = m
  · have hsame := same_P a b c d
    go_region_held3 (fun w' => w'.cell? ⟨k0, 0, none⟩ = some (.int .u64 (g0 : Int)) ∧ w'.cell? ⟨k0, 1, none⟩ = some (.int .u64 (g1 : Int)) ∧ w'.cell? ⟨k0, 2, none⟩ = some (.int .u64 (g2 : Int)) ∧ w'.cell? ⟨k0, 3, none⟩ = some (.int .u64 0) ∧ w'.cell? ⟨k7, 0, none⟩ = some (.int .u64 (ra : Int)) ∧ w'.cell? ⟨k7, 1, none⟩ = some (.int .u64 (rb : Int)) ∧ w'.cell? ⟨k7, 2, none⟩ = some (.int .u64 (rc : Int)) ∧ w'.cell? ⟨k7, 3, none⟩ = some (.int .u64 (rd : Int)) ∧ w'.cell? ⟨k1, 0, none⟩ = some (.int .u64 (a : Int)) ∧ w'.cell? ⟨k1, 1, none⟩ = some (.int .u64 (b : Int)) ∧ w'.cell? ⟨k1, 2, none⟩ = some (.int .u64 (c : Int)) ∧ w'.cell? ⟨k1, 3, none⟩ = some (.int .u64 (d : Int)) ∧ Kept w k0 [⟨k0, 0, g0, g1, g2, 0⟩, ⟨k7, 0, ra, rb, rc, rd⟩, ⟨k1, 0, a, b, c, d⟩, ⟨k2, 0, 0, 0, 0, 0⟩] w') (first | (with_reducible exact rootS_of KP) | (with_reducible exact rootS_of KP.drew) | fail) (first | (go_at_call 47; refine (Times_any g0 g1 g2 P _ _ _ _ HG.out HF.out HF.out _).mono ?_; rintro e w5 ⟨v, rfl, hb1, hF3⟩; rw [heq] at hF3; obtain rfl := hF3.inj HX.out; clear hF3; (first | (with_reducible (have KP1 := KP.drew.call hb1)) | (with_reducible (have KP1 := KP.call hb1)) | fail); clear KP hb1; have KP := KP1; clear KP1))
    have HEQ : Hid (R * R % P = m) := heq
    clear heq
    rename_i hHeld
    clear hHeld
    obtain ⟨tc0, tc1, tc2, tc3, tf⟩ := KP.tail.head.at4
    have zt := KP.tail.head.lt
    go_wp2_with fail
    clear tc0 tc1 tc2 tc3 tf zt
    refine (Odd_any _ _ HF.out _).mono ?_
    rintro e w6 ⟨v, rfl, hb6, rfl⟩
    replace KP := KP.call hb6
    clear hb6
    obtain ⟨tc0, tc1, tc2, tc3, tf⟩ := KP.tail.head.at4
    have zt := KP.tail.head.lt
    obtain ⟨uc0, uc1, uc2, uc3, uf⟩ := KP.tail.tail.tail.head.at4
    have zu := KP.tail.tail.tail.head.lt
    by_cases hodd : R % 2 = 1
    · have hd : decide (R % 2 = 1) = true := decide_eq_true hodd
      rw [hd]
      have HO : Hid (R % 2 = 1) := hodd
      clear hd hodd
      obtain ⟨pc0, pc1, pc2, pc3, pf⟩ := KP.head.at4
      have zp := KP.head.lt
      go_wp2_with fail
      refine (Minus_any g0 g1 g2 P _ _ 0 _ HG.out (Four.mk (a := 0) (b := 0) (c := 0) (d := 0) (by decide) (by decide) (by decide) (by decide) rfl) HF.out (by have := HRP.out; omega) HRP.out _).mono ?_
      rintro e w8 ⟨v, rfl, hb8, hF8⟩
      obtain ⟨sa, sb, sc, sd, rfl, -⟩ := id hF8
      have HF8 : Hid (Four (.agg #[.int .u64 (sa : Int), .int .u64 (sb : Int), .int .u64 (sc : Int), .int .u64 (sd : Int)]) (even P R)) := by
        have h1 : (0 + P - R) % P = even P R := by
          unfold even
          rw [if_pos HO.out, Nat.zero_add]
          exact Nat.mod_eq_of_lt (by have := HRP.out; have := HO.out; omega)
        unfold Hid
        rw [← h1]
        exact hF8
      replace KP := KP.call hb8
      clear hb8 hF8 tc0 tc1 tc2 tc3 tf zt uc0 uc1 uc2 uc3 uf zu pc0 pc1 pc2 pc3 pf zp
      obtain ⟨tc0, tc1, tc2, tc3, tf⟩ := KP.tail.head.at4
      have zt := KP.tail.head.lt
      obtain ⟨uc0, uc1, uc2, uc3, uf⟩ := KP.tail.tail.tail.head.at4
      have zu := KP.tail.tail.tail.head.lt
      go_wp2
      have RF := (KP.tail.tail.tail.head.at4.other4 n72 (.int .u64 (sa : Int)) (.int .u64 (sb : Int)) (.int .u64 (sc : Int)) (.int .u64 (sd : Int))).self4 sa sb sc sd
      unfold set4 at RF
      refine bodyPost_ret (v := ?v) ?hr rfl ?hR
      case hr => simp [results, Try.results64, go_sem, RF.c0, RF.c1, RF.c2, RF.c3]; rfl
      refine ⟨_, rfl, ?_, RootR.yes HEQ.out HF8.out⟩
      rw [H0.out]
      exact below_set4 (below_set4 KP.bl Q7.out _ _ _ _) Q2.out _ _ _ _
    · have hd : decide (R % 2 = 1) = false := decide_eq_false hodd
      rw [hd]
      have HF8 : Hid (Four (.agg #[.int .u64 (ra : Int), .int .u64 (rb : Int), .int .u64 (rc : Int), .int .u64 (rd : Int)]) (even P R)) := by
        have h1 : even P R = R := by unfold even; rw [if_neg hodd]
        unfold Hid
        rw [h1]
        exact HF.out
      clear hd hodd
      go_wp2
      have RF := KP.tail.tail.tail.head.at4.self4 ra rb rc rd
      unfold set4 at RF
      refine bodyPost_ret (v := ?v2) ?hr2 rfl ?hR2
      case hr2 => simp [results, Try.results64, go_sem, RF.c0, RF.c1, RF.c2, RF.c3]; rfl
      refine ⟨_, rfl, ?_, RootR.yes HEQ.out HF8.out⟩
      rw [H0.out]
      exact below_set4 KP.bl Q2.out _ _ _ _
  · go_region_held3 (fun w' => w'.cell? ⟨k0, 0, none⟩ = some (.int .u64 (g0 : Int)) ∧ w'.cell? ⟨k0, 1, none⟩ = some (.int .u64 (g1 : Int)) ∧ w'.cell? ⟨k0, 2, none⟩ = some (.int .u64 (g2 : Int)) ∧ w'.cell? ⟨k0, 3, none⟩ = some (.int .u64 0) ∧ w'.cell? ⟨k7, 0, none⟩ = some (.int .u64 (ra : Int)) ∧ w'.cell? ⟨k7, 1, none⟩ = some (.int .u64 (rb : Int)) ∧ w'.cell? ⟨k7, 2, none⟩ = some (.int .u64 (rc : Int)) ∧ w'.cell? ⟨k7, 3, none⟩ = some (.int .u64 (rd : Int)) ∧ w'.cell? ⟨k1, 0, none⟩ = some (.int .u64 (a : Int)) ∧ w'.cell? ⟨k1, 1, none⟩ = some (.int .u64 (b : Int)) ∧ w'.cell? ⟨k1, 2, none⟩ = some (.int .u64 (c : Int)) ∧ w'.cell? ⟨k1, 3, none⟩ = some (.int .u64 (d : Int)) ∧ Kept w k0 [⟨k0, 0, g0, g1, g2, 0⟩, ⟨k7, 0, ra, rb, rc, rd⟩, ⟨k1, 0, a, b, c, d⟩, ⟨k2, 0, 0, 0, 0, 0⟩] w') (first | (with_reducible exact rootS_of KP) | (with_reducible exact rootS_of KP.drew) | fail) (first | (go_at_call 47; refine (Times_any g0 g1 g2 P _ _ _ _ HG.out HF.out HF.out _).mono ?_; rintro e w5 ⟨v, rfl, hb1, hF3⟩; obtain ⟨ta, tb, tc, td, rfl, hne⟩ := four_ne hF3 HX.out heq; have hoth := other_P hne; clear hF3; (first | (with_reducible (have KP1 := KP.drew.call hb1)) | (with_reducible (have KP1 := KP.call hb1)) | fail); clear KP hb1; have KP := KP1; clear KP1))
    have HEQ : Hid (¬ R * R % P = m) := heq
    clear heq
    rename_i hHeld
    clear hHeld
    obtain ⟨uc0, uc1, uc2, uc3, uf⟩ := KP.tail.tail.tail.head.at4
    have zu := KP.tail.tail.tail.head.lt
    go_wp2
    have RF : At4 (set4 w5 k2 (.int .u64 0) (.int .u64 0) (.int .u64 0) (.int .u64 0)) k2 0 0 0 0 := KP.tail.tail.tail.head.at4.self4 0 0 0 0
    unfold set4 at RF
    refine bodyPost_ret (v := ?v3) ?hr3 rfl ?hR3
    case hr3 => simp [results, Try.results64, go_sem, RF.c0, RF.c1, RF.c2, RF.c3]; rfl
    refine ⟨_, rfl, ?_, RootR.no HEQ.out⟩
    rw [H0.out]
    exact below_set4 KP.bl Q2.out _ _ _ _
end Go.Proofs.Ytbimbalfdmffaab
namespace Go.Proofs.Ytbimbalfdmffaab
open Go.RowKit Go.Sort Go.Deep

/-- Numbers of four words, one behind the other, in a block: the first i of n are f. -/
def Nums (W : World) (k n i : Nat) (f : Nat → Nat) : Prop := ∀ j, j < n → ∃ a b c d : Nat, (Blk.mk k (j * 4) a b c d).at W ∧ (j < i → Four (.agg #[.int .u64 (a : Int), .int .u64 (b : Int), .int .u64 (c : Int), .int .u64 (d : Int)]) (f j))

theorem Nums.call {W w1 : World} {k n i : Nat} {f : Nat → Nat} (h : Nums W k n i f) (hb : Below W.heap.size W w1) : Nums w1 k n i f := fun j hj => by
  obtain ⟨a, b, c, d, h1, h2⟩ := h j hj
  exact ⟨a, b, c, d, h1.call hb, h2⟩
theorem Nums.drew {W : World} {k n i : Nat} {f : Nat → Nat} (h : Nums W k n i f) : Nums W.drew k n i f := fun j hj => by
  obtain ⟨a, b, c, d, h1, h2⟩ := h j hj
  exact ⟨a, b, c, d, ⟨h1.c0, h1.c1, h1.c2, h1.c3, h1.f⟩, h2⟩
theorem Nums.put {W : World} {k n i x y z t : Nat} {f : Nat → Nat} (h : Nums W k n i f) (hi : i < n) (hF : Four (.agg #[.int .u64 (x : Int), .int .u64 (y : Int), .int .u64 (z : Int), .int .u64 (t : Int)]) (f i)) :
    Nums ((((W.setCell ⟨k, i * 4, none⟩ (.int .u64 (x : Int))).setCell ⟨k, i * 4 + 1, none⟩ (.int .u64 (y : Int))).setCell ⟨k, i * 4 + 2, none⟩ (.int .u64 (z : Int))).setCell ⟨k, i * 4 + 3, none⟩ (.int .u64 (t : Int))) k n (i + 1) f := fun j hj => by
  obtain ⟨a, b, c, d, h1, h2⟩ := h j hj
  by_cases hji : j = i
  · subst hji
    exact ⟨x, y, z, t, h1.put x y z t, fun _ => hF⟩
  · refine ⟨a, b, c, d, ?_, fun h3 => h2 (by omega)⟩
    exact (((h1.off (by simp only; omega) _).off (by simp only; omega) _).off (by simp only; omega) _).off (by simp only; omega) _

theorem made_at (N j : Nat) (hj : j < N) : (madeCells #[.int .u64 0, .int .u64 0, .int .u64 0, .int .u64 0] N)[j]? = some (.int .u64 0) := by
  unfold madeCells
  rw [Array.getElem?_map, Array.getElem?_range]
  have h : j % 4 = 0 ∨ j % 4 = 1 ∨ j % 4 = 2 ∨ j % 4 = 3 := by omega
  simp only [hj, if_true, Option.map_some, List.size_toArray, List.length_cons, List.length_nil, Nat.zero_add]
  rcases h with h | h | h | h <;> rw [h] <;> rfl

theorem Nums.new (w : World) (t : TypeId) (n : Nat) (f : Nat → Nat) : Nums (w.alloc (.cells (madeCells #[.int .u64 0, .int .u64 0, .int .u64 0, .int .u64 0] (n * 4)) t)) w.heap.size n 0 f := fun j hj =>
  ⟨0, 0, 0, 0, ⟨by rw [World.cell?_alloc_new]; exact made_at _ _ (by simp only; omega), by rw [World.cell?_alloc_new]; exact made_at _ _ (by simp only; omega), by rw [World.cell?_alloc_new]; exact made_at _ _ (by simp only; omega), by rw [World.cell?_alloc_new]; exact made_at _ _ (by simp only; omega), fun o => World.frozen?_alloc_new _ _ _ _⟩, fun h => by omega⟩

theorem infoN : (Try.prog.info? 85).map (fun i => (i.zero, i.size, i.bytes)) = some (some (.agg #[.int .u64 0, .int .u64 0, .int .u64 0, .int .u64 0]), 4, 32) := by kernel_rfl
theorem sliceN : Try.prog.underlying 82 = some (.slice 85) := by kernel_rfl

theorem mkNums (n : Nat) (hn : n ≤ 1048576) (w : World) : (Instr.makeSlice 82 (.int .i64 (n : Int)) (.int .i64 (n : Int))).run Try.prog w = .ok (.slice (some ⟨w.heap.size, 0, none⟩) n n) (w.alloc (.cells (madeCells #[.int .u64 0, .int .u64 0, .int .u64 0, .int .u64 0] (n * 4)) 85)) := by
  obtain ⟨i, hi, hzz⟩ := Option.map_eq_some_iff.1 infoN
  simp only [Prod.mk.injEq] at hzz
  obtain ⟨hz, hs, hb⟩ := hzz
  have h := run_make (P := Try.prog) w 82 85 i _ sliceN hi hz .i64 .i64 (n : Int) (n : Int) (by omega) (Int.le_refl _) (by rw [hb]; omega) (by omega)
  rw [hs] at h
  exact h

/-- Bytes as an argument: where there are 32, they lie there. -/
def Arg (w : World) (v : Value) (bs : Bs) : Prop := ∃ (p : Option Addr) (n cap : Nat), v = .slice p n cap ∧ bs.size = n ∧ (n = 32 → ∃ g o, p = some ⟨g, o, none⟩ ∧ 32 ≤ cap ∧ g < w.heap.size ∧ Holds encB w g o bs)
theorem Arg.below {w w1 : World} {v : Value} {bs : Bs} (h : Arg w v bs) (hb : Below w.heap.size w w1) : Arg w1 v bs := by
  obtain ⟨p, n, cap, rfl, hs, h1⟩ := h
  refine ⟨p, n, cap, rfl, hs, fun h2 => ?_⟩
  obtain ⟨g, o, h3, h4, h6, h7⟩ := h1 h2
  exact ⟨g, o, h3, h4, Nat.lt_of_lt_of_le h6 hb.size, Holds.below h7 hb h6⟩

/-- Bytes are a number of the prime. -/
def IsNum (P : Nat) (bs : Bs) : Prop := bs.size = 32 ∧ beV bs.toList < P

theorem Read_arg (g0 g1 g2 P : Nat) (v : Value) (bs : Bs) (hG : Gap g0 g1 g2 P) (w : World) (hv : Arg w v bs) :
    Calls Try.prog 89 #[.agg #[.int .u64 (g0 : Int), .int .u64 (g1 : Int), .int .u64 (g2 : Int), .int .u64 0], v] w
      (Ret fun e w' => Below w.heap.size w w' ∧ ∃ (a b c d : Nat) (ok : Bool), e = .tuple #[.agg #[.int .u64 (a : Int), .int .u64 (b : Int), .int .u64 (c : Int), .int .u64 (d : Int)], .bool ok] ∧ (ok = true → IsNum P bs ∧ Four (.agg #[.int .u64 (a : Int), .int .u64 (b : Int), .int .u64 (c : Int), .int .u64 (d : Int)]) (beV bs.toList)) ∧ (ok = false → ¬ IsNum P bs)) := by
  obtain ⟨p, n, cap, rfl, hs, h1⟩ := hv
  by_cases hn : n = 32
  · subst hn
    obtain ⟨g, o, rfl, h4, h6, h7⟩ := h1 rfl
    refine (Read_any g0 g1 g2 P g o cap bs hG w hs h4 h6 h7).mono ?_
    rintro e w' ⟨v, rfl, hb, ⟨hl, v', rfl, a, b, c, d, rfl, h8⟩ | ⟨hl, rfl⟩⟩
    · exact ⟨_, rfl, hb, a, b, c, d, true, rfl, fun _ => ⟨⟨hs, hl⟩, ⟨a, b, c, d, rfl, h8⟩⟩, fun h => Bool.noConfusion h⟩
    · exact ⟨_, rfl, hb, 0, 0, 0, 0, false, rfl, fun h => Bool.noConfusion h, fun _ h => Nat.not_le_of_lt h.2 hl⟩
  · refine (Read_len _ p n cap w g0 g1 g2 rfl hn).mono ?_
    rintro e w' ⟨v, rfl, hb, rfl⟩
    exact ⟨_, rfl, hb, 0, 0, 0, 0, false, rfl, fun h => Bool.noConfusion h, fun _ h => hn (hs.symm.trans h.1)⟩

/-- A list of arguments in a block. -/
def Args (w : World) (q : Option Addr) (n : Nat) (L : Nat → Bs) : Prop := 0 < n → ∃ gg, q = some ⟨gg, 0, none⟩ ∧ gg < w.heap.size ∧ ∀ j, j < n → ∃ v, w.cell? ⟨gg, j, none⟩ = some v ∧ Arg w v (L j)

/-- What numbers answers. -/
def NumsR (w : World) (P n : Nat) (L : Nat → Bs) (e : Value) (w' : World) : Prop :=
  ((∀ j, j < n → IsNum P (L j)) ∧ ∃ k, w.heap.size ≤ k ∧ e = .tuple #[.slice (some ⟨k, 0, none⟩) n n, .int .i64 0] ∧ Nums w' k n n (fun j => beV (L j).toList)) ∨
  ((∃ j, j < n ∧ ¬ IsNum P (L j)) ∧ e = .tuple #[.slice none 0 0, .int .i64 3])

set_option maxHeartbeats 4000000 in
set_option maxRecDepth 100000 in
theorem numbers_any (g0 g1 g2 P n cap : Nat) (q : Option Addr) (L : Nat → Bs) (hG : Gap g0 g1 g2 P) (w : World) (hn : n ≤ 1048576) (hA : Args w q n L) :
    Calls Try.prog 49 #[.agg #[.int .u64 (g0 : Int), .int .u64 (g1 : Int), .int .u64 (g2 : Int), .int .u64 0], .slice q n cap] w (Ret fun e w' => Below w.heap.size w w' ∧ NumsR w P n L e w') := by
  have HG : Hid (Gap g0 g1 g2 P) := hG
  have HA : Hid (Args w q n L) := hA
  have hmk := mkNums n hn
  clear hG hA
  go_enter Try.func49, Try.ntmps49
  go_wp2
  have KP := (Kept.mk1 (below2 w (.cells #[.int .u64 (g0 : Int), .int .u64 (g1 : Int), .int .u64 (g2 : Int), .int .u64 0] 79) (.cells (madeCells #[.int .u64 0, .int .u64 0, .int .u64 0, .int .u64 0] (n * 4)) 85)) (below2 w _ _).size).cons ((At4.made w 79 g0 g1 g2 0 rfl).alloc (.cells (madeCells #[.int .u64 0, .int .u64 0, .int .u64 0, .int .u64 0] (n * 4)) 85)).blk
  have NM := Nums.new (w.alloc (.cells #[.int .u64 (g0 : Int), .int .u64 (g1 : Int), .int .u64 (g2 : Int), .int .u64 0] 79)) 85 n (fun j => beV (L j).toList)
  rw [World.size_alloc] at NM
  clear hmk
  generalize World.alloc _ _ = W0 at KP NM ⊢
  generalize h1 : w.heap.size + 1 = k1 at NM ⊢
  have n10 : k1 ≠ w.heap.size := by omega
  have Q1 : Hid (w.heap.size ≤ k1) := by unfold Hid; omega
  clear h1
  go_loopg [16] n (fun gk s16 wr => ∃ i : Nat, i + gk = n ∧ s16 = .int .i64 (i : Int) ∧ Kept w w.heap.size [⟨w.heap.size, 0, g0, g1, g2, 0⟩] wr ∧ Nums wr k1 n i (fun j => beV (L j).toList) ∧ Hid (∀ j, j < i → IsNum P (L j)))
  case atStart => exact ⟨0, Nat.zero_add _, rfl, KP, NM, fun j hj => by omega⟩
  case round =>
    clear KP NM
    obtain ⟨i, hi, rfl, KP, NM, HI⟩ := hrel
    by_cases hlt : i < n
    · have hlt' : (i : Int) < (n : Int) := by omega
      obtain ⟨gg, rfl, hgg, hc⟩ := HA.out (by omega)
      obtain ⟨v, hv, ha⟩ := hc i hlt
      have HV : Hid (Arg w v (L i)) := ha
      have hv' : wr.cell? ⟨gg, i, none⟩ = some v := by rw [KP.bl.cell (p := ⟨gg, i, none⟩) hgg]; exact hv
      clear hv hc ha HA
      obtain ⟨p, len, cp, rfl, -⟩ := id HV.out
      obtain ⟨pc0, pc1, pc2, pc3, pf⟩ := KP.head.at4
      have z0 := KP.head.lt
      go_wp2_with fail
      refine (Read_arg g0 g1 g2 P _ (L i) HG.out _ (HV.out.below KP.bl)).mono ?_
      rintro e w1 ⟨v, rfl, hb1, a, b, c, d, ok, rfl, hok, hno⟩
      replace KP := KP.call hb1
      replace NM := NM.call hb1
      clear hb1 hv' pc0 pc1 pc2 pc3 pf z0
      cases ok with
      | false =>
        have HN : Hid (¬ IsNum P (L i)) := hno rfl
        clear hok hno
        go_wp2
        go_ret2
        exact ⟨_, rfl, (KP.alloc _).bl, Or.inr ⟨⟨i, hlt, HN.out⟩, rfl⟩⟩
      | true =>
        have HN : Hid _ := hok rfl
        clear hok hno
        obtain ⟨ya, yb, yc, yd, BI, hFI⟩ := NM i hlt
        clear hFI
        obtain ⟨tc0, tc1, tc2, tc3, tf⟩ := id BI
        have zt := BI.lt
        have n91 : k1 ≠ w1.heap.size := Nat.ne_of_lt zt
        go_wp2
        go_roundg (gk - 1)
        case measure => omega
        case rel =>
          refine ⟨i + 1, by omega, rfl, ?_, ?_, fun j hj => ?_⟩
          · refine Kept.alloc (Kept.set (Kept.set (Kept.set (Kept.set KP Q1.out ?_ _) Q1.out ?_ _) Q1.out ?_ _) Q1.out ?_ _) _
            all_goals (intro x hx; rw [List.mem_singleton.1 hx]; exact n10)
          · exact (NM.put hlt HN.out.2).call (below1 _ _)
          · by_cases hji : j = i
            · rw [hji]; exact HN.out.1
            · exact HI.out j (by omega)
    · have hge : ¬ (i : Int) < (n : Int) := by omega
      have hin : i = n := by omega
      have HIN : Hid (i = n) := hin
      clear hin
      go_wp2
      go_ret2
      refine ⟨_, rfl, KP.bl, Or.inl ⟨?_, k1, Q1.out, rfl, ?_⟩⟩
      · have := HI.out; rw [HIN.out] at this; exact this
      · rw [HIN.out] at NM; exact NM
end Go.Proofs.Ytbimbalfdmffaab
namespace Go.Proofs.Ytbimbalfdmffaab
open Go.RowKit Go.Sort Go.Deep

theorem twoS_of {w W : World} {kp kn xa xb xc xd ya yb yc yd g0 g1 g2 : Nat} (h : Kept w w.heap.size [⟨kp, 0, g0, g1, g2, 0⟩, ⟨kn, 0, xa, xb, xc, xd⟩, ⟨kn, 4, ya, yb, yc, yd⟩] W) : W.cell? ⟨kp, 0, none⟩ = some (.int .u64 (g0 : Int)) ∧ W.cell? ⟨kp, 1, none⟩ = some (.int .u64 (g1 : Int)) ∧ W.cell? ⟨kp, 2, none⟩ = some (.int .u64 (g2 : Int)) ∧ W.cell? ⟨kp, 3, none⟩ = some (.int .u64 0) ∧ W.cell? ⟨kn, 0, none⟩ = some (.int .u64 (xa : Int)) ∧ W.cell? ⟨kn, 1, none⟩ = some (.int .u64 (xb : Int)) ∧ W.cell? ⟨kn, 2, none⟩ = some (.int .u64 (xc : Int)) ∧ W.cell? ⟨kn, 3, none⟩ = some (.int .u64 (xd : Int)) ∧ W.cell? ⟨kn, 4, none⟩ = some (.int .u64 (ya : Int)) ∧ W.cell? ⟨kn, 5, none⟩ = some (.int .u64 (yb : Int)) ∧ W.cell? ⟨kn, 6, none⟩ = some (.int .u64 (yc : Int)) ∧ W.cell? ⟨kn, 7, none⟩ = some (.int .u64 (yd : Int)) ∧ Kept w w.heap.size [⟨kp, 0, g0, g1, g2, 0⟩, ⟨kn, 0, xa, xb, xc, xd⟩, ⟨kn, 4, ya, yb, yc, yd⟩] W :=
  ⟨h.head.c0, h.head.c1, h.head.c2, h.head.c3, h.tail.head.c0, h.tail.head.c1, h.tail.head.c2, h.tail.head.c3, h.tail.tail.head.c0, h.tail.tail.head.c1, h.tail.tail.head.c2, h.tail.tail.head.c3, h⟩
theorem oneS_of {w W : World} {kp kn xa xb xc xd g0 g1 g2 : Nat} (h : Kept w w.heap.size [⟨kp, 0, g0, g1, g2, 0⟩, ⟨kn, 0, xa, xb, xc, xd⟩] W) : W.cell? ⟨kp, 0, none⟩ = some (.int .u64 (g0 : Int)) ∧ W.cell? ⟨kp, 1, none⟩ = some (.int .u64 (g1 : Int)) ∧ W.cell? ⟨kp, 2, none⟩ = some (.int .u64 (g2 : Int)) ∧ W.cell? ⟨kp, 3, none⟩ = some (.int .u64 0) ∧ W.cell? ⟨kn, 0, none⟩ = some (.int .u64 (xa : Int)) ∧ W.cell? ⟨kn, 1, none⟩ = some (.int .u64 (xb : Int)) ∧ W.cell? ⟨kn, 2, none⟩ = some (.int .u64 (xc : Int)) ∧ W.cell? ⟨kn, 3, none⟩ = some (.int .u64 (xd : Int)) ∧ Kept w w.heap.size [⟨kp, 0, g0, g1, g2, 0⟩, ⟨kn, 0, xa, xb, xc, xd⟩] W :=
  ⟨h.head.c0, h.head.c1, h.head.c2, h.head.c3, h.tail.head.c0, h.tail.head.c1, h.tail.head.c2, h.tail.head.c3, h⟩

/-- What an operation with two numbers answers. -/
def TwoR (w : World) (P : Nat) (s t : Bs) (x : Nat) (e : Value) (w' : World) : Prop :=
  (IsNum P s ∧ IsNum P t ∧ ∃ v, e = .tuple #[v, .int .i64 0] ∧ IsBytes w' w.heap.size v x) ∨ (¬ (IsNum P s ∧ IsNum P t) ∧ e = .tuple #[.slice none 0 0, .int .i64 3])
/-- What an operation with one number answers. -/
def OneR (w : World) (P : Nat) (s : Bs) (x : Nat) (e : Value) (w' : World) : Prop :=
  (IsNum P s ∧ ∃ v, e = .tuple #[v, .int .i64 0] ∧ IsBytes w' w.heap.size v x) ∨ (¬ IsNum P s ∧ e = .tuple #[.slice none 0 0, .int .i64 3])

/-- Two arguments in a list. -/
def two (s t : Bs) (j : Nat) : Bs := if j = 0 then s else t

theorem args_two {w W : World} {va vb : Value} {s t : Bs} (ha : Arg w va s) (hb : Arg w vb t) (h : Below w.heap.size w W) (ty : TypeId) : Args (W.alloc (.cells #[va, vb] ty)) (some ⟨W.heap.size, 0, none⟩) 2 (two s t) := fun _ => by
  refine ⟨W.heap.size, rfl, by simp, fun j hj => ?_⟩
  have ha' := (ha.below h).below (below1 W (.cells #[va, vb] ty))
  have hb' := (hb.below h).below (below1 W (.cells #[va, vb] ty))
  have : j = 0 ∨ j = 1 := by omega
  rcases this with rfl | rfl
  · exact ⟨va, by rw [World.cell?_alloc_new]; rfl, ha'⟩
  · exact ⟨vb, by rw [World.cell?_alloc_new]; rfl, hb'⟩
theorem args_one {w W : World} {va : Value} {s : Bs} (ha : Arg w va s) (h : Below w.heap.size w W) (ty : TypeId) : Args (W.alloc (.cells #[va] ty)) (some ⟨W.heap.size, 0, none⟩) 1 (fun _ => s) := fun _ => by
  refine ⟨W.heap.size, rfl, by simp, fun j hj => ?_⟩
  have ha' := (ha.below h).below (below1 W (.cells #[va] ty))
  obtain rfl : j = 0 := by omega
  exact ⟨va, by rw [World.cell?_alloc_new]; rfl, ha'⟩
theorem both_of {P : Nat} {s t : Bs} (h : ∀ j, j < 2 → IsNum P (two s t j)) : IsNum P s ∧ IsNum P t := ⟨h 0 (by decide), h 1 (by decide)⟩
theorem not_both {P : Nat} {s t : Bs} (h : ∃ j, j < 2 ∧ ¬ IsNum P (two s t j)) : ¬ (IsNum P s ∧ IsNum P t) := by
  obtain ⟨j, hj, hn⟩ := h
  have : j = 0 ∨ j = 1 := by omega
  rcases this with rfl | rfl
  · exact fun h => hn h.1
  · exact fun h => hn h.2

def PrimeOf (k : Int) (g0 g1 g2 : Nat) : Prop := ∀ w, Calls Try.prog 48 #[.int .i64 k] w (Ret fun e w' => Below w.heap.size w w' ∧ e = .tuple #[.agg #[.int .u64 (g0 : Int), .int .u64 (g1 : Int), .int .u64 (g2 : Int), .int .u64 0], .int .i64 0])

set_option maxHeartbeats 4000000 in
set_option maxRecDepth 100000 in
theorem ofTwo_Plus (k : Int) (g0 g1 g2 P : Nat) (va vb : Value) (s t : Bs) (hG : Gap g0 g1 g2 P) (w : World) (hp : PrimeOf k g0 g1 g2) (ha : Arg w va s) (hb : Arg w vb t) :
    Calls Try.prog 44 #[.int .i64 k, va, vb, .func (.func 45) #[] #[]] w (Ret fun e w' => Below w.heap.size w w' ∧ TwoR w P s t ((beV s.toList + beV t.toList) % P) e w') := by
  have HP : Hid (PrimeOf k g0 g1 g2) := hp
  have HA : Hid (Arg w va s) := ha
  have HB : Hid (Arg w vb t) := hb
  have HG : Hid (Gap g0 g1 g2 P) := hG
  obtain ⟨pa, na, ca, rfl, -⟩ := id ha
  obtain ⟨pb, nb, cb, rfl, -⟩ := id hb
  clear hp hG ha hb
  go_enter Try.func44, Try.ntmps44
  go_wp2_with fail
  refine (HP.out _).mono ?_
  rintro e w1 ⟨v, rfl, hb1, rfl⟩
  go_wp2_with fail
  have KP := ((Kept.mk1 hb1 hb1.size).alloc (.cells #[.int .u64 (g0 : Int), .int .u64 (g1 : Int), .int .u64 (g2 : Int), .int .u64 0] 79)).cons (At4.made w1 79 g0 g1 g2 0 rfl).blk
  have hA := args_two HA.out HB.out KP.bl 23
  rw [World.size_alloc] at hA
  replace KP := KP.alloc (.cells #[.slice pa na ca, .slice pb nb cb] 23)
  clear hb1
  generalize World.alloc _ _ = W0 at KP hA ⊢
  generalize w1.heap.size = kp at KP hA ⊢
  refine (numbers_any g0 g1 g2 P 2 2 _ (two s t) HG.out _ (by decide) hA).mono ?_
  rintro e w2 ⟨v, rfl, hb2, h2⟩
  replace KP := KP.call hb2
  clear hb2 hA
  rcases h2 with ⟨hall, kn, hkn, rfl, NM⟩ | ⟨hno, rfl⟩
  · have HBO : Hid _ := both_of hall
    clear hall hkn
    obtain ⟨xa, xb, xc, xd, X, hX⟩ := NM 0 (by decide)
    obtain ⟨ya, yb, yc, yd, Y, hY⟩ := NM 1 (by decide)
    have HX : Hid (Four _ (beV s.toList)) := hX (by decide)
    have HY : Hid (Four _ (beV t.toList)) := hY (by decide)
    replace X : (Blk.mk kn 0 xa xb xc xd).at w2 := X
    replace Y : (Blk.mk kn 4 ya yb yc yd).at w2 := Y
    replace KP : Kept w w.heap.size [⟨kp, 0, g0, g1, g2, 0⟩, ⟨kn, 0, xa, xb, xc, xd⟩, ⟨kn, 4, ya, yb, yc, yd⟩] w2 := (((Kept.mk1 KP.bl KP.le).cons Y).cons X).cons KP.head
    clear NM hX hY X Y
    obtain ⟨pc0, pc1, pc2, pc3, pf⟩ := KP.head.at4
    go_upto_region 7 with fail
    clear pc0 pc1 pc2 pc3 pf
    go_region_held3 (fun w' => w'.cell? ⟨kp, 0, none⟩ = some (.int .u64 (g0 : Int)) ∧ w'.cell? ⟨kp, 1, none⟩ = some (.int .u64 (g1 : Int)) ∧ w'.cell? ⟨kp, 2, none⟩ = some (.int .u64 (g2 : Int)) ∧ w'.cell? ⟨kp, 3, none⟩ = some (.int .u64 0) ∧ w'.cell? ⟨kn, 0, none⟩ = some (.int .u64 (xa : Int)) ∧ w'.cell? ⟨kn, 1, none⟩ = some (.int .u64 (xb : Int)) ∧ w'.cell? ⟨kn, 2, none⟩ = some (.int .u64 (xc : Int)) ∧ w'.cell? ⟨kn, 3, none⟩ = some (.int .u64 (xd : Int)) ∧ w'.cell? ⟨kn, 4, none⟩ = some (.int .u64 (ya : Int)) ∧ w'.cell? ⟨kn, 5, none⟩ = some (.int .u64 (yb : Int)) ∧ w'.cell? ⟨kn, 6, none⟩ = some (.int .u64 (yc : Int)) ∧ w'.cell? ⟨kn, 7, none⟩ = some (.int .u64 (yd : Int)) ∧ Kept w w.heap.size [⟨kp, 0, g0, g1, g2, 0⟩, ⟨kn, 0, xa, xb, xc, xd⟩, ⟨kn, 4, ya, yb, yc, yd⟩] w') (first | (with_reducible exact twoS_of KP) | (with_reducible exact twoS_of KP.drew) | fail) (first | (go_at_call 45; refine (Plus_any g0 g1 g2 P _ _ _ _ HG.out HX.out HY.out HBO.out.1.2 HBO.out.2.2 _).mono ?_; rintro e w3 ⟨v, rfl, hb1, hF3⟩; obtain ⟨a', b', c', d', rfl, ha', hb', hc', hd', es3⟩ := id hF3; clear es3; have HF3 : Hid (Four _ _) := hF3; clear hF3; (first | (with_reducible (have KP1 := KP.drew.call hb1)) | (with_reducible (have KP1 := KP.call hb1)) | fail); clear KP; have KP := KP1; clear KP1; clear hb1) | (go_at_call 51; refine (bytes_of _ _ _ HF3.out).mono ?_; rintro e w4 ⟨v, rfl, hb1, hv⟩; obtain ⟨g', x', y', z', u', rfl, h2⟩ := id hv; clear h2; have HV : Hid (IsBytes _ _ _ _) := hv; clear hv; have HL : Hid (w.heap.size ≤ _) := KP.le; (first | (with_reducible (have KP1 := KP.drew.call hb1)) | (with_reducible (have KP1 := KP.call hb1)) | fail); clear KP; have KP := KP1; clear KP1; clear hb1))
    all_goals (try go_wp2)
    all_goals go_ret2
    all_goals exact ⟨_, rfl, KP.bl, Or.inl ⟨HBO.out.1, HBO.out.2, _, rfl, HV.out.mono HL.out⟩⟩
  · have HN : Hid _ := not_both hno
    clear hno
    go_wp2
    go_ret2
    exact ⟨_, rfl, KP.bl, Or.inr ⟨HN.out, rfl⟩⟩

set_option maxHeartbeats 1000000 in
theorem Add_any (k : Int) (g0 g1 g2 P : Nat) (va vb : Value) (s t : Bs) (hG : Gap g0 g1 g2 P) (w : World) (hp : PrimeOf k g0 g1 g2) (ha : Arg w va s) (hb : Arg w vb t) :
    Calls Try.prog 10 #[.int .i64 k, va, vb] w (Ret fun e w' => Below w.heap.size w w' ∧ TwoR w P s t ((beV s.toList + beV t.toList) % P) e w') := by
  have HP : Hid (PrimeOf k g0 g1 g2) := hp
  have HA : Hid (Arg w va s) := ha
  have HB : Hid (Arg w vb t) := hb
  have HG : Hid (Gap g0 g1 g2 P) := hG
  clear hp ha hb hG
  go_enter Try.func10, Try.ntmps10
  go_wp2_with fail
  refine (ofTwo_Plus k g0 g1 g2 P va vb s t HG.out w HP.out HA.out HB.out).mono ?_
  rintro e w1 ⟨v, rfl, hb1, h1⟩
  have H1 : Hid (TwoR _ _ _ _ _ _ _) := h1
  rcases h1 with ⟨-, -, v, rfl, -⟩ | ⟨-, rfl⟩
  · go_wp2
    go_ret2
    exact ⟨_, rfl, hb1, H1.out⟩
  · go_wp2
    go_ret2
    exact ⟨_, rfl, hb1, H1.out⟩

set_option maxHeartbeats 4000000 in
set_option maxRecDepth 100000 in
theorem ofTwo_Minus (k : Int) (g0 g1 g2 P : Nat) (va vb : Value) (s t : Bs) (hG : Gap g0 g1 g2 P) (w : World) (hp : PrimeOf k g0 g1 g2) (ha : Arg w va s) (hb : Arg w vb t) :
    Calls Try.prog 44 #[.int .i64 k, va, vb, .func (.func 46) #[] #[]] w (Ret fun e w' => Below w.heap.size w w' ∧ TwoR w P s t ((beV s.toList + P - beV t.toList) % P) e w') := by
  have HP : Hid (PrimeOf k g0 g1 g2) := hp
  have HA : Hid (Arg w va s) := ha
  have HB : Hid (Arg w vb t) := hb
  have HG : Hid (Gap g0 g1 g2 P) := hG
  obtain ⟨pa, na, ca, rfl, -⟩ := id ha
  obtain ⟨pb, nb, cb, rfl, -⟩ := id hb
  clear hp hG ha hb
  go_enter Try.func44, Try.ntmps44
  go_wp2_with fail
  refine (HP.out _).mono ?_
  rintro e w1 ⟨v, rfl, hb1, rfl⟩
  go_wp2_with fail
  have KP := ((Kept.mk1 hb1 hb1.size).alloc (.cells #[.int .u64 (g0 : Int), .int .u64 (g1 : Int), .int .u64 (g2 : Int), .int .u64 0] 79)).cons (At4.made w1 79 g0 g1 g2 0 rfl).blk
  have hA := args_two HA.out HB.out KP.bl 23
  rw [World.size_alloc] at hA
  replace KP := KP.alloc (.cells #[.slice pa na ca, .slice pb nb cb] 23)
  clear hb1
  generalize World.alloc _ _ = W0 at KP hA ⊢
  generalize w1.heap.size = kp at KP hA ⊢
  refine (numbers_any g0 g1 g2 P 2 2 _ (two s t) HG.out _ (by decide) hA).mono ?_
  rintro e w2 ⟨v, rfl, hb2, h2⟩
  replace KP := KP.call hb2
  clear hb2 hA
  rcases h2 with ⟨hall, kn, hkn, rfl, NM⟩ | ⟨hno, rfl⟩
  · have HBO : Hid _ := both_of hall
    clear hall hkn
    obtain ⟨xa, xb, xc, xd, X, hX⟩ := NM 0 (by decide)
    obtain ⟨ya, yb, yc, yd, Y, hY⟩ := NM 1 (by decide)
    have HX : Hid (Four _ (beV s.toList)) := hX (by decide)
    have HY : Hid (Four _ (beV t.toList)) := hY (by decide)
    replace X : (Blk.mk kn 0 xa xb xc xd).at w2 := X
    replace Y : (Blk.mk kn 4 ya yb yc yd).at w2 := Y
    replace KP : Kept w w.heap.size [⟨kp, 0, g0, g1, g2, 0⟩, ⟨kn, 0, xa, xb, xc, xd⟩, ⟨kn, 4, ya, yb, yc, yd⟩] w2 := (((Kept.mk1 KP.bl KP.le).cons Y).cons X).cons KP.head
    clear NM hX hY X Y
    obtain ⟨pc0, pc1, pc2, pc3, pf⟩ := KP.head.at4
    go_upto_region 7 with fail
    clear pc0 pc1 pc2 pc3 pf
    go_region_held3 (fun w' => w'.cell? ⟨kp, 0, none⟩ = some (.int .u64 (g0 : Int)) ∧ w'.cell? ⟨kp, 1, none⟩ = some (.int .u64 (g1 : Int)) ∧ w'.cell? ⟨kp, 2, none⟩ = some (.int .u64 (g2 : Int)) ∧ w'.cell? ⟨kp, 3, none⟩ = some (.int .u64 0) ∧ w'.cell? ⟨kn, 0, none⟩ = some (.int .u64 (xa : Int)) ∧ w'.cell? ⟨kn, 1, none⟩ = some (.int .u64 (xb : Int)) ∧ w'.cell? ⟨kn, 2, none⟩ = some (.int .u64 (xc : Int)) ∧ w'.cell? ⟨kn, 3, none⟩ = some (.int .u64 (xd : Int)) ∧ w'.cell? ⟨kn, 4, none⟩ = some (.int .u64 (ya : Int)) ∧ w'.cell? ⟨kn, 5, none⟩ = some (.int .u64 (yb : Int)) ∧ w'.cell? ⟨kn, 6, none⟩ = some (.int .u64 (yc : Int)) ∧ w'.cell? ⟨kn, 7, none⟩ = some (.int .u64 (yd : Int)) ∧ Kept w w.heap.size [⟨kp, 0, g0, g1, g2, 0⟩, ⟨kn, 0, xa, xb, xc, xd⟩, ⟨kn, 4, ya, yb, yc, yd⟩] w') (first | (with_reducible exact twoS_of KP) | (with_reducible exact twoS_of KP.drew) | fail) (first | (go_at_call 46; refine (Minus_any g0 g1 g2 P _ _ _ _ HG.out HX.out HY.out HBO.out.1.2 HBO.out.2.2 _).mono ?_; rintro e w3 ⟨v, rfl, hb1, hF3⟩; obtain ⟨a', b', c', d', rfl, ha', hb', hc', hd', es3⟩ := id hF3; clear es3; have HF3 : Hid (Four _ _) := hF3; clear hF3; (first | (with_reducible (have KP1 := KP.drew.call hb1)) | (with_reducible (have KP1 := KP.call hb1)) | fail); clear KP; have KP := KP1; clear KP1; clear hb1) | (go_at_call 51; refine (bytes_of _ _ _ HF3.out).mono ?_; rintro e w4 ⟨v, rfl, hb1, hv⟩; obtain ⟨g', x', y', z', u', rfl, h2⟩ := id hv; clear h2; have HV : Hid (IsBytes _ _ _ _) := hv; clear hv; have HL : Hid (w.heap.size ≤ _) := KP.le; (first | (with_reducible (have KP1 := KP.drew.call hb1)) | (with_reducible (have KP1 := KP.call hb1)) | fail); clear KP; have KP := KP1; clear KP1; clear hb1))
    all_goals (try go_wp2)
    all_goals go_ret2
    all_goals exact ⟨_, rfl, KP.bl, Or.inl ⟨HBO.out.1, HBO.out.2, _, rfl, HV.out.mono HL.out⟩⟩
  · have HN : Hid _ := not_both hno
    clear hno
    go_wp2
    go_ret2
    exact ⟨_, rfl, KP.bl, Or.inr ⟨HN.out, rfl⟩⟩

set_option maxHeartbeats 1000000 in
theorem Sub_any (k : Int) (g0 g1 g2 P : Nat) (va vb : Value) (s t : Bs) (hG : Gap g0 g1 g2 P) (w : World) (hp : PrimeOf k g0 g1 g2) (ha : Arg w va s) (hb : Arg w vb t) :
    Calls Try.prog 11 #[.int .i64 k, va, vb] w (Ret fun e w' => Below w.heap.size w w' ∧ TwoR w P s t ((beV s.toList + P - beV t.toList) % P) e w') := by
  have HP : Hid (PrimeOf k g0 g1 g2) := hp
  have HA : Hid (Arg w va s) := ha
  have HB : Hid (Arg w vb t) := hb
  have HG : Hid (Gap g0 g1 g2 P) := hG
  clear hp ha hb hG
  go_enter Try.func11, Try.ntmps11
  go_wp2_with fail
  refine (ofTwo_Minus k g0 g1 g2 P va vb s t HG.out w HP.out HA.out HB.out).mono ?_
  rintro e w1 ⟨v, rfl, hb1, h1⟩
  have H1 : Hid (TwoR _ _ _ _ _ _ _) := h1
  rcases h1 with ⟨-, -, v, rfl, -⟩ | ⟨-, rfl⟩
  · go_wp2
    go_ret2
    exact ⟨_, rfl, hb1, H1.out⟩
  · go_wp2
    go_ret2
    exact ⟨_, rfl, hb1, H1.out⟩

set_option maxHeartbeats 4000000 in
set_option maxRecDepth 100000 in
theorem ofTwo_Times (k : Int) (g0 g1 g2 P : Nat) (va vb : Value) (s t : Bs) (hG : Gap g0 g1 g2 P) (w : World) (hp : PrimeOf k g0 g1 g2) (ha : Arg w va s) (hb : Arg w vb t) :
    Calls Try.prog 44 #[.int .i64 k, va, vb, .func (.func 47) #[] #[]] w (Ret fun e w' => Below w.heap.size w w' ∧ TwoR w P s t (beV s.toList * beV t.toList % P) e w') := by
  have HP : Hid (PrimeOf k g0 g1 g2) := hp
  have HA : Hid (Arg w va s) := ha
  have HB : Hid (Arg w vb t) := hb
  have HG : Hid (Gap g0 g1 g2 P) := hG
  obtain ⟨pa, na, ca, rfl, -⟩ := id ha
  obtain ⟨pb, nb, cb, rfl, -⟩ := id hb
  clear hp hG ha hb
  go_enter Try.func44, Try.ntmps44
  go_wp2_with fail
  refine (HP.out _).mono ?_
  rintro e w1 ⟨v, rfl, hb1, rfl⟩
  go_wp2_with fail
  have KP := ((Kept.mk1 hb1 hb1.size).alloc (.cells #[.int .u64 (g0 : Int), .int .u64 (g1 : Int), .int .u64 (g2 : Int), .int .u64 0] 79)).cons (At4.made w1 79 g0 g1 g2 0 rfl).blk
  have hA := args_two HA.out HB.out KP.bl 23
  rw [World.size_alloc] at hA
  replace KP := KP.alloc (.cells #[.slice pa na ca, .slice pb nb cb] 23)
  clear hb1
  generalize World.alloc _ _ = W0 at KP hA ⊢
  generalize w1.heap.size = kp at KP hA ⊢
  refine (numbers_any g0 g1 g2 P 2 2 _ (two s t) HG.out _ (by decide) hA).mono ?_
  rintro e w2 ⟨v, rfl, hb2, h2⟩
  replace KP := KP.call hb2
  clear hb2 hA
  rcases h2 with ⟨hall, kn, hkn, rfl, NM⟩ | ⟨hno, rfl⟩
  · have HBO : Hid _ := both_of hall
    clear hall hkn
    obtain ⟨xa, xb, xc, xd, X, hX⟩ := NM 0 (by decide)
    obtain ⟨ya, yb, yc, yd, Y, hY⟩ := NM 1 (by decide)
    have HX : Hid (Four _ (beV s.toList)) := hX (by decide)
    have HY : Hid (Four _ (beV t.toList)) := hY (by decide)
    replace X : (Blk.mk kn 0 xa xb xc xd).at w2 := X
    replace Y : (Blk.mk kn 4 ya yb yc yd).at w2 := Y
    replace KP : Kept w w.heap.size [⟨kp, 0, g0, g1, g2, 0⟩, ⟨kn, 0, xa, xb, xc, xd⟩, ⟨kn, 4, ya, yb, yc, yd⟩] w2 := (((Kept.mk1 KP.bl KP.le).cons Y).cons X).cons KP.head
    clear NM hX hY X Y
    obtain ⟨pc0, pc1, pc2, pc3, pf⟩ := KP.head.at4
    go_upto_region 7 with fail
    clear pc0 pc1 pc2 pc3 pf
    go_region_held3 (fun w' => w'.cell? ⟨kp, 0, none⟩ = some (.int .u64 (g0 : Int)) ∧ w'.cell? ⟨kp, 1, none⟩ = some (.int .u64 (g1 : Int)) ∧ w'.cell? ⟨kp, 2, none⟩ = some (.int .u64 (g2 : Int)) ∧ w'.cell? ⟨kp, 3, none⟩ = some (.int .u64 0) ∧ w'.cell? ⟨kn, 0, none⟩ = some (.int .u64 (xa : Int)) ∧ w'.cell? ⟨kn, 1, none⟩ = some (.int .u64 (xb : Int)) ∧ w'.cell? ⟨kn, 2, none⟩ = some (.int .u64 (xc : Int)) ∧ w'.cell? ⟨kn, 3, none⟩ = some (.int .u64 (xd : Int)) ∧ w'.cell? ⟨kn, 4, none⟩ = some (.int .u64 (ya : Int)) ∧ w'.cell? ⟨kn, 5, none⟩ = some (.int .u64 (yb : Int)) ∧ w'.cell? ⟨kn, 6, none⟩ = some (.int .u64 (yc : Int)) ∧ w'.cell? ⟨kn, 7, none⟩ = some (.int .u64 (yd : Int)) ∧ Kept w w.heap.size [⟨kp, 0, g0, g1, g2, 0⟩, ⟨kn, 0, xa, xb, xc, xd⟩, ⟨kn, 4, ya, yb, yc, yd⟩] w') (first | (with_reducible exact twoS_of KP) | (with_reducible exact twoS_of KP.drew) | fail) (first | (go_at_call 47; refine (Times_any g0 g1 g2 P _ _ _ _ HG.out HX.out HY.out _).mono ?_; rintro e w3 ⟨v, rfl, hb1, hF3⟩; obtain ⟨a', b', c', d', rfl, ha', hb', hc', hd', es3⟩ := id hF3; clear es3; have HF3 : Hid (Four _ _) := hF3; clear hF3; (first | (with_reducible (have KP1 := KP.drew.call hb1)) | (with_reducible (have KP1 := KP.call hb1)) | fail); clear KP; have KP := KP1; clear KP1; clear hb1) | (go_at_call 51; refine (bytes_of _ _ _ HF3.out).mono ?_; rintro e w4 ⟨v, rfl, hb1, hv⟩; obtain ⟨g', x', y', z', u', rfl, h2⟩ := id hv; clear h2; have HV : Hid (IsBytes _ _ _ _) := hv; clear hv; have HL : Hid (w.heap.size ≤ _) := KP.le; (first | (with_reducible (have KP1 := KP.drew.call hb1)) | (with_reducible (have KP1 := KP.call hb1)) | fail); clear KP; have KP := KP1; clear KP1; clear hb1))
    all_goals (try go_wp2)
    all_goals go_ret2
    all_goals exact ⟨_, rfl, KP.bl, Or.inl ⟨HBO.out.1, HBO.out.2, _, rfl, HV.out.mono HL.out⟩⟩
  · have HN : Hid _ := not_both hno
    clear hno
    go_wp2
    go_ret2
    exact ⟨_, rfl, KP.bl, Or.inr ⟨HN.out, rfl⟩⟩

set_option maxHeartbeats 1000000 in
theorem Mul_any (k : Int) (g0 g1 g2 P : Nat) (va vb : Value) (s t : Bs) (hG : Gap g0 g1 g2 P) (w : World) (hp : PrimeOf k g0 g1 g2) (ha : Arg w va s) (hb : Arg w vb t) :
    Calls Try.prog 12 #[.int .i64 k, va, vb] w (Ret fun e w' => Below w.heap.size w w' ∧ TwoR w P s t (beV s.toList * beV t.toList % P) e w') := by
  have HP : Hid (PrimeOf k g0 g1 g2) := hp
  have HA : Hid (Arg w va s) := ha
  have HB : Hid (Arg w vb t) := hb
  have HG : Hid (Gap g0 g1 g2 P) := hG
  clear hp ha hb hG
  go_enter Try.func12, Try.ntmps12
  go_wp2_with fail
  refine (ofTwo_Times k g0 g1 g2 P va vb s t HG.out w HP.out HA.out HB.out).mono ?_
  rintro e w1 ⟨v, rfl, hb1, h1⟩
  have H1 : Hid (TwoR _ _ _ _ _ _ _) := h1
  rcases h1 with ⟨-, -, v, rfl, -⟩ | ⟨-, rfl⟩
  · go_wp2
    go_ret2
    exact ⟨_, rfl, hb1, H1.out⟩
  · go_wp2
    go_ret2
    exact ⟨_, rfl, hb1, H1.out⟩

set_option maxHeartbeats 1000000 in
theorem ofTwo_no (k : Int) (hk : k < 0 ∨ 2 ≤ k) (va vb vf : Value) (w : World) :
    Calls Try.prog 44 #[.int .i64 k, va, vb, vf] w (Ret fun e w' => Below w.heap.size w w' ∧ e = .tuple #[.slice none 0 0, .int .i64 2]) := by
  go_enter Try.func44, Try.ntmps44
  go_wp2_with fail
  refine (primeOf_n k hk _).mono ?_
  rintro e w1 ⟨v, rfl, hb1, rfl⟩
  go_wp2
  go_ret2
  exact ⟨_, rfl, hb1.alloc hb1.size _, rfl⟩
set_option maxHeartbeats 1000000 in
theorem Add_no (k : Int) (hk : k < 0 ∨ 2 ≤ k) (va vb : Value) (w : World) :
    Calls Try.prog 10 #[.int .i64 k, va, vb] w (Ret fun e w' => Below w.heap.size w w' ∧ e = .tuple #[.slice none 0 0, .int .i64 2]) := by
  go_enter Try.func10, Try.ntmps10
  go_wp2_with fail
  refine (ofTwo_no k hk _ _ _ _).mono ?_
  rintro e w1 ⟨v, rfl, hb1, rfl⟩
  go_wp2
  go_ret2
  exact ⟨_, rfl, hb1, rfl⟩
set_option maxHeartbeats 1000000 in
theorem Sub_no (k : Int) (hk : k < 0 ∨ 2 ≤ k) (va vb : Value) (w : World) :
    Calls Try.prog 11 #[.int .i64 k, va, vb] w (Ret fun e w' => Below w.heap.size w w' ∧ e = .tuple #[.slice none 0 0, .int .i64 2]) := by
  go_enter Try.func11, Try.ntmps11
  go_wp2_with fail
  refine (ofTwo_no k hk _ _ _ _).mono ?_
  rintro e w1 ⟨v, rfl, hb1, rfl⟩
  go_wp2
  go_ret2
  exact ⟨_, rfl, hb1, rfl⟩
set_option maxHeartbeats 1000000 in
theorem Mul_no (k : Int) (hk : k < 0 ∨ 2 ≤ k) (va vb : Value) (w : World) :
    Calls Try.prog 12 #[.int .i64 k, va, vb] w (Ret fun e w' => Below w.heap.size w w' ∧ e = .tuple #[.slice none 0 0, .int .i64 2]) := by
  go_enter Try.func12, Try.ntmps12
  go_wp2_with fail
  refine (ofTwo_no k hk _ _ _ _).mono ?_
  rintro e w1 ⟨v, rfl, hb1, rfl⟩
  go_wp2
  go_ret2
  exact ⟨_, rfl, hb1, rfl⟩
end Go.Proofs.Ytbimbalfdmffaab
namespace Go.Proofs.Ytbimbalfdmffaab
open Go.RowKit Go.Sort Go.Deep

set_option maxHeartbeats 4000000 in
set_option maxRecDepth 100000 in
theorem Inv_any (k : Int) (g0 g1 g2 P : Nat) (va : Value) (s : Bs) (hG : Gap g0 g1 g2 P) (hP2 : 2 ≤ P % 18446744073709551616) (w : World) (hp : PrimeOf k g0 g1 g2) (ha : Arg w va s) :
    Calls Try.prog 13 #[.int .i64 k, va] w (Ret fun e w' => Below w.heap.size w w' ∧ OneR w P s (beV s.toList ^ (P - 2) % P) e w') := by
  have HP : Hid (PrimeOf k g0 g1 g2) := hp
  have HA : Hid (Arg w va s) := ha
  have HG : Hid (Gap g0 g1 g2 P) := hG
  have HP2 : Hid (2 ≤ P % 18446744073709551616) := hP2
  obtain ⟨pa, na, ca, rfl, -⟩ := id ha
  clear hp hG ha hP2
  go_enter Try.func13, Try.ntmps13
  go_wp2_with fail
  refine (HP.out _).mono ?_
  rintro e w1 ⟨v, rfl, hb1, rfl⟩
  go_wp2_with fail
  have KP := ((Kept.mk1 hb1 hb1.size).alloc (.cells #[.int .u64 (g0 : Int), .int .u64 (g1 : Int), .int .u64 (g2 : Int), .int .u64 0] 79)).cons (At4.made w1 79 g0 g1 g2 0 rfl).blk
  have hA := args_one HA.out KP.bl 23
  rw [World.size_alloc] at hA
  replace KP := KP.alloc (.cells #[.slice pa na ca] 23)
  clear hb1
  generalize World.alloc _ _ = W0 at KP hA ⊢
  generalize w1.heap.size = kp at KP hA ⊢
  refine (numbers_any g0 g1 g2 P 1 1 _ (fun _ => s) HG.out _ (by decide) hA).mono ?_
  rintro e w2 ⟨v, rfl, hb2, h2⟩
  replace KP := KP.call hb2
  clear hb2 hA
  rcases h2 with ⟨hall, kn, hkn, rfl, NM⟩ | ⟨hno, rfl⟩
  · have HBO : Hid (IsNum P s) := hall 0 (by decide)
    clear hall hkn
    obtain ⟨xa, xb, xc, xd, X, hX⟩ := NM 0 (by decide)
    have HX : Hid (Four _ (beV s.toList)) := hX (by decide)
    replace X : (Blk.mk kn 0 xa xb xc xd).at w2 := X
    replace KP : Kept w w.heap.size [⟨kp, 0, g0, g1, g2, 0⟩, ⟨kn, 0, xa, xb, xc, xd⟩] w2 := ((Kept.mk1 KP.bl KP.le).cons X).cons KP.head
    clear NM hX X
    obtain ⟨pc0, pc1, pc2, pc3, pf⟩ := KP.head.at4
    go_upto_region 7 with fail
    clear pc0 pc1 pc2 pc3 pf
    go_region_held3 (fun w' => w'.cell? ⟨kp, 0, none⟩ = some (.int .u64 (g0 : Int)) ∧ w'.cell? ⟨kp, 1, none⟩ = some (.int .u64 (g1 : Int)) ∧ w'.cell? ⟨kp, 2, none⟩ = some (.int .u64 (g2 : Int)) ∧ w'.cell? ⟨kp, 3, none⟩ = some (.int .u64 0) ∧ w'.cell? ⟨kn, 0, none⟩ = some (.int .u64 (xa : Int)) ∧ w'.cell? ⟨kn, 1, none⟩ = some (.int .u64 (xb : Int)) ∧ w'.cell? ⟨kn, 2, none⟩ = some (.int .u64 (xc : Int)) ∧ w'.cell? ⟨kn, 3, none⟩ = some (.int .u64 (xd : Int)) ∧ Kept w w.heap.size [⟨kp, 0, g0, g1, g2, 0⟩, ⟨kn, 0, xa, xb, xc, xd⟩] w') (first | (with_reducible exact oneS_of KP) | (with_reducible exact oneS_of KP.drew) | fail) (first | (go_at_call 50; refine (Inverse_any g0 g1 g2 P _ _ HG.out HP2.out HX.out _).mono ?_; rintro e w3 ⟨v, rfl, hb1, hF3⟩; obtain ⟨a', b', c', d', rfl, ha', hb', hc', hd', es3⟩ := id hF3; clear es3; have HF3 : Hid (Four _ _) := hF3; clear hF3; (first | (with_reducible (have KP1 := KP.drew.call hb1)) | (with_reducible (have KP1 := KP.call hb1)) | fail); clear KP; have KP := KP1; clear KP1; clear hb1) | (go_at_call 51; refine (bytes_of _ _ _ HF3.out).mono ?_; rintro e w4 ⟨v, rfl, hb1, hv⟩; obtain ⟨g', x', y', z', u', rfl, h2⟩ := id hv; clear h2; have HV : Hid (IsBytes _ _ _ _) := hv; clear hv; have HL : Hid (w.heap.size ≤ _) := KP.le; (first | (with_reducible (have KP1 := KP.drew.call hb1)) | (with_reducible (have KP1 := KP.call hb1)) | fail); clear KP; have KP := KP1; clear KP1; clear hb1))
    all_goals (try go_wp2)
    all_goals go_ret2
    all_goals exact ⟨_, rfl, KP.bl, Or.inl ⟨HBO.out, _, rfl, HV.out.mono HL.out⟩⟩
  · have HN : Hid (¬ IsNum P s) := by obtain ⟨j, -, h⟩ := hno; exact h
    clear hno
    go_wp2
    go_ret2
    exact ⟨_, rfl, KP.bl, Or.inr ⟨HN.out, rfl⟩⟩

set_option maxHeartbeats 1000000 in
theorem Inv_no (k : Int) (hk : k < 0 ∨ 2 ≤ k) (va : Value) (w : World) :
    Calls Try.prog 13 #[.int .i64 k, va] w (Ret fun e w' => Below w.heap.size w w' ∧ e = .tuple #[.slice none 0 0, .int .i64 2]) := by
  go_enter Try.func13, Try.ntmps13
  go_wp2_with fail
  refine (primeOf_n k hk _).mono ?_
  rintro e w1 ⟨v, rfl, hb1, rfl⟩
  go_wp2
  go_ret2
  exact ⟨_, rfl, hb1.alloc hb1.size _, rfl⟩
end Go.Proofs.Ytbimbalfdmffaab
