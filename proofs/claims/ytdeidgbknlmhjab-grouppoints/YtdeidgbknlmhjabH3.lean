import Derived.Test.YtdeidgbknlmhjabH2
import Derived.Test.YtdeidgbknlmhjabC3
import Derived.LoopN
import Derived.Deep.CutRange
import Derived.Deep.DeepCutAuto
namespace Go.Proofs.Ytdeidgbknlmhjab
open Go.RowKit Go.Sort Go.Deep

/-- A number out of bytes, the highest first. -/
def beV (l : List UInt8) : Nat := l.foldl (fun n b => 256 * n + b.toNat) 0

theorem foldl_from (l : List UInt8) : ∀ n, l.foldl (fun n b => 256 * n + b.toNat) n = n * 256 ^ l.length + beV l := by
  induction l with
  | nil => intro n; simp [beV]
  | cons x r ih =>
    intro n
    have h1 := ih (256 * n + x.toNat)
    have h2 := ih (256 * 0 + x.toNat)
    simp only [List.foldl_cons, List.length_cons, beV] at *
    rw [h1, h2, Nat.pow_succ, Nat.add_mul, Nat.mul_zero, Nat.zero_add, Nat.mul_comm 256 n, Nat.mul_assoc, Nat.mul_comm 256]
    omega
theorem beV_append (l r : List UInt8) : beV (l ++ r) = beV l * 256 ^ r.length + beV r := by
  rw [beV, List.foldl_append, foldl_from]; rfl
theorem beV_zeros (n : Nat) (l : List UInt8) : beV (List.replicate n 0 ++ l) = beV l := by
  rw [beV_append]
  have : beV (List.replicate n 0) = 0 := by
    induction n with
    | zero => rfl
    | succ k ih => rw [List.replicate_succ', beV_append, ih]; rfl
  rw [this, Nat.zero_mul, Nat.zero_add]

set_option maxHeartbeats 2000000 in
theorem beV_32 (x0 x1 x2 x3 x4 x5 x6 x7 x8 x9 x10 x11 x12 x13 x14 x15 x16 x17 x18 x19 x20 x21 x22 x23 x24 x25 x26 x27 x28 x29 x30 x31 : UInt8) :
    beV [x0, x1, x2, x3, x4, x5, x6, x7, x8, x9, x10, x11, x12, x13, x14, x15, x16, x17, x18, x19, x20, x21, x22, x23, x24, x25, x26, x27, x28, x29, x30, x31]
      = val (w8 x24 x25 x26 x27 x28 x29 x30 x31) (w8 x16 x17 x18 x19 x20 x21 x22 x23) (w8 x8 x9 x10 x11 x12 x13 x14 x15) (w8 x0 x1 x2 x3 x4 x5 x6 x7) := by
  simp only [beV, List.foldl_cons, List.foldl_nil, w8, val]
  omega

theorem beV_words (bs : Bs) (h : bs.size = 32) : beV bs.toList = val (w8 bs[24]! bs[25]! bs[26]! bs[27]! bs[28]! bs[29]! bs[30]! bs[31]!) (w8 bs[16]! bs[17]! bs[18]! bs[19]! bs[20]! bs[21]! bs[22]! bs[23]!)
    (w8 bs[8]! bs[9]! bs[10]! bs[11]! bs[12]! bs[13]! bs[14]! bs[15]!) (w8 bs[0]! bs[1]! bs[2]! bs[3]! bs[4]! bs[5]! bs[6]! bs[7]!) := by
  obtain ⟨l⟩ := bs
  match l, h with
  | [x0, x1, x2, x3, x4, x5, x6, x7, x8, x9, x10, x11, x12, x13, x14, x15, x16, x17, x18, x19, x20, x21, x22, x23, x24, x25, x26, x27, x28, x29, x30, x31], _ => exact beV_32 x0 x1 x2 x3 x4 x5 x6 x7 x8 x9 x10 x11 x12 x13 x14 x15 x16 x17 x18 x19 x20 x21 x22 x23 x24 x25 x26 x27 x28 x29 x30 x31

theorem zero32 : ∀ w : World, (zeroValue 150).run Try.prog w = .ok (.agg (Array.replicate 32 (.int .u8 0))) w := fun _ => by kernel_rfl
theorem ints5 : (Try.prog.info? 5).map (·.size) = some 1 := by kernel_rfl

/-- What lies in the array behind the copy: 0 and then the bytes. -/
def padded (n : Nat) (bs : Bs) : Bs := Array.replicate (32 - n) 0 ++ bs

theorem padded_size (n : Nat) (bs : Bs) (hs : bs.size = n) (hn : n ≤ 32) : (padded n bs).size = 32 := by
  unfold padded
  rw [Array.size_append, Array.size_replicate]
  omega
theorem padded_val (n : Nat) (bs : Bs) : beV (padded n bs).toList = beV bs.toList := by
  unfold padded
  rw [Array.toList_append, Array.toList_replicate, beV_zeros]

theorem copy_in {w : World} {b g o n cap : Nat} {bs : Bs} (hZ : Holds encB w b 0 (Array.replicate 32 0)) (hn : n ≤ 32) (hB : Holds encB w g o bs) (hs : bs.size = n) :
    (Builtin.copy_ #[23, 23] 3 #[.slice (some ⟨b, 32 - n, none⟩) n n, .slice (some ⟨g, o, none⟩) n cap]).run Try.prog w = .ok (goInt n) (w.setCells b (32 - n) (bs.toList.map encB))
      ∧ Holds encB (w.setCells b (32 - n) (bs.toList.map encB)) b 0 (padded n bs) := by
  have hlen : (bs.toList.map encB).length = n := by rw [List.length_map, Array.length_toList, hs]
  refine ⟨?_, ?_⟩
  · have := run_copy_cells (P := Try.prog) w 23 23 3 5 b (32 - n) n n ⟨g, o, none⟩ n cap (bs.toList.map encB) slice22 ints5 (by rw [hlen]; exact (Nat.min_self n).symm)
      (fun j u hj => by
        obtain ⟨h1, h2⟩ := List.getElem?_eq_some_iff.1 hj
        rw [hlen] at h1
        have hc := (hB j (by omega)).1
        rw [getElem!_pos bs j (by omega)] at hc
        rw [List.getElem_map, Array.getElem_toList] at h2
        have e1 : (⟨g, o, none⟩ : Addr).add j = ⟨g, o + j, none⟩ := by
          unfold Addr.add
          by_cases h0 : j = 0
          · subst h0; rw [if_pos rfl]; rfl
          · rw [if_neg h0]
        rw [e1, hc, h2])
      (fun j hj => by
        have := (hZ (32 - n + j) (by rw [Array.size_replicate]; omega)).1
        rw [Nat.zero_add] at this
        rw [this]; rfl)
      (fun j hj => by
        have := (hZ (32 - n + j) (by rw [Array.size_replicate]; omega)).2
        rwa [Nat.zero_add] at this)
      (fun u hu => by obtain ⟨x, _, rfl⟩ := List.mem_map.1 hu; rfl)
    rw [hlen] at this
    exact this
  · have := Holds.setCells (r := padded n bs) hZ (bs.toList.map encB) (32 - n) (by rw [padded_size n bs hs hn, Array.size_replicate]) (by rw [hlen, Array.size_replicate]; omega) (fun j hj => ?_) (fun j h1 h2 => ?_)
    · rw [Nat.zero_add] at this
      exact this
    · rw [hlen] at hj
      rw [List.getElem_map, Array.getElem_toList]
      unfold padded
      rw [app_back _ _ _ (by rw [Array.size_replicate]; omega) (by rw [Array.size_replicate]; omega), Array.size_replicate, show 32 - n + j - (32 - n) = j by omega, getElem!_pos bs j (by omega)]
    · rw [Array.size_replicate] at h1
      rw [hlen] at h2
      unfold padded
      rw [app_front _ _ j (by rw [Array.size_replicate]; omega), Array.getElem_replicate, rep_at 32 j h1]

theorem part8 {w : World} {g : Nat} {T : Bs} (p : Nat) (h : Holds encB w g 0 T) (hp : p + 8 ≤ T.size) : Holds encB w g p #[T[p]!, T[p + 1]!, T[p + 2]!, T[p + 3]!, T[p + 4]!, T[p + 5]!, T[p + 6]!, T[p + 7]!] := by
  have := Holds.part (p := p) (e := #[T[p]!, T[p + 1]!, T[p + 2]!, T[p + 3]!, T[p + 4]!, T[p + 5]!, T[p + 6]!, T[p + 7]!]) h (by simpa using hp) (fun j hj => by
    have : j < 8 := by simpa using hj
    match j, this with
    | 0, _ => rfl
    | 1, _ => rfl
    | 2, _ => rfl
    | 3, _ => rfl
    | 4, _ => rfl
    | 5, _ => rfl
    | 6, _ => rfl
    | 7, _ => rfl)
  rwa [Nat.zero_add] at this

theorem word_any8 (g o n cap : Nat) (b0 b1 b2 b3 b4 b5 b6 b7 : UInt8) (w : World) (hn : 8 ≤ n) (hc : n ≤ cap) (hcap : cap ≤ 1048576) (hB : Holds encB w g o #[b0, b1, b2, b3, b4, b5, b6, b7]) :
    Calls Try.prog 113 #[.slice (some ⟨g, o, none⟩) n cap] w fun e w' => e = .returned (.int .u64 ((w8 b0 b1 b2 b3 b4 b5 b6 b7 : Nat) : Int)) ∧ ∃ n, w' = w.drewN n :=
  word_any g o n cap #[b0, b1, b2, b3, b4, b5, b6, b7] w hn hc hcap (Nat.le_refl 8) hB

theorem Holds.far {w : World} {g o j i : Nat} {bs : Bs} (h : Holds encB w g o bs) (hj : j ≠ g) (v : Value) : Holds encB (w.setCell ⟨j, i, none⟩ v) g o bs := by
  intro l hl
  rw [World.cell?_setCell_other _ _ _ _ (ne_addr (Or.inl hj)), World.frozen?_setCell]
  exact h l hl

set_option maxHeartbeats 4000000 in
set_option maxRecDepth 100000 in
theorem fromBytes_any (pa : Option Addr) (g o n cap : Nat) (bs : Bs) (w : World) (hn : n ≤ 32) (hc : n ≤ cap) (hs : bs.size = n) (hB : n = 0 ∨ (pa = some ⟨g, o, none⟩ ∧ Holds encB w g o bs)) :
    Calls Try.prog 98 #[.slice pa n cap] w (Ret fun e w' => Below w.heap.size w w' ∧ Four e (beV bs.toList)) := by
  have hps := padded_size n bs hs hn
  have HV : Hid (beV bs.toList = _) := (padded_val n bs).symm.trans (beV_words _ hps)
  generalize beV bs.toList = V at HV ⊢
  have zv := zero32
  have hn' : (n : Int) ≤ 32 := by omega
  have d0 : (0 : Int) ≤ 32 - (n : Int) := by omega
  have d1 : (32 : Int) - (n : Int) ≤ 32 := by omega
  have d2 : ((32 : Int) - (n : Int)).toNat = 32 - n := by omega
  go_enter Try.func98, Try.ntmps98
  go_upto_region 2 with fail
  have R := (At4.made w 85 0 0 0 0 rfl).alloc (.cells (Array.replicate 32 (.int .u8 0)) 150)
  have Z : Holds encB ((w.alloc (.cells #[.int .u64 0, .int .u64 0, .int .u64 0, .int .u64 0] 85)).alloc (.cells (Array.replicate 32 (.int .u8 0)) 150)) (w.heap.size + 1) 0 (Array.replicate 32 0) := by
    have := Holds.new (enc := encB) (w.alloc (.cells #[.int .u64 0, .int .u64 0, .int .u64 0, .int .u64 0] 85)) 150 (Array.replicate 32 0)
    rw [Array.map_replicate, World.size_alloc] at this
    exact this
  have BL := below2 w (.cells #[.int .u64 0, .int .u64 0, .int .u64 0, .int .u64 0] 85) (.cells (Array.replicate 32 (.int .u8 0)) 150)
  simp only [Int.natCast_zero] at R
  have hB' : n = 0 ∨ (pa = some ⟨g, o, none⟩ ∧ Holds encB ((w.alloc (.cells #[.int .u64 0, .int .u64 0, .int .u64 0, .int .u64 0] 85)).alloc (.cells (Array.replicate 32 (.int .u8 0)) 150)) g o bs) := by
    rcases hB with h | ⟨h1, h2⟩
    · exact Or.inl h
    · by_cases h0 : n = 0
      · exact Or.inl h0
      · exact Or.inr ⟨h1, Holds.below h2 BL (Holds.lt h2 (by omega))⟩
  clear hB
  generalize World.alloc _ _ = W0 at R Z BL hB' ⊢
  go_cut [] (fun wx => Holds encB wx (w.heap.size + 1) 0 (padded n bs) ∧ At4 wx w.heap.size 0 0 0 0 ∧ Below w.heap.size w wx)
  case first =>
    by_cases h0 : n = 0
    · subst h0
      have hcp : ∀ w d dl dc, (Builtin.copy_ #[23, 23] 3 #[.slice d dl dc, .slice pa 0 cap]).run Try.prog w = .ok (goInt 0) w := fun w d dl dc => run_copy_none w 23 23 3 5 d pa dl dc 0 cap slice22 ints5 (by simp)
      have hp : padded 0 bs = Array.replicate 32 0 := by
        have : bs = #[] := Array.eq_empty_of_size_eq_zero hs
        rw [this]; rfl
      go_wp2
      go_meet
      exact ⟨by rw [hp]; exact Z, R, BL⟩
    · obtain ⟨rfl, hB⟩ : pa = some ⟨g, o, none⟩ ∧ Holds encB W0 g o bs := hB'.resolve_left h0
      obtain ⟨hcp, hH⟩ := copy_in (cap := cap) Z hn hB hs
      have e3 : ¬ (32 = 32 - n) := by omega
      have e4 : 32 - (32 - n) = n := by omega
      have R' : At4 (W0.setCells (w.heap.size + 1) (32 - n) (bs.toList.map encB)) w.heap.size 0 0 0 0 := by
        have hb := heap_setCells (w.heap.size + 1) (k := w.heap.size) (by omega) (bs.toList.map encB) (32 - n) W0
        exact ⟨by rw [← R.c0]; exact World.cell?_of_block hb, by rw [← R.c1]; exact World.cell?_of_block hb, by rw [← R.c2]; exact World.cell?_of_block hb, by rw [← R.c3]; exact World.cell?_of_block hb, fun o => by rw [← R.f o]; exact World.frozen?_of_block hb⟩
      have BL' : Below w.heap.size w (W0.setCells (w.heap.size + 1) (32 - n) (bs.toList.map encB)) := below_setCells (Nat.le_succ _) _ _ _ BL
      have HF : Hid (_ ∧ _ ∧ _) := ⟨hH, R', BL'⟩
      clear hH R' BL' hB hB' Z R
      go_wp2
      go_meet
      exact HF.out
  case rest =>
    obtain ⟨Z', R', BL'⟩ := hcut
    generalize padded n bs = T at Z' hps HV ⊢
    clear hB' Z R BL zv d0 d1 d2 hn'
    have p3 : Holds encB wc (w.heap.size + 1) 24 #[T[24]!, T[25]!, T[26]!, T[27]!, T[28]!, T[29]!, T[30]!, T[31]!] := part8 24 Z' (by omega)
    have p2 : Holds encB wc (w.heap.size + 1) 16 #[T[16]!, T[17]!, T[18]!, T[19]!, T[20]!, T[21]!, T[22]!, T[23]!] := part8 16 Z' (by omega)
    have p1 : Holds encB wc (w.heap.size + 1) 8 #[T[8]!, T[9]!, T[10]!, T[11]!, T[12]!, T[13]!, T[14]!, T[15]!] := part8 8 Z' (by omega)
    have p0 : Holds encB wc (w.heap.size + 1) 0 #[T[0]!, T[1]!, T[2]!, T[3]!, T[4]!, T[5]!, T[6]!, T[7]!] := part8 0 Z' (by omega)
    have zk := R'.lt
    have zk1 : w.heap.size + 1 < wc.heap.size := Holds.lt Z' (by omega)
    clear Z' hps
    generalize hW3 : w8 T[24]! T[25]! T[26]! T[27]! T[28]! T[29]! T[30]! T[31]! = W3 at HV
    generalize hW2 : w8 T[16]! T[17]! T[18]! T[19]! T[20]! T[21]! T[22]! T[23]! = W2 at HV
    generalize hW1 : w8 T[8]! T[9]! T[10]! T[11]! T[12]! T[13]! T[14]! T[15]! = W1 at HV
    generalize hW0 : w8 T[0]! T[1]! T[2]! T[3]! T[4]! T[5]! T[6]! T[7]! = W0' at HV
    have l3 : W3 < 18446744073709551616 := hW3 ▸ w8_lt _ _ _ _ _ _ _ _
    have l2 : W2 < 18446744073709551616 := hW2 ▸ w8_lt _ _ _ _ _ _ _ _
    have l1 : W1 < 18446744073709551616 := hW1 ▸ w8_lt _ _ _ _ _ _ _ _
    have l0 : W0' < 18446744073709551616 := hW0 ▸ w8_lt _ _ _ _ _ _ _ _
    go_wp2
    have N := At4.made wc 85 0 0 0 0 rfl
    simp only [Int.natCast_zero] at N
    replace p3 := Holds.below p3 (below1 wc (.cells #[.int .u64 0, .int .u64 0, .int .u64 0, .int .u64 0] 85)) zk1
    replace p2 := Holds.below p2 (below1 wc (.cells #[.int .u64 0, .int .u64 0, .int .u64 0, .int .u64 0] 85)) zk1
    replace p1 := Holds.below p1 (below1 wc (.cells #[.int .u64 0, .int .u64 0, .int .u64 0, .int .u64 0] 85)) zk1
    replace p0 := Holds.below p0 (below1 wc (.cells #[.int .u64 0, .int .u64 0, .int .u64 0, .int .u64 0] 85)) zk1
    have BL : Hid (Below w.heap.size w _) := BL'.alloc (Nat.le_of_lt zk) (.cells #[.int .u64 0, .int .u64 0, .int .u64 0, .int .u64 0] 85)
    replace R' := R'.alloc (.cells #[.int .u64 0, .int .u64 0, .int .u64 0, .int .u64 0] 85)
    generalize World.alloc _ _ = V0 at N p3 p2 p1 p0 BL R' ⊢
    have n0 : w.heap.size ≠ wc.heap.size := by omega
    have n1 : w.heap.size + 1 ≠ wc.heap.size := by omega
    have Q : Hid (w.heap.size ≤ wc.heap.size) := by unfold Hid; omega
    generalize wc.heap.size = k2 at N n0 n1 Q ⊢
    clear zk zk1 BL'
    generalize h1 : w.heap.size + 1 = k1 at p3 p2 p1 p0 n1 ⊢
    clear h1
    generalize h0 : w.heap.size = k0 at R' n0 BL Q ⊢
    have H0 : Hid (w.heap.size = k0) := h0
    clear h0
    refine wp_loop_rounds 5 ?_
    obtain ⟨nc0, nc1, nc2, nc3, nf⟩ := id N
    have zn := N.lt
    rw [rounds_succ]; go_wp2_with fail
    refine (word_any8 k1 24 8 8 _ _ _ _ _ _ _ _ _ (by decide) (by decide) (by decide) p3).mono ?_
    rintro e w1 ⟨rfl, q0, rfl⟩
    rw [hW3]
    clear nc0 nc1 nc2 nc3 nf zn p3 hW3
    replace N := N.drewN q0
    obtain ⟨nc0, nc1, nc2, nc3, nf⟩ := id N
    have zn := N.lt
    go_wp2_with fail
    clear nc0 nc1 nc2 nc3 nf zn
    replace N := N.set0 W3
    replace R' := (R'.drewN q0).other (o := 0) n0.symm (.int .u64 (W3 : Int))
    replace BL : Hid (Below k0 w _) := (belowDrewN BL.out q0).setCell (p := ⟨k2, 0, none⟩) Q.out (.int .u64 (W3 : Int))
    replace p2 := Holds.far (Holds.drewN p2 q0) (i := 0) n1.symm (.int .u64 (W3 : Int))
    replace p1 := Holds.far (Holds.drewN p1 q0) (i := 0) n1.symm (.int .u64 (W3 : Int))
    replace p0 := Holds.far (Holds.drewN p0 q0) (i := 0) n1.symm (.int .u64 (W3 : Int))
    generalize World.setCell _ _ _ = V1 at N R' BL p2 p1 p0 ⊢
    obtain ⟨nc0, nc1, nc2, nc3, nf⟩ := id N
    have zn := N.lt
    rw [rounds_succ]; go_wp2_with fail
    refine (word_any8 k1 16 16 16 _ _ _ _ _ _ _ _ _ (by decide) (by decide) (by decide) p2).mono ?_
    rintro e w1 ⟨rfl, q1, rfl⟩
    rw [hW2]
    clear nc0 nc1 nc2 nc3 nf zn p2 hW2
    replace N := N.drewN q1
    obtain ⟨nc0, nc1, nc2, nc3, nf⟩ := id N
    have zn := N.lt
    go_wp2_with fail
    clear nc0 nc1 nc2 nc3 nf zn
    replace N := N.set1 W2
    replace R' := (R'.drewN q1).other (o := 1) n0.symm (.int .u64 (W2 : Int))
    replace BL : Hid (Below k0 w _) := (belowDrewN BL.out q1).setCell (p := ⟨k2, 1, none⟩) Q.out (.int .u64 (W2 : Int))
    replace p1 := Holds.far (Holds.drewN p1 q1) (i := 1) n1.symm (.int .u64 (W2 : Int))
    replace p0 := Holds.far (Holds.drewN p0 q1) (i := 1) n1.symm (.int .u64 (W2 : Int))
    generalize World.setCell _ _ _ = V2 at N R' BL p1 p0 ⊢
    obtain ⟨nc0, nc1, nc2, nc3, nf⟩ := id N
    have zn := N.lt
    rw [rounds_succ]; go_wp2_with fail
    refine (word_any8 k1 8 24 24 _ _ _ _ _ _ _ _ _ (by decide) (by decide) (by decide) p1).mono ?_
    rintro e w1 ⟨rfl, q2, rfl⟩
    rw [hW1]
    clear nc0 nc1 nc2 nc3 nf zn p1 hW1
    replace N := N.drewN q2
    obtain ⟨nc0, nc1, nc2, nc3, nf⟩ := id N
    have zn := N.lt
    go_wp2_with fail
    clear nc0 nc1 nc2 nc3 nf zn
    replace N := N.set2 W1
    replace R' := (R'.drewN q2).other (o := 2) n0.symm (.int .u64 (W1 : Int))
    replace BL : Hid (Below k0 w _) := (belowDrewN BL.out q2).setCell (p := ⟨k2, 2, none⟩) Q.out (.int .u64 (W1 : Int))
    replace p0 := Holds.far (Holds.drewN p0 q2) (i := 2) n1.symm (.int .u64 (W1 : Int))
    generalize World.setCell _ _ _ = V3 at N R' BL p0 ⊢
    obtain ⟨nc0, nc1, nc2, nc3, nf⟩ := id N
    have zn := N.lt
    rw [rounds_succ]; go_wp2_with fail
    refine (word_any8 k1 0 32 32 _ _ _ _ _ _ _ _ _ (by decide) (by decide) (by decide) p0).mono ?_
    rintro e w1 ⟨rfl, q3, rfl⟩
    rw [hW0]
    clear nc0 nc1 nc2 nc3 nf zn p0 hW0
    replace N := N.drewN q3
    obtain ⟨nc0, nc1, nc2, nc3, nf⟩ := id N
    have zn := N.lt
    go_wp2_with fail
    clear nc0 nc1 nc2 nc3 nf zn
    replace N := N.set3 W0'
    replace R' := (R'.drewN q3).other (o := 3) n0.symm (.int .u64 (W0' : Int))
    replace BL : Hid (Below k0 w _) := (belowDrewN BL.out q3).setCell (p := ⟨k2, 3, none⟩) Q.out (.int .u64 (W0' : Int))
    generalize World.setCell _ _ _ = V4 at N R' BL  ⊢
    obtain ⟨nc0, nc1, nc2, nc3, nf⟩ := id N
    have zn := N.lt
    obtain ⟨rc0, rc1, rc2, rc3, rf⟩ := id R'
    have zr := R'.lt
    rw [rounds_succ]; go_wp2
    have RF := R'.self4 W3 W2 W1 W0'
    unfold set4 at RF
    refine bodyPost_ret (v := ?v) ?hr rfl ?hR
    case hr => simp [results, Try.results98, go_sem, RF.c0, RF.c1, RF.c2, RF.c3]; rfl
    refine ⟨_, rfl, ?_, Four.mk l3 l2 l1 l0 HV.out⟩
    rw [H0.out]
    exact below_set4 BL.out (Nat.le_refl _) _ _ _ _
end Go.Proofs.Ytdeidgbknlmhjab
