import Derived.Test.YtdeidgbknlmhjabY1
import Derived.LoopN
namespace Go.Proofs.Ytdeidgbknlmhjab
open Go.RowKit Go.Sort Go.Deep

/-- The eight bytes of a word, the highest first. -/
def be8 (x : Nat) : Bs := #[UInt8.ofNat (x / 72057594037927936), UInt8.ofNat (x / 281474976710656), UInt8.ofNat (x / 1099511627776), UInt8.ofNat (x / 4294967296), UInt8.ofNat (x / 16777216), UInt8.ofNat (x / 65536), UInt8.ofNat (x / 256), UInt8.ofNat x]

/-- The 32 bytes of a number. -/
def be32 (a b c d : Nat) : Bs := be8 d ++ be8 c ++ be8 b ++ be8 a

theorem ub_ofNat (x : Nat) : ub (UInt8.ofNat x) = ((x % 256 : Nat) : Int) := by
  unfold ub
  rw [UInt8.toNat_ofNat']
theorem wrap8 (x : Nat) : IntKind.u8.wrap (x : Int) = ub (UInt8.ofNat x) := by
  rw [ub_ofNat, IntKind.wrap_u8]
  omega
theorem div_cast (x k : Nat) : (x : Int) / (k : Int) = ((x / k : Nat) : Int) := by rw [Int.natCast_ediv]

theorem byte_at (x k : Nat) : (Value.int .u8 ((x : Int) / (k : Int) % 256)) = encB (UInt8.ofNat (x / k)) := by
  unfold encB
  rw [ub_ofNat, Int.natCast_emod, Int.natCast_ediv]
  rfl
theorem byte_top (x : Nat) (hx : x < 18446744073709551616) : (Value.int .u8 ((x : Int) / 72057594037927936)) = encB (UInt8.ofNat (x / 72057594037927936)) := by
  unfold encB
  rw [ub_ofNat]
  exact congrArg (Value.int .u8) (by omega)
theorem set8 (bs : Bs) (hs : bs.size = 8) (v0 v1 v2 v3 v4 v5 v6 v7 : UInt8) :
    (((((((bs.setIfInBounds 0 v0).setIfInBounds 1 v1).setIfInBounds 2 v2).setIfInBounds 3 v3).setIfInBounds 4 v4).setIfInBounds 5 v5).setIfInBounds 6 v6).setIfInBounds 7 v7 = #[v0, v1, v2, v3, v4, v5, v6, v7] := by
  obtain ⟨l⟩ := bs
  match l, hs with
  | [_, _, _, _, _, _, _, _], _ => simp

set_option maxHeartbeats 2000000 in
set_option maxRecDepth 100000 in
theorem putWord_any (g o n cap x : Nat) (bs : Bs) (w : World) (hn : 8 ≤ n) (hc : n ≤ cap) (hcap : cap ≤ 1048576) (hx : x < 18446744073709551616) (hs : bs.size = 8) (hB : Holds encB w g o bs) :
    Calls Try.prog 92 #[.slice (some ⟨g, o, none⟩) n cap, .int .u64 (x : Int)] w fun e w' => e = .returned (.tuple #[]) ∧ Only g o 8 w w' ∧ Holds encB w' g o (be8 x) := by
  obtain ⟨c0, f0⟩ := hB 0 (by omega)
  obtain ⟨c1, f1⟩ := hB 1 (by omega)
  obtain ⟨c2, f2⟩ := hB 2 (by omega)
  obtain ⟨c3, f3⟩ := hB 3 (by omega)
  obtain ⟨c4, f4⟩ := hB 4 (by omega)
  obtain ⟨c5, f5⟩ := hB 5 (by omega)
  obtain ⟨c6, f6⟩ := hB 6 (by omega)
  obtain ⟨c7, f7⟩ := hB 7 (by omega)
  rw [Nat.add_zero] at c0 f0
  have HB : Hid (Holds encB w g o bs) := hB
  clear hB
  go_enter Try.func92, Try.ntmps92
  go_wp2
  have v0 : (Value.int .u8 ((x : Int) / 72057594037927936)) = encB (UInt8.ofNat (x / 72057594037927936)) := byte_top x hx
  have v1 : (Value.int .u8 ((x : Int) / 281474976710656 % 256)) = encB (UInt8.ofNat (x / 281474976710656)) := byte_at x 281474976710656
  have v2 : (Value.int .u8 ((x : Int) / 1099511627776 % 256)) = encB (UInt8.ofNat (x / 1099511627776)) := byte_at x 1099511627776
  have v3 : (Value.int .u8 ((x : Int) / 4294967296 % 256)) = encB (UInt8.ofNat (x / 4294967296)) := byte_at x 4294967296
  have v4 : (Value.int .u8 ((x : Int) / 16777216 % 256)) = encB (UInt8.ofNat (x / 16777216)) := byte_at x 16777216
  have v5 : (Value.int .u8 ((x : Int) / 65536 % 256)) = encB (UInt8.ofNat (x / 65536)) := byte_at x 65536
  have v6 : (Value.int .u8 ((x : Int) / 256 % 256)) = encB (UInt8.ofNat (x / 256)) := byte_at x 256
  have v7 : (Value.int .u8 ((x : Int) % 256)) = encB (UInt8.ofNat x) := by unfold encB; rw [ub_ofNat, Int.natCast_emod]; rfl
  rw [v0, v1, v2, v3, v4, v5, v6, v7]
  go_end0
  refine ⟨rfl, ?_, ?_⟩
  · exact ((((((((Only.refl g o 8 w).setCell (o := o) (by omega) (by omega) _).setCell (o := o + 1) (by omega) (by omega) _).setCell (o := o + 2) (by omega) (by omega) _).setCell (o := o + 3) (by omega) (by omega) _).setCell (o := o + 4) (by omega) (by omega) _).setCell (o := o + 5) (by omega) (by omega) _).setCell (o := o + 6) (by omega) (by omega) _).setCell (o := o + 7) (by omega) (by omega) _
  · have := set8 bs hs (UInt8.ofNat (x / 72057594037927936)) (UInt8.ofNat (x / 281474976710656)) (UInt8.ofNat (x / 1099511627776)) (UInt8.ofNat (x / 4294967296)) (UInt8.ofNat (x / 16777216)) (UInt8.ofNat (x / 65536)) (UInt8.ofNat (x / 256)) (UInt8.ofNat x)
    unfold be8
    rw [← this]
    exact Holds.set (Holds.set (Holds.set (Holds.set (Holds.set (Holds.set (Holds.set (Holds.set HB.out (i := 0) (by omega) _) (i := 1) (by simp; omega) _) (i := 2) (by simp; omega) _) (i := 3) (by simp; omega) _) (i := 4) (by simp; omega) _) (i := 5) (by simp; omega) _) (i := 6) (by simp; omega) _) (i := 7) (by simp; omega) _

theorem be8_size (x : Nat) : (be8 x).size = 8 := rfl
theorem be32_size (a b c d : Nat) : (be32 a b c d).size = 32 := by simp only [be32, Array.size_append, be8_size]

/-- A row in a row. -/
theorem Holds.part {w : World} {g o p : Nat} {d e : Bs} (h : Holds encB w g o d) (hp : p + e.size ≤ d.size) (he : ∀ j, j < e.size → e[j]! = d[p + j]!) : Holds encB w g (o + p) e := by
  intro j hj
  rw [he j hj, Nat.add_assoc]
  exact h (p + j) (by omega)

/-- Four rows of eight, one behind the other. -/
theorem Holds.join {w : World} {g : Nat} {a b c d : Nat} (h0 : Holds encB w g 0 (be8 d)) (h1 : Holds encB w g 8 (be8 c)) (h2 : Holds encB w g 16 (be8 b)) (h3 : Holds encB w g 24 (be8 a)) : Holds encB w g 0 (be32 a b c d) := by
  intro j hj
  rw [be32_size] at hj
  have e : be32 a b c d = be8 d ++ be8 c ++ be8 b ++ be8 a := rfl
  have s1 : (be8 d ++ be8 c).size = 16 := by simp only [Array.size_append, be8_size]
  have s2 : (be8 d ++ be8 c ++ be8 b).size = 24 := by simp only [Array.size_append, be8_size]
  by_cases k1 : j < 8
  · have := h0 j (by rw [be8_size]; exact k1)
    rw [e, app_front _ _ j (by omega), ← getElem!_pos (be8 d ++ be8 c ++ be8 b) j (by omega), app_front _ _ j (by omega), ← getElem!_pos (be8 d ++ be8 c) j (by omega), app_front _ _ j (by rw [be8_size]; exact k1), ← getElem!_pos (be8 d) j (by rw [be8_size]; exact k1)]
    exact this
  · by_cases k2 : j < 16
    · have := h1 (j - 8) (by rw [be8_size]; omega)
      rw [show 8 + (j - 8) = 0 + j by omega] at this
      rw [e, app_front _ _ j (by omega), ← getElem!_pos (be8 d ++ be8 c ++ be8 b) j (by omega), app_front _ _ j (by omega), ← getElem!_pos (be8 d ++ be8 c) j (by omega), app_back _ _ j (by rw [be8_size]; omega) (by rw [be8_size, be8_size]; omega), be8_size]
      exact this
    · by_cases k3 : j < 24
      · have := h2 (j - 16) (by rw [be8_size]; omega)
        rw [show 16 + (j - 16) = 0 + j by omega] at this
        rw [e, app_front _ _ j (by omega), ← getElem!_pos (be8 d ++ be8 c ++ be8 b) j (by omega), app_back _ _ j (by omega) (by rw [s1, be8_size]; omega), s1]
        exact this
      · have := h3 (j - 24) (by rw [be8_size]; omega)
        rw [show 24 + (j - 24) = 0 + j by omega] at this
        rw [e, app_back _ _ j (by omega) (by rw [s2, be8_size]; omega), s2]
        exact this

theorem idx0 (a b c d : Nat) (w : World) : (Instr.index 85 (.agg #[.int .u64 (a : Int), .int .u64 (b : Int), .int .u64 (c : Int), .int .u64 (d : Int)]) (.int .i64 0)).run Try.prog w = .ok (.int .u64 (a : Int)) w := by kernel_rfl
theorem idx1 (a b c d : Nat) (w : World) : (Instr.index 85 (.agg #[.int .u64 (a : Int), .int .u64 (b : Int), .int .u64 (c : Int), .int .u64 (d : Int)]) (.int .i64 1)).run Try.prog w = .ok (.int .u64 (b : Int)) w := by kernel_rfl
theorem idx2 (a b c d : Nat) (w : World) : (Instr.index 85 (.agg #[.int .u64 (a : Int), .int .u64 (b : Int), .int .u64 (c : Int), .int .u64 (d : Int)]) (.int .i64 2)).run Try.prog w = .ok (.int .u64 (c : Int)) w := by kernel_rfl
theorem idx3 (a b c d : Nat) (w : World) : (Instr.index 85 (.agg #[.int .u64 (a : Int), .int .u64 (b : Int), .int .u64 (c : Int), .int .u64 (d : Int)]) (.int .i64 3)).run Try.prog w = .ok (.int .u64 (d : Int)) w := by kernel_rfl

theorem part_zero {w : World} {g : Nat} (p : Nat) (h : Holds encB w g 0 (Array.replicate 32 0)) (hp : p + 8 ≤ 32) : Holds encB w g p (Array.replicate 8 (0 : UInt8)) := by
  have := Holds.part (p := p) (e := Array.replicate 8 0) h (by simpa using hp) (fun j hj => by
    rw [Array.size_replicate] at hj
    rw [rep_at 8 j hj, rep_at 32 (p + j) (by omega)])
  rwa [Nat.zero_add] at this

set_option maxHeartbeats 4000000 in
set_option maxRecDepth 100000 in
theorem Bytes_any (x : Value) (m : Nat) (w : World) (hx : Four x m) :
    Calls Try.prog 51 #[x] w (Ret fun e w' => Below w.heap.size w w' ∧ ∃ g a b c d : Nat, e = .slice (some ⟨g, 0, none⟩) 32 32 ∧ w.heap.size ≤ g ∧ x = .agg #[.int .u64 (a : Int), .int .u64 (b : Int), .int .u64 (c : Int), .int .u64 (d : Int)] ∧ Holds encB w' g 0 (be32 a b c d)) := by
  obtain ⟨a, b, c, d, rfl, ha, hb, hc, hd, em⟩ := hx
  clear em
  have hmk : ∀ w : World, (Instr.makeSlice 23 (.int .i64 32) (.int .i64 32)).run Try.prog w = .ok (.slice (some ⟨w.heap.size, 0, none⟩) 32 32) (w.alloc (.cells (madeCells #[.int .u8 0] 32) 5)) :=
    run_make_row' (P := Try.prog) 23 5 (.int .u8 0) 1 slice22 info5 rfl .i64 .i64 32 (by omega) (by omega)
  go_enter Try.func51, Try.ntmps51
  go_wp2
  refine wp_loop_rounds 5 ?_
  have hH0 : Holds encB (((w.alloc (.cells #[.int .u64 (a : Int), .int .u64 (b : Int), .int .u64 (c : Int), .int .u64 (d : Int)] 85)).alloc (.cells (madeCells #[.int .u8 0] 32) 5))) (w.heap.size + 1) 0 (Array.replicate 32 0) := by
    have := Holds.made (enc := encB) (w.alloc (.cells #[.int .u64 (a : Int), .int .u64 (b : Int), .int .u64 (c : Int), .int .u64 (d : Int)] 85)) 5 32 0
    rw [World.size_alloc] at this
    exact this
  have hb0 := below2 w (.cells #[.int .u64 (a : Int), .int .u64 (b : Int), .int .u64 (c : Int), .int .u64 (d : Int)] 85) (.cells (madeCells #[.int .u8 0] 32) 5)
  generalize ((w.alloc (.cells #[.int .u64 (a : Int), .int .u64 (b : Int), .int .u64 (c : Int), .int .u64 (d : Int)] 85)).alloc (.cells (madeCells #[.int .u8 0] 32) 5)) = W at hH0 hb0 ⊢
  have HBW : Hid (Below w.heap.size w W) := hb0
  generalize hg : w.heap.size + 1 = g at hH0 ⊢
  have HG : Hid (w.heap.size + 1 = g) := hg
  clear hb0 hmk hg
  have hZ0 := part_zero 24 hH0 (by omega)
  have hZ1 := part_zero 16 hH0 (by omega)
  have hZ2 := part_zero 8 hH0 (by omega)
  have hZ3 := part_zero 0 hH0 (by omega)
  clear hH0
  have ix0 := idx0 a b c d
  have ix1 := idx1 a b c d
  have ix2 := idx2 a b c d
  have ix3 := idx3 a b c d
  rw [rounds_succ]; go_wp2_with (simp only [ix0])
  refine (putWord_any g 24 8 8 a _ _ (by omega) (by omega) (by omega) ha (by rw [Array.size_replicate]) hZ0).mono ?_
  rintro e w1 ⟨rfl, o1, b1⟩
  replace hZ1 := Holds.same hZ1 o1 (by simp)
  replace hZ2 := Holds.same hZ2 o1 (by simp)
  replace hZ3 := Holds.same hZ3 o1 (by simp)
  have HB1 : Hid (Below w.heap.size w w1) := HBW.out.trans (o1.below HBW.out.size (by have := HG.out; omega))
  clear o1 hZ0 HBW
  go_wp2_with fail
  rw [rounds_succ]; go_wp2_with (simp only [ix1])
  refine (putWord_any g 16 16 16 b _ _ (by omega) (by omega) (by omega) hb (by rw [Array.size_replicate]) hZ1).mono ?_
  rintro e w2 ⟨rfl, o2, b2⟩
  replace hZ2 := Holds.same hZ2 o2 (by simp)
  replace hZ3 := Holds.same hZ3 o2 (by simp)
  replace b1 := Holds.same b1 o2 (by simp)
  have HB2 : Hid (Below w.heap.size w w2) := HB1.out.trans (o2.below HB1.out.size (by have := HG.out; omega))
  clear o2 hZ1 HB1
  go_wp2_with fail
  rw [rounds_succ]; go_wp2_with (simp only [ix2])
  refine (putWord_any g 8 24 24 c _ _ (by omega) (by omega) (by omega) hc (by rw [Array.size_replicate]) hZ2).mono ?_
  rintro e w3 ⟨rfl, o3, b3⟩
  replace hZ3 := Holds.same hZ3 o3 (by simp)
  replace b1 := Holds.same b1 o3 (by simp)
  replace b2 := Holds.same b2 o3 (by simp)
  have HB3 : Hid (Below w.heap.size w w3) := HB2.out.trans (o3.below HB2.out.size (by have := HG.out; omega))
  clear o3 hZ2 HB2
  go_wp2_with fail
  rw [rounds_succ]; go_wp2_with (simp only [ix3])
  refine (putWord_any g 0 32 32 d _ _ (by omega) (by omega) (by omega) hd (by rw [Array.size_replicate]) hZ3).mono ?_
  rintro e w4 ⟨rfl, o4, b4⟩
  replace b1 := Holds.same b1 o4 (by simp)
  replace b2 := Holds.same b2 o4 (by simp)
  replace b3 := Holds.same b3 o4 (by simp)
  have HB4 : Hid (Below w.heap.size w w4) := HB3.out.trans (o4.below HB3.out.size (by have := HG.out; omega))
  clear o4 hZ3 HB3
  have HH : Hid (Holds encB w4 g 0 (be32 a b c d)) := Holds.join b4 b3 b2 b1
  clear b1 b2 b3 b4 ix0 ix1 ix2 ix3
  go_wp2_with fail
  rw [rounds_succ]; go_wp2
  go_ret
  exact ⟨_, rfl, HB4.out, g, a, b, c, d, rfl, by have := HG.out; omega, rfl, HH.out⟩
end Go.Proofs.Ytdeidgbknlmhjab
