import Derived.Test.YtfkgfcggcfkkiaaDoorwt4
set_option linter.unusedVariables false
set_option linter.unusedSimpArgs false
namespace Go.Proofs.YtfkgfcggcfkkiaaDoor
open Go.RowKit Go.Sort Go.Deep
namespace WI
theorem strcat (x y : List UInt8) (h : x.length + y.length ≤ 9223372036854775807) (w : World) : (binOp .add 9 (.string ⟨x.toArray⟩) (.string ⟨y.toArray⟩)).run Tryd.prog w = .ok (.string ⟨(x ++ y).toArray⟩) w := by
  have e : (⟨(x ++ y).toArray⟩ : ByteArray) = ⟨x.toArray⟩ ++ ⟨y.toArray⟩ := by
    apply ByteArray.ext
    rw [ByteArray.data_append]
    simp
  have h1 : (⟨x.toArray⟩ : ByteArray).size = x.length := sizeS x
  have h2 : (⟨y.toArray⟩ : ByteArray).size = y.length := sizeS y
  rw [e]
  generalize (⟨x.toArray⟩ : ByteArray) = X at *
  generalize (⟨y.toArray⟩ : ByteArray) = Y at *
  have h3 : X.size + Y.size ≤ 9223372036854775807 := by omega
  clear h1 h2 h e
  go_simp
theorem cat_eq {X Y : ByteArray} (x y z : List UInt8) (hX : X = ⟨x.toArray⟩) (hY : Y = ⟨y.toArray⟩) (hz : x ++ y = z) : X ++ Y = ⟨z.toArray⟩ := by
  subst hX hY hz
  apply ByteArray.ext
  rw [ByteArray.data_append]
  simp
theorem cat_sz {X Y : ByteArray} (x y : List UInt8) (hX : X = ⟨x.toArray⟩) (hY : Y = ⟨y.toArray⟩) (h : x.length + y.length ≤ 9223372036854775807) : X.size + Y.size ≤ 9223372036854775807 := by
  subst hX hY
  rw [sizeS, sizeS]
  exact h
theorem strcat2 {X Y Z : ByteArray} (x y z : List UInt8) (hX : X = ⟨x.toArray⟩) (hY : Y = ⟨y.toArray⟩) (hZ : Z = ⟨z.toArray⟩) (hz : x ++ y = z) (h : x.length + y.length ≤ 9223372036854775807) (w : World) : (binOp .add 9 (.string X) (.string Y)).run Tryd.prog w = .ok (.string Z) w := by
  subst hX hY hZ hz
  exact strcat x y h w
theorem box_pb (w : World) (c : UInt8) (v : Int) (hv : (c.toNat : Int) = v) : (convert 22 9 (.slice (some ⟨w.heap.size, 0, none⟩) 1 1)).run Tryd.prog (w.alloc (.cells #[.int .u8 v] 5)) = .ok (.string ⟨#[c]⟩) (w.alloc (.cells #[.int .u8 v] 5)) := by
  subst hv
  exact pb_conv (x := [c]) (own_pb (box1 w c))
set_option maxHeartbeats 1000000 in
set_option maxRecDepth 20000 in
theorem rhead_c (w : World) (k n : Nat) (hk : k < 8) (hn : n < 18446744073709551616) : Calls Tryd.prog 47 #[.int .i64 (k : Int), .int .u64 (n : Int)] w (RetW fun e w' => Below w.heap.size w w' ∧ e = .string ⟨(hd k n).toArray⟩) := by
  by_cases h : n < 24
  · have h1 : (n : Int) < 24 := by omega
    have ho := orK ⟨k, hk⟩ ⟨n, by omega⟩
    simp only at ho
    have hcv := box_pb w (UInt8.ofNat (32 * k + n)) ((32 * k + n : Nat) : Int) (by simp; omega)
    obtain ⟨S, hS⟩ : ∃ S, Hid ((⟨#[UInt8.ofNat (32 * k + n)]⟩ : ByteArray) = S) := ⟨_, rfl⟩
    rw [hS.out] at hcv
    obtain ⟨c, hc⟩ : ∃ c : Nat, Hid (32 * k + n = c) := ⟨_, rfl⟩
    rw [hc.out] at hcv ho
    have he : Hid ((⟨(hd k n).toArray⟩ : ByteArray) = S) := by
      rw [← hS.out, hd, if_pos h]; rfl
    rw [he.out]
    clear hS hc he
    go_enter Tryd.func47, Tryd.ntmps47
    go_wp2
    go_ret
    exact ⟨_, rfl, alloc_below _ _, rfl⟩
  · have h1 : ¬ (n : Int) < 24 := by omega
    have h1b : decide ((n : Int) < 24) = false := decide_eq_false h1
    by_cases g1 : n < 256
    · have g1z : (n : Int) < 256 := by omega
      have ho : bits .or .u8 ((k : Int) * 32) 24 = ((32 * k + 24 : Nat) : Int) := orK ⟨k, hk⟩ ⟨24, by omega⟩
      obtain ⟨c, hcc⟩ : ∃ c : Nat, Hid (32 * k + 24 = c) := ⟨_, rfl⟩
      rw [hcc.out] at ho
      have hc8 : c ≤ 248 := by rw [← hcc.out]; omega
      have he : Hid (hd k n = UInt8.ofNat (c + 0) :: beN 1 n) := by
        show hd k n = UInt8.ofNat (c + 0) :: beN 1 n
        rw [← hcc.out, hd, if_neg h]
        simp only [hlo, hsz]
        rw [if_pos (by omega), if_pos (by omega)]
      clear hcc
      go_enter Tryd.func47, Tryd.ntmps47
      go_wp2
      go_loopg [7, 8] 9 (fun gk s7 s8 wr => w = wr ∧ ∃ a j : Nat, s8 = .int .i64 (a : Int) ∧ s7 = .int .u8 ((c + j : Nat) : Int) ∧ ((a = 1 ∧ j = 0 ∧ gk = 9)))
      case atStart => exact ⟨rfl, 1, 0, rfl, rfl, by simp⟩
      case round =>
        obtain ⟨rfl, a, j, rfl, rfl, hr⟩ := hrel
        rcases hr with ⟨rfl, rfl, rfl⟩
        · have hcv := box_pb w (UInt8.ofNat (c + 0)) (c : Int) (by simp; omega)
          obtain ⟨d, hd⟩ : ∃ d : UInt8, Hid (UInt8.ofNat (c + 0) = d) := ⟨_, rfl⟩
          rw [hd.out] at hcv he
          obtain ⟨S0, hS0⟩ : ∃ S0, Hid ((⟨#[d]⟩ : ByteArray) = S0) := ⟨_, rfl⟩
          rw [hS0.out] at hcv
          have H0 : Hid (S0 = ⟨(d :: (beN 1 n).take (1 - 1)).toArray⟩) := by
            show S0 = _
            rw [← hS0.out]; rfl
          clear hd hS0
          go_wp2
          go_loopg [9, 10] 2 (fun gk s9 s10 wx => ∃ (s : Nat) (z : Int) (S1 : ByteArray), s ≤ 1 ∧ z = (s : Int) - 1 ∧ s10 = .int .i64 z ∧ s9 = .string S1 ∧ gk = s + 1 ∧ Below w.heap.size w wx ∧ S1 = ⟨(d :: (beN 1 n).take (1 - s)).toArray⟩)
          case atStart => exact ⟨1, _, S0, Nat.le_refl _, rfl, rfl, rfl, by omega, alloc_below _ _, H0.out⟩
          case round =>
            obtain ⟨s, z, S1, hs, hz, rfl, rfl, hgk, hbx, hS1⟩ := hrel
            cases s with
            | zero =>
              obtain rfl : z = -1 := by omega
              clear hz
              have KR : Hid (Below w.heap.size w wr ∧ Value.string S1 = .string ⟨(hd k n).toArray⟩) := by
                refine ⟨hbx, ?_⟩
                rw [hS1, he.out, Nat.sub_zero, List.take_of_length_le (by rw [beN_length]; omega)]
              clear hbx hS1
              go_wp2
              go_ret
              exact ⟨_, rfl, KR.out⟩
            | succ s =>
              obtain rfl : z = (s : Int) := by omega
              have hcv2 := box_pb wr (UInt8.ofNat (n / 256 ^ s)) _ (byteS n s)
              have hsn : (d :: (beN 1 n).take (1 - (s + 1))) ++ [UInt8.ofNat (n / 256 ^ s)] = d :: (beN 1 n).take (1 - s) := by
                rw [beN_take n 1 s (by omega)]; rfl
              obtain ⟨S2, hS2⟩ : ∃ S2, Hid (S2 = (⟨#[UInt8.ofNat (n / 256 ^ s)]⟩ : ByteArray)) := ⟨_, rfl⟩
              have hS3 := hidW (cat_eq _ [UInt8.ofNat (n / 256 ^ s)] _ hS1 hS2.out hsn)
              have hct := cat_sz _ [UInt8.ofNat (n / 256 ^ s)] hS1 hS2.out (by rw [List.length_cons, List.length_take, beN_length]; simp <;> omega)
              rw [← hS2.out] at hcv2
              have g0 : (0 : Int) ≤ (s : Int) := by omega
              have HB : Hid (Below w.heap.size w (wr.alloc (.cells #[.int .u8 ((n : Int) / 2 ^ (8 * s) % 256)] 5))) := hbx.alloc hbx.size _
              clear hbx hS1 hS2 hsn hz
              go_wp2
              go_roundg (s + 1)
              case measure => omega
              case rel => exact ⟨s, _, S1 ++ S2, by omega, rfl, rfl, rfl, rfl, HB.out, hS3.out⟩
    · have g1z : ¬ (n : Int) < 256 := by omega
      have g1b : decide ((n : Int) < 256) = false := decide_eq_false g1z
      by_cases g2 : n < 65536
      · have g2z : (n : Int) < 65536 := by omega
        have ho : bits .or .u8 ((k : Int) * 32) 24 = ((32 * k + 24 : Nat) : Int) := orK ⟨k, hk⟩ ⟨24, by omega⟩
        obtain ⟨c, hcc⟩ : ∃ c : Nat, Hid (32 * k + 24 = c) := ⟨_, rfl⟩
        rw [hcc.out] at ho
        have hc8 : c ≤ 248 := by rw [← hcc.out]; omega
        have he : Hid (hd k n = UInt8.ofNat (c + 1) :: beN 2 n) := by
          show hd k n = UInt8.ofNat (c + 1) :: beN 2 n
          rw [← hcc.out, hd, if_neg h]
          simp only [hlo, hsz]
          rw [if_neg (by omega), if_pos (by omega), if_neg (by omega), if_pos (by omega)]
        clear hcc
        go_enter Tryd.func47, Tryd.ntmps47
        go_wp2
        go_loopg [7, 8] 9 (fun gk s7 s8 wr => w = wr ∧ ∃ a j : Nat, s8 = .int .i64 (a : Int) ∧ s7 = .int .u8 ((c + j : Nat) : Int) ∧ ((a = 2 ∧ j = 0 ∧ gk = 9) ∨ (a = 1 ∧ j = 1 ∧ gk = 8)))
        case atStart => exact ⟨rfl, 2, 0, rfl, rfl, by simp⟩
        case round =>
          obtain ⟨rfl, a, j, rfl, rfl, hr⟩ := hrel
          rcases hr with ⟨rfl, rfl, rfl⟩ | ⟨rfl, rfl, rfl⟩
          · go_wp2
            go_roundg 8
            case measure => omega
            case rel => exact ⟨rfl, 1, 1, rfl, by simp [Int.add_assoc], by simp⟩
          · have hcv := box_pb w (UInt8.ofNat (c + 1)) ((c : Int) + 1) (by simp; omega)
            obtain ⟨d, hd⟩ : ∃ d : UInt8, Hid (UInt8.ofNat (c + 1) = d) := ⟨_, rfl⟩
            rw [hd.out] at hcv he
            obtain ⟨S0, hS0⟩ : ∃ S0, Hid ((⟨#[d]⟩ : ByteArray) = S0) := ⟨_, rfl⟩
            rw [hS0.out] at hcv
            have H0 : Hid (S0 = ⟨(d :: (beN 2 n).take (2 - 2)).toArray⟩) := by
              show S0 = _
              rw [← hS0.out]; rfl
            clear hd hS0
            go_wp2
            go_loopg [9, 10] 3 (fun gk s9 s10 wx => ∃ (s : Nat) (z : Int) (S1 : ByteArray), s ≤ 2 ∧ z = (s : Int) - 1 ∧ s10 = .int .i64 z ∧ s9 = .string S1 ∧ gk = s + 1 ∧ Below w.heap.size w wx ∧ S1 = ⟨(d :: (beN 2 n).take (2 - s)).toArray⟩)
            case atStart => exact ⟨2, _, S0, Nat.le_refl _, rfl, rfl, rfl, by omega, alloc_below _ _, H0.out⟩
            case round =>
              obtain ⟨s, z, S1, hs, hz, rfl, rfl, hgk, hbx, hS1⟩ := hrel
              cases s with
              | zero =>
                obtain rfl : z = -1 := by omega
                clear hz
                have KR : Hid (Below w.heap.size w wr ∧ Value.string S1 = .string ⟨(hd k n).toArray⟩) := by
                  refine ⟨hbx, ?_⟩
                  rw [hS1, he.out, Nat.sub_zero, List.take_of_length_le (by rw [beN_length]; omega)]
                clear hbx hS1
                go_wp2
                go_ret
                exact ⟨_, rfl, KR.out⟩
              | succ s =>
                obtain rfl : z = (s : Int) := by omega
                have hcv2 := box_pb wr (UInt8.ofNat (n / 256 ^ s)) _ (byteS n s)
                have hsn : (d :: (beN 2 n).take (2 - (s + 1))) ++ [UInt8.ofNat (n / 256 ^ s)] = d :: (beN 2 n).take (2 - s) := by
                  rw [beN_take n 2 s (by omega)]; rfl
                obtain ⟨S2, hS2⟩ : ∃ S2, Hid (S2 = (⟨#[UInt8.ofNat (n / 256 ^ s)]⟩ : ByteArray)) := ⟨_, rfl⟩
                have hS3 := hidW (cat_eq _ [UInt8.ofNat (n / 256 ^ s)] _ hS1 hS2.out hsn)
                have hct := cat_sz _ [UInt8.ofNat (n / 256 ^ s)] hS1 hS2.out (by rw [List.length_cons, List.length_take, beN_length]; simp <;> omega)
                rw [← hS2.out] at hcv2
                have g0 : (0 : Int) ≤ (s : Int) := by omega
                have HB : Hid (Below w.heap.size w (wr.alloc (.cells #[.int .u8 ((n : Int) / 2 ^ (8 * s) % 256)] 5))) := hbx.alloc hbx.size _
                clear hbx hS1 hS2 hsn hz
                go_wp2
                go_roundg (s + 1)
                case measure => omega
                case rel => exact ⟨s, _, S1 ++ S2, by omega, rfl, rfl, rfl, rfl, HB.out, hS3.out⟩
      · have g2z : ¬ (n : Int) < 65536 := by omega
        have g2b : decide ((n : Int) < 65536) = false := decide_eq_false g2z
        by_cases g3 : n < 4294967296
        · have g3z : (n : Int) < 4294967296 := by omega
          have ho : bits .or .u8 ((k : Int) * 32) 24 = ((32 * k + 24 : Nat) : Int) := orK ⟨k, hk⟩ ⟨24, by omega⟩
          obtain ⟨c, hcc⟩ : ∃ c : Nat, Hid (32 * k + 24 = c) := ⟨_, rfl⟩
          rw [hcc.out] at ho
          have hc8 : c ≤ 248 := by rw [← hcc.out]; omega
          have he : Hid (hd k n = UInt8.ofNat (c + 2) :: beN 4 n) := by
            show hd k n = UInt8.ofNat (c + 2) :: beN 4 n
            rw [← hcc.out, hd, if_neg h]
            simp only [hlo, hsz]
            rw [if_neg (by omega), if_neg (by omega), if_pos (by omega), if_neg (by omega), if_neg (by omega), if_pos (by omega)]
          clear hcc
          go_enter Tryd.func47, Tryd.ntmps47
          go_wp2
          go_loopg [7, 8] 9 (fun gk s7 s8 wr => w = wr ∧ ∃ a j : Nat, s8 = .int .i64 (a : Int) ∧ s7 = .int .u8 ((c + j : Nat) : Int) ∧ ((a = 4 ∧ j = 0 ∧ gk = 9) ∨ (a = 2 ∧ j = 1 ∧ gk = 8) ∨ (a = 1 ∧ j = 2 ∧ gk = 7)))
          case atStart => exact ⟨rfl, 4, 0, rfl, rfl, by simp⟩
          case round =>
            obtain ⟨rfl, a, j, rfl, rfl, hr⟩ := hrel
            rcases hr with ⟨rfl, rfl, rfl⟩ | ⟨rfl, rfl, rfl⟩ | ⟨rfl, rfl, rfl⟩
            · go_wp2
              go_roundg 8
              case measure => omega
              case rel => exact ⟨rfl, 2, 1, rfl, by simp [Int.add_assoc], by simp⟩
            · go_wp2
              go_roundg 7
              case measure => omega
              case rel => exact ⟨rfl, 1, 2, rfl, by simp [Int.add_assoc], by simp⟩
            · have hcv := box_pb w (UInt8.ofNat (c + 2)) ((c : Int) + 2) (by simp; omega)
              obtain ⟨d, hd⟩ : ∃ d : UInt8, Hid (UInt8.ofNat (c + 2) = d) := ⟨_, rfl⟩
              rw [hd.out] at hcv he
              obtain ⟨S0, hS0⟩ : ∃ S0, Hid ((⟨#[d]⟩ : ByteArray) = S0) := ⟨_, rfl⟩
              rw [hS0.out] at hcv
              have H0 : Hid (S0 = ⟨(d :: (beN 4 n).take (4 - 4)).toArray⟩) := by
                show S0 = _
                rw [← hS0.out]; rfl
              clear hd hS0
              go_wp2
              go_loopg [9, 10] 5 (fun gk s9 s10 wx => ∃ (s : Nat) (z : Int) (S1 : ByteArray), s ≤ 4 ∧ z = (s : Int) - 1 ∧ s10 = .int .i64 z ∧ s9 = .string S1 ∧ gk = s + 1 ∧ Below w.heap.size w wx ∧ S1 = ⟨(d :: (beN 4 n).take (4 - s)).toArray⟩)
              case atStart => exact ⟨4, _, S0, Nat.le_refl _, rfl, rfl, rfl, by omega, alloc_below _ _, H0.out⟩
              case round =>
                obtain ⟨s, z, S1, hs, hz, rfl, rfl, hgk, hbx, hS1⟩ := hrel
                cases s with
                | zero =>
                  obtain rfl : z = -1 := by omega
                  clear hz
                  have KR : Hid (Below w.heap.size w wr ∧ Value.string S1 = .string ⟨(hd k n).toArray⟩) := by
                    refine ⟨hbx, ?_⟩
                    rw [hS1, he.out, Nat.sub_zero, List.take_of_length_le (by rw [beN_length]; omega)]
                  clear hbx hS1
                  go_wp2
                  go_ret
                  exact ⟨_, rfl, KR.out⟩
                | succ s =>
                  obtain rfl : z = (s : Int) := by omega
                  have hcv2 := box_pb wr (UInt8.ofNat (n / 256 ^ s)) _ (byteS n s)
                  have hsn : (d :: (beN 4 n).take (4 - (s + 1))) ++ [UInt8.ofNat (n / 256 ^ s)] = d :: (beN 4 n).take (4 - s) := by
                    rw [beN_take n 4 s (by omega)]; rfl
                  obtain ⟨S2, hS2⟩ : ∃ S2, Hid (S2 = (⟨#[UInt8.ofNat (n / 256 ^ s)]⟩ : ByteArray)) := ⟨_, rfl⟩
                  have hS3 := hidW (cat_eq _ [UInt8.ofNat (n / 256 ^ s)] _ hS1 hS2.out hsn)
                  have hct := cat_sz _ [UInt8.ofNat (n / 256 ^ s)] hS1 hS2.out (by rw [List.length_cons, List.length_take, beN_length]; simp <;> omega)
                  rw [← hS2.out] at hcv2
                  have g0 : (0 : Int) ≤ (s : Int) := by omega
                  have HB : Hid (Below w.heap.size w (wr.alloc (.cells #[.int .u8 ((n : Int) / 2 ^ (8 * s) % 256)] 5))) := hbx.alloc hbx.size _
                  clear hbx hS1 hS2 hsn hz
                  go_wp2
                  go_roundg (s + 1)
                  case measure => omega
                  case rel => exact ⟨s, _, S1 ++ S2, by omega, rfl, rfl, rfl, rfl, HB.out, hS3.out⟩
        · have g3z : ¬ (n : Int) < 4294967296 := by omega
          have g3b : decide ((n : Int) < 4294967296) = false := decide_eq_false g3z
          have ho : bits .or .u8 ((k : Int) * 32) 24 = ((32 * k + 24 : Nat) : Int) := orK ⟨k, hk⟩ ⟨24, by omega⟩
          obtain ⟨c, hcc⟩ : ∃ c : Nat, Hid (32 * k + 24 = c) := ⟨_, rfl⟩
          rw [hcc.out] at ho
          have hc8 : c ≤ 248 := by rw [← hcc.out]; omega
          have he : Hid (hd k n = UInt8.ofNat (c + 3) :: beN 8 n) := by
            show hd k n = UInt8.ofNat (c + 3) :: beN 8 n
            rw [← hcc.out, hd, if_neg h]
            simp only [hlo, hsz]
            rw [if_neg (by omega), if_neg (by omega), if_neg (by omega), if_neg (by omega), if_neg (by omega), if_neg (by omega)]
          clear hcc
          go_enter Tryd.func47, Tryd.ntmps47
          go_wp2
          go_loopg [7, 8] 9 (fun gk s7 s8 wr => w = wr ∧ ∃ a j : Nat, s8 = .int .i64 (a : Int) ∧ s7 = .int .u8 ((c + j : Nat) : Int) ∧ ((a = 8 ∧ j = 0 ∧ gk = 9) ∨ (a = 4 ∧ j = 1 ∧ gk = 8) ∨ (a = 2 ∧ j = 2 ∧ gk = 7) ∨ (a = 1 ∧ j = 3 ∧ gk = 6)))
          case atStart => exact ⟨rfl, 8, 0, rfl, rfl, by simp⟩
          case round =>
            obtain ⟨rfl, a, j, rfl, rfl, hr⟩ := hrel
            rcases hr with ⟨rfl, rfl, rfl⟩ | ⟨rfl, rfl, rfl⟩ | ⟨rfl, rfl, rfl⟩ | ⟨rfl, rfl, rfl⟩
            · go_wp2
              go_roundg 8
              case measure => omega
              case rel => exact ⟨rfl, 4, 1, rfl, by simp [Int.add_assoc], by simp⟩
            · go_wp2
              go_roundg 7
              case measure => omega
              case rel => exact ⟨rfl, 2, 2, rfl, by simp [Int.add_assoc], by simp⟩
            · go_wp2
              go_roundg 6
              case measure => omega
              case rel => exact ⟨rfl, 1, 3, rfl, by simp [Int.add_assoc], by simp⟩
            · have hcv := box_pb w (UInt8.ofNat (c + 3)) ((c : Int) + 3) (by simp; omega)
              obtain ⟨d, hd⟩ : ∃ d : UInt8, Hid (UInt8.ofNat (c + 3) = d) := ⟨_, rfl⟩
              rw [hd.out] at hcv he
              obtain ⟨S0, hS0⟩ : ∃ S0, Hid ((⟨#[d]⟩ : ByteArray) = S0) := ⟨_, rfl⟩
              rw [hS0.out] at hcv
              have H0 : Hid (S0 = ⟨(d :: (beN 8 n).take (8 - 8)).toArray⟩) := by
                show S0 = _
                rw [← hS0.out]; rfl
              clear hd hS0
              go_wp2
              go_loopg [9, 10] 9 (fun gk s9 s10 wx => ∃ (s : Nat) (z : Int) (S1 : ByteArray), s ≤ 8 ∧ z = (s : Int) - 1 ∧ s10 = .int .i64 z ∧ s9 = .string S1 ∧ gk = s + 1 ∧ Below w.heap.size w wx ∧ S1 = ⟨(d :: (beN 8 n).take (8 - s)).toArray⟩)
              case atStart => exact ⟨8, _, S0, Nat.le_refl _, rfl, rfl, rfl, by omega, alloc_below _ _, H0.out⟩
              case round =>
                obtain ⟨s, z, S1, hs, hz, rfl, rfl, hgk, hbx, hS1⟩ := hrel
                cases s with
                | zero =>
                  obtain rfl : z = -1 := by omega
                  clear hz
                  have KR : Hid (Below w.heap.size w wr ∧ Value.string S1 = .string ⟨(hd k n).toArray⟩) := by
                    refine ⟨hbx, ?_⟩
                    rw [hS1, he.out, Nat.sub_zero, List.take_of_length_le (by rw [beN_length]; omega)]
                  clear hbx hS1
                  go_wp2
                  go_ret
                  exact ⟨_, rfl, KR.out⟩
                | succ s =>
                  obtain rfl : z = (s : Int) := by omega
                  have hcv2 := box_pb wr (UInt8.ofNat (n / 256 ^ s)) _ (byteS n s)
                  have hsn : (d :: (beN 8 n).take (8 - (s + 1))) ++ [UInt8.ofNat (n / 256 ^ s)] = d :: (beN 8 n).take (8 - s) := by
                    rw [beN_take n 8 s (by omega)]; rfl
                  obtain ⟨S2, hS2⟩ : ∃ S2, Hid (S2 = (⟨#[UInt8.ofNat (n / 256 ^ s)]⟩ : ByteArray)) := ⟨_, rfl⟩
                  have hS3 := hidW (cat_eq _ [UInt8.ofNat (n / 256 ^ s)] _ hS1 hS2.out hsn)
                  have hct := cat_sz _ [UInt8.ofNat (n / 256 ^ s)] hS1 hS2.out (by rw [List.length_cons, List.length_take, beN_length]; simp <;> omega)
                  rw [← hS2.out] at hcv2
                  have g0 : (0 : Int) ≤ (s : Int) := by omega
                  have HB : Hid (Below w.heap.size w (wr.alloc (.cells #[.int .u8 ((n : Int) / 2 ^ (8 * s) % 256)] 5))) := hbx.alloc hbx.size _
                  clear hbx hS1 hS2 hsn hz
                  go_wp2
                  go_roundg (s + 1)
                  case measure => omega
                  case rel => exact ⟨s, _, S1 ++ S2, by omega, rfl, rfl, rfl, rfl, HB.out, hS3.out⟩
end WI
end Go.Proofs.YtfkgfcggcfkkiaaDoor
namespace Go.Proofs.YtfkgfcggcfkkiaaDoor
open Go.RowKit Go.Sort Go.Deep
namespace WI
variable {T : World → Prop} {u : List UInt8 → Bool}
mutual
/-- Its shape, but for the order of keys. -/
def shv (u : List UInt8 → Bool) : Itm → Bool
  | .mk k n d l => own u k n d l.length && shvs u l
def shvs (u : List UInt8 → Bool) : List Itm → Bool
  | [] => true
  | i :: r => shv u i && shvs u r
end
theorem shvs_append (u : List UInt8 → Bool) : ∀ (l m : List Itm), shvs u (l ++ m) = (shvs u l && shvs u m)
  | [], m => by simp [shvs]
  | i :: r, m => by rw [List.cons_append, shvs, shvs, shvs_append u r m, Bool.and_assoc]
/-- What the reference's valid asks: of an item, of a list's items. -/
def vok (u : List UInt8 → Bool) (i : Itm) (dp left : Nat) : Prop := shv u i = true ∧ dp + dep i ≤ 17 ∧ cnt i ≤ left
def voks (u : List UInt8 → Bool) (l : List Itm) (dp left : Nat) : Prop := shvs u l = true ∧ (l ≠ [] → dp + deps l ≤ 17) ∧ cnts l ≤ left
theorem voks_snoc (u : List UInt8 → Bool) (l : List Itm) (i : Itm) (dp left : Nat) : voks u (l ++ [i]) dp left ↔ voks u l dp left ∧ vok u i dp (left - cnts l) := by
  unfold voks vok
  rw [shvs_append, cnts_append, deps_append]
  have := cnt_pos i
  simp only [shvs, cnts, deps, Bool.and_true, Bool.and_eq_true, ne_eq, List.append_eq_nil_iff, List.cons_ne_nil, and_false, not_false_eq_true, forall_const]
  constructor
  · rintro ⟨⟨h1, h2⟩, h3, h4⟩
    exact ⟨⟨h1, fun _ => by omega, by omega⟩, h2, by omega, by omega⟩
  · rintro ⟨⟨h1, h3, h4⟩, h2, h6, h7⟩
    refine ⟨⟨h1, h2⟩, ?_, by omega⟩
    cases l with
    | nil => rw [deps]; omega
    | cons a r => have := h3 (by simp); omega
theorem voks_app (u : List UInt8 → Bool) (l m : List Itm) (dp left : Nat) (h : voks u (l ++ m) dp left) : voks u l dp left := by
  unfold voks at h ⊢
  rw [shvs_append, cnts_append, deps_append] at h
  simp only [Bool.and_eq_true] at h
  obtain ⟨⟨h1, h2⟩, h3, h4⟩ := h
  refine ⟨h1, fun hl => ?_, by omega⟩
  have := h3 (by simp [hl])
  omega
theorem vok_mk (u : List UInt8 → Bool) (k : Int) (n : Nat) (d : List UInt8) (l : List Itm) (dp left : Nat) : vok u (.mk k n d l) dp left ↔ own u k n d l.length = true ∧ dp ≤ 16 ∧ 1 ≤ left ∧ voks u l (dp + 1) (left - 1) := by
  unfold vok voks
  rw [shv, dep, cnt, Bool.and_eq_true]
  constructor
  · rintro ⟨⟨h1, h2⟩, h3, h4⟩
    exact ⟨h1, by omega, by omega, h2, fun _ => by omega, by omega⟩
  · rintro ⟨h1, h2, h3, h4, h5, h6⟩
    refine ⟨⟨h1, h4⟩, ?_, by omega⟩
    cases l with
    | nil => rw [deps]; omega
    | cons a r => have := h5 (by simp); omega
/-- What valid answers. -/
def VaR (u : List UInt8 → Bool) (w : World) (i : Itm) (dp left : Nat) (e : Value) (w' : World) : Prop := Below w.heap.size w w' ∧ ((vok u i dp left ∧ e = .tuple #[.int .i64 (cnt i : Int), .bool true]) ∨ (¬ vok u i dp left ∧ e = .tuple #[.int .i64 0, .bool false]))
def VSp (T : World → Prop) (u : List UInt8 → Bool) (i : Itm) : Prop := ∀ (w : World) (qd : Option Addr) (dl cd : Nat) (ql : Option Addr) (m cl : Nat) (dp left : Nat), T w → InM w w.heap.size i (.slice qd dl cd) (.slice ql m cl) → dp ≤ 1000 → left ≤ 4096 → Calls Tryd.prog 30 #[itv i.k i.n qd dl cd ql m cl, .int .i64 (dp : Int), .int .i64 (left : Int)] w (RetW (VaR u w i dp left))
end WI
end Go.Proofs.YtfkgfcggcfkkiaaDoor
namespace Go.Proofs.YtfkgfcggcfkkiaaDoor
open Go.RowKit Go.Sort Go.Deep
namespace RX
open Go.Proofs.YtfkgfcggcfkkiaaDoor.RG
theorem gw_cnvX {P : Program} {ops : Array Oper} {Q : Exit → Act → World → Prop} {a0 : Act} {G : Gw} {k : Nat} {o : Oper} (T T' : TypeId) (t : Tmp) (ho : o.op = .convert T T' (.tmp t))
    (h : ∀ (a : Act) (w : World), PreG G ops a0 k o a w → ∃ v1 v, a.eval (.tmp t) = v1 ∧ (convert T T' v1).run P w = .ok v w ∧ G.R k v w) : CertF P Q G.flow ops a0 k o :=
  cf_val fun a w hp => by
    obtain ⟨v1, v, h1, h3, hR⟩ := h a w (pre_of hp)
    refine ⟨v, w, ?_, Below.refl _ _, hR⟩
    unfold execOp
    rw [ho]
    dsimp only
    rw [h1, Sem.run_bind, h3]
    rfl
end RX
namespace WI
variable {T : World → Prop} {u : List UInt8 → Bool}
mutual
/-- What the reference's write takes, of what is valid. -/
def wrb : Itm → Bool
  | .mk k n d l => if k = 4 ∨ k = 5 then wrbs l && (k != 5 || rise [] (byts l)) && decide ((byt (.mk k n d l)).length ≤ 65536) else if k = 2 ∨ k = 3 then decide ((byt (.mk k n d l)).length ≤ 65536) else true
def wrbs : List Itm → Bool
  | [] => true
  | i :: r => wrb i && wrbs r
end
theorem wrbs_append : ∀ (l m : List Itm), wrbs (l ++ m) = (wrbs l && wrbs m)
  | [], m => by simp [wrbs]
  | i :: r, m => by rw [List.cons_append, wrbs, wrbs, wrbs_append r m, Bool.and_assoc]
theorem wrb_len (i : Itm) (h : wrb i = true) : (byt i).length ≤ 65536 := by
  cases i with
  | mk k n d l =>
    rw [wrb] at h
    split at h
    · simp only [Bool.and_eq_true, decide_eq_true_eq] at h; exact h.2
    · split at h
      · simpa using h
      · rename_i h1 h2
        have := hd_le k.toNat n
        unfold byt
        rw [if_neg h2, if_neg (by omega), if_neg (by omega)]
        omega
mutual
theorem sv_iff (u : List UInt8 → Bool) : ∀ i : Itm, (shp u i = true ∧ (byt i).length ≤ 65536) ↔ (shv u i = true ∧ wrb i = true)
  | .mk k n d l => by
    by_cases hk : k = 4 ∨ k = 5
    · have hb : (byts l).flatten.length ≤ (byt (.mk k n d l)).length := by
        rcases hk with rfl | rfl <;> simp [byt]
      have hs := svs_iff u l
      rw [shp, shv, wrb, if_pos hk]
      simp only [Bool.and_eq_true, decide_eq_true_eq]
      constructor
      · rintro ⟨⟨⟨h1, h2⟩, h3⟩, h4⟩
        obtain ⟨h5, h6⟩ := (hs (by omega)).1 h3
        exact ⟨⟨h1, h5⟩, ⟨h6, h2⟩, h4⟩
      · rintro ⟨⟨h1, h5⟩, ⟨h6, h2⟩, h4⟩
        exact ⟨⟨⟨h1, h2⟩, (hs (by omega)).2 ⟨h5, h6⟩⟩, h4⟩
    · have hl : own u k n d l.length = true → l = [] := by
        intro h
        obtain rfl | rfl | rfl | rfl | rfl | rfl | rfl := own_kind u k n d l.length h <;> first | (exfalso; omega) | (simp [own] at h; simp_all)
      rw [shp, shv, wrb, if_neg hk]
      have h5 : (k != 5) = true := by simp; omega
      by_cases ho : own u k n d l.length = true
      · have := hl ho
        subst this
        rw [ho, h5, shps, shvs]
        by_cases h23 : k = 2 ∨ k = 3
        · rw [if_pos h23]; simp
        · rw [if_neg h23]
          have := hd_le k.toNat n
          have hb : (byt (.mk k n d [])).length ≤ 65536 := by
            unfold byt
            rw [if_neg h23, if_neg (by omega), if_neg (by omega)]
            omega
          simp [hb]
      · simp [ho]
theorem svs_iff (u : List UInt8 → Bool) : ∀ l : List Itm, (byts l).flatten.length ≤ 65536 → (shps u l = true ↔ (shvs u l = true ∧ wrbs l = true))
  | [], _ => by simp [shps, shvs, wrbs]
  | i :: r, h => by
    rw [byts, List.flatten_cons, List.length_append] at h
    have h1 := sv_iff u i
    have h2 := svs_iff u r (by omega)
    rw [shps, shvs, wrbs]
    simp only [Bool.and_eq_true]
    constructor
    · rintro ⟨h3, h4⟩
      obtain ⟨h5, h6⟩ := h1.1 ⟨h3, by omega⟩
      obtain ⟨h7, h8⟩ := h2.1 h4
      exact ⟨⟨h5, h7⟩, h6, h8⟩
    · rintro ⟨⟨h5, h7⟩, h6, h8⟩
      exact ⟨(h1.2 ⟨h5, h6⟩).1, h2.2 ⟨h7, h8⟩⟩
end
/-- What the program's Print takes is what the reference's takes. -/
theorem wok_iff (u : List UInt8 → Bool) (i : Itm) : wok u i 0 0 0 ↔ (vok u i 1 4096 ∧ wrb i = true) := by
  have := sv_iff u i
  unfold wok vok
  constructor
  · rintro ⟨h1, h2, h3, h4⟩
    obtain ⟨h5, h6⟩ := this.1 ⟨h1, by omega⟩
    exact ⟨⟨h5, by omega, by omega⟩, h6⟩
  · rintro ⟨⟨h5, h2, h3⟩, h6⟩
    obtain ⟨h7, h8⟩ := this.2 ⟨h5, h6⟩
    exact ⟨h7, by omega, by omega, by omega⟩
/-- What write answers. -/
def RwR (w : World) (i : Itm) (e : Value) (w' : World) : Prop := Below w.heap.size w w' ∧ ((wrb i = true ∧ e = .tuple #[.string ⟨(byt i).toArray⟩, .bool true]) ∨ (wrb i = false ∧ ∃ s, e = .tuple #[.string s, .bool false]))
def RwS (i : Itm) : Prop := ∀ (w : World) (qd : Option Addr) (dl cd : Nat) (ql : Option Addr) (m cl : Nat), InM w w.heap.size i (.slice qd dl cd) (.slice ql m cl) → Calls Tryd.prog 31 #[itv i.k i.n qd dl cd ql m cl] w (RetW (RwR w i))
set_option maxHeartbeats 1000000 in
set_option maxRecDepth 20000 in
theorem rw0 (n : Nat) (d : List UInt8) (l : List Itm) : RwS (.mk 0 n d l) := by
  intro w qd dl cd ql m cl hM
  rw [InM] at hM
  obtain ⟨hn64, hd62, hl60, hpd, q', c', hq', hin⟩ := hM
  show Calls Tryd.prog 31 #[itv 0 n qd dl cd ql m cl] w _
  unfold itv
  obtain ⟨rfl, hdc⟩ : dl = d.length ∧ d.length ≤ cd := by
    obtain ⟨qq, cc, e, hcc, -⟩ := hpd
    obtain ⟨rfl, rfl, rfl⟩ : qd = qq ∧ dl = d.length ∧ cd = cc := by simpa using e
    exact ⟨rfl, hcc⟩
  obtain ⟨rfl, rfl, rfl⟩ : ql = q' ∧ m = l.length ∧ cl = c' := by simpa using hq'
  obtain ⟨wb, hwb⟩ : ∃ wb, Hid (w.alloc (.cells #[.int .i64 0, .int .u64 (n : Int), .slice qd d.length cd, .slice ql l.length cl] 27) = wb) := ⟨_, rfl⟩
  have hb0 : Hid (Below w.heap.size w wb) := by rw [← hwb.out]; exact alloc_below _ _
  have bx : Hid (∀ w1, Below wb.heap.size wb w1 → w1.cell? ⟨w.heap.size, 0, none⟩ = some (.int .i64 0) ∧ w1.cell? ⟨w.heap.size, 1, none⟩ = some (.int .u64 (n : Int)) ∧ w1.cell? ⟨w.heap.size, 2, none⟩ = some (.slice qd d.length cd) ∧ w1.cell? ⟨w.heap.size, 3, none⟩ = some (.slice ql l.length cl) ∧ w.heap.size < w1.heap.size) := fun w1 hb => by
    have hz : ∀ j v, ([.int .i64 0, .int .u64 (n : Int), .slice qd d.length cd, .slice ql l.length cl] : List Value)[j]? = some v → w1.cell? ⟨w.heap.size, j, none⟩ = some v := fun j v hj => by
      have := al_c w #[.int .i64 0, .int .u64 (n : Int), .slice qd d.length cd, .slice ql l.length cl] 27 _ j v rfl (by simpa using hj)
      rw [hwb.out] at this
      rw [hb.cell (p := ⟨w.heap.size, j, none⟩) (World.block_lt_of_cell? _ _ this)]
      exact this
    exact ⟨hz 0 _ rfl, hz 1 _ rfl, hz 2 _ rfl, hz 3 _ rfl, World.block_lt_of_cell? _ _ (hz 0 _ rfl)⟩
  have hc : Calls Tryd.prog 47 #[.int .i64 0, .int .u64 (n : Int)] wb _ := rhead_c wb 0 n (by decide) hn64
  have hR : Hid (∀ w', Below wb.heap.size wb w' → RwR w (.mk 0 n d l) (.tuple #[.string ⟨(hd 0 n).toArray⟩, .bool true]) w') := fun w' hw' => ⟨hb0.out.trans (hw'.mono hb0.out.size), Or.inl ⟨by simp [wrb], by simp [byt]⟩⟩
  clear hpd hin hq'
  go_enter Tryd.func31, Tryd.ntmps31
  go_wp2_with fail
  rw [hwb.out]
  refine hc.mono ?_
  rintro e w1 ⟨v1, rfl, hb1, rfl⟩
  have HR := hidW (hR.out w1 hb1)
  obtain ⟨S, hS⟩ : ∃ S, Hid ((⟨(hd 0 n).toArray⟩ : ByteArray) = S) := ⟨_, rfl⟩
  rw [hS.out] at HR ⊢
  clear hb1 hc
  go_wp2
  go_ret2
  exact ⟨_, rfl, HR.out⟩
set_option maxHeartbeats 1000000 in
set_option maxRecDepth 20000 in
theorem rw1 (n : Nat) (d : List UInt8) (l : List Itm) : RwS (.mk 1 n d l) := by
  intro w qd dl cd ql m cl hM
  rw [InM] at hM
  obtain ⟨hn64, hd62, hl60, hpd, q', c', hq', hin⟩ := hM
  show Calls Tryd.prog 31 #[itv 1 n qd dl cd ql m cl] w _
  unfold itv
  obtain ⟨rfl, hdc⟩ : dl = d.length ∧ d.length ≤ cd := by
    obtain ⟨qq, cc, e, hcc, -⟩ := hpd
    obtain ⟨rfl, rfl, rfl⟩ : qd = qq ∧ dl = d.length ∧ cd = cc := by simpa using e
    exact ⟨rfl, hcc⟩
  obtain ⟨rfl, rfl, rfl⟩ : ql = q' ∧ m = l.length ∧ cl = c' := by simpa using hq'
  obtain ⟨wb, hwb⟩ : ∃ wb, Hid (w.alloc (.cells #[.int .i64 1, .int .u64 (n : Int), .slice qd d.length cd, .slice ql l.length cl] 27) = wb) := ⟨_, rfl⟩
  have hb0 : Hid (Below w.heap.size w wb) := by rw [← hwb.out]; exact alloc_below _ _
  have bx : Hid (∀ w1, Below wb.heap.size wb w1 → w1.cell? ⟨w.heap.size, 0, none⟩ = some (.int .i64 1) ∧ w1.cell? ⟨w.heap.size, 1, none⟩ = some (.int .u64 (n : Int)) ∧ w1.cell? ⟨w.heap.size, 2, none⟩ = some (.slice qd d.length cd) ∧ w1.cell? ⟨w.heap.size, 3, none⟩ = some (.slice ql l.length cl) ∧ w.heap.size < w1.heap.size) := fun w1 hb => by
    have hz : ∀ j v, ([.int .i64 1, .int .u64 (n : Int), .slice qd d.length cd, .slice ql l.length cl] : List Value)[j]? = some v → w1.cell? ⟨w.heap.size, j, none⟩ = some v := fun j v hj => by
      have := al_c w #[.int .i64 1, .int .u64 (n : Int), .slice qd d.length cd, .slice ql l.length cl] 27 _ j v rfl (by simpa using hj)
      rw [hwb.out] at this
      rw [hb.cell (p := ⟨w.heap.size, j, none⟩) (World.block_lt_of_cell? _ _ this)]
      exact this
    exact ⟨hz 0 _ rfl, hz 1 _ rfl, hz 2 _ rfl, hz 3 _ rfl, World.block_lt_of_cell? _ _ (hz 0 _ rfl)⟩
  have hc : Calls Tryd.prog 47 #[.int .i64 1, .int .u64 (n : Int)] wb _ := rhead_c wb 1 n (by decide) hn64
  have hR : Hid (∀ w', Below wb.heap.size wb w' → RwR w (.mk 1 n d l) (.tuple #[.string ⟨(hd 1 n).toArray⟩, .bool true]) w') := fun w' hw' => ⟨hb0.out.trans (hw'.mono hb0.out.size), Or.inl ⟨by simp [wrb], by simp [byt]⟩⟩
  clear hpd hin hq'
  go_enter Tryd.func31, Tryd.ntmps31
  go_wp2_with fail
  rw [hwb.out]
  refine hc.mono ?_
  rintro e w1 ⟨v1, rfl, hb1, rfl⟩
  have HR := hidW (hR.out w1 hb1)
  obtain ⟨S, hS⟩ : ∃ S, Hid ((⟨(hd 1 n).toArray⟩ : ByteArray) = S) := ⟨_, rfl⟩
  rw [hS.out] at HR ⊢
  clear hb1 hc
  go_wp2
  go_ret2
  exact ⟨_, rfl, HR.out⟩
set_option maxHeartbeats 1000000 in
set_option maxRecDepth 20000 in
theorem rw7 (n : Nat) (d : List UInt8) (l : List Itm) : RwS (.mk 7 n d l) := by
  intro w qd dl cd ql m cl hM
  rw [InM] at hM
  obtain ⟨hn64, hd62, hl60, hpd, q', c', hq', hin⟩ := hM
  show Calls Tryd.prog 31 #[itv 7 n qd dl cd ql m cl] w _
  unfold itv
  obtain ⟨rfl, hdc⟩ : dl = d.length ∧ d.length ≤ cd := by
    obtain ⟨qq, cc, e, hcc, -⟩ := hpd
    obtain ⟨rfl, rfl, rfl⟩ : qd = qq ∧ dl = d.length ∧ cd = cc := by simpa using e
    exact ⟨rfl, hcc⟩
  obtain ⟨rfl, rfl, rfl⟩ : ql = q' ∧ m = l.length ∧ cl = c' := by simpa using hq'
  obtain ⟨wb, hwb⟩ : ∃ wb, Hid (w.alloc (.cells #[.int .i64 7, .int .u64 (n : Int), .slice qd d.length cd, .slice ql l.length cl] 27) = wb) := ⟨_, rfl⟩
  have hb0 : Hid (Below w.heap.size w wb) := by rw [← hwb.out]; exact alloc_below _ _
  have bx : Hid (∀ w1, Below wb.heap.size wb w1 → w1.cell? ⟨w.heap.size, 0, none⟩ = some (.int .i64 7) ∧ w1.cell? ⟨w.heap.size, 1, none⟩ = some (.int .u64 (n : Int)) ∧ w1.cell? ⟨w.heap.size, 2, none⟩ = some (.slice qd d.length cd) ∧ w1.cell? ⟨w.heap.size, 3, none⟩ = some (.slice ql l.length cl) ∧ w.heap.size < w1.heap.size) := fun w1 hb => by
    have hz : ∀ j v, ([.int .i64 7, .int .u64 (n : Int), .slice qd d.length cd, .slice ql l.length cl] : List Value)[j]? = some v → w1.cell? ⟨w.heap.size, j, none⟩ = some v := fun j v hj => by
      have := al_c w #[.int .i64 7, .int .u64 (n : Int), .slice qd d.length cd, .slice ql l.length cl] 27 _ j v rfl (by simpa using hj)
      rw [hwb.out] at this
      rw [hb.cell (p := ⟨w.heap.size, j, none⟩) (World.block_lt_of_cell? _ _ this)]
      exact this
    exact ⟨hz 0 _ rfl, hz 1 _ rfl, hz 2 _ rfl, hz 3 _ rfl, World.block_lt_of_cell? _ _ (hz 0 _ rfl)⟩
  have hc : Calls Tryd.prog 47 #[.int .i64 7, .int .u64 (n : Int)] wb _ := rhead_c wb 7 n (by decide) hn64
  have hR : Hid (∀ w', Below wb.heap.size wb w' → RwR w (.mk 7 n d l) (.tuple #[.string ⟨(hd 7 n).toArray⟩, .bool true]) w') := fun w' hw' => ⟨hb0.out.trans (hw'.mono hb0.out.size), Or.inl ⟨by simp [wrb], by simp [byt]⟩⟩
  clear hpd hin hq'
  go_enter Tryd.func31, Tryd.ntmps31
  go_wp2_with fail
  rw [hwb.out]
  refine hc.mono ?_
  rintro e w1 ⟨v1, rfl, hb1, rfl⟩
  have HR := hidW (hR.out w1 hb1)
  obtain ⟨S, hS⟩ : ∃ S, Hid ((⟨(hd 7 n).toArray⟩ : ByteArray) = S) := ⟨_, rfl⟩
  rw [hS.out] at HR ⊢
  clear hb1 hc
  go_wp2
  go_ret2
  exact ⟨_, rfl, HR.out⟩
end WI
end Go.Proofs.YtfkgfcggcfkkiaaDoor
namespace Go.Proofs.YtfkgfcggcfkkiaaDoor
open Go.RowKit Go.Sort Go.Deep
namespace WI
variable {T : World → Prop} {u : List UInt8 → Bool}
/-- The values of region 4. -/
def G4 (ib : Nat) (k : Int) (sl : Value) (dl : Nat) (H D S : ByteArray) (w3 : World) : RX.Gw where
  R i v _ := v = ([.pointer (some ⟨ib, 0, none⟩), .int .i64 k, .pointer (some ⟨ib, 2, none⟩), sl, .int .i64 (dl : Int), .int .u64 (dl : Int), .string H, .pointer (some ⟨ib, 2, none⟩), sl, .string D, .string S, .string S] : List Value).getD i undef
  B w := Below w3.heap.size w3 w
  sR i v w w' hb h := h
  sB w w' hb h := h.trans (hb.mono h.size)
set_option maxHeartbeats 1000000 in
set_option maxRecDepth 20000 in
theorem rw2 (n : Nat) (d : List UInt8) (l : List Itm) : RwS (.mk 2 n d l) := by
  intro w qd dl cd ql m cl hM
  rw [InM] at hM
  obtain ⟨hn64, hd62, hl60, hpd, q', c', hq', hin⟩ := hM
  show Calls Tryd.prog 31 #[itv 2 n qd dl cd ql m cl] w _
  unfold itv
  obtain ⟨rfl, hdc⟩ : dl = d.length ∧ d.length ≤ cd := by
    obtain ⟨qq, cc, e, hcc, -⟩ := hpd
    obtain ⟨rfl, rfl, rfl⟩ : qd = qq ∧ dl = d.length ∧ cd = cc := by simpa using e
    exact ⟨rfl, hcc⟩
  obtain ⟨rfl, rfl, rfl⟩ : ql = q' ∧ m = l.length ∧ cl = c' := by simpa using hq'
  obtain ⟨wb, hwb⟩ : ∃ wb, Hid (w.alloc (.cells #[.int .i64 2, .int .u64 (n : Int), .slice qd d.length cd, .slice ql l.length cl] 27) = wb) := ⟨_, rfl⟩
  have hb0 : Hid (Below w.heap.size w wb) := by rw [← hwb.out]; exact alloc_below _ _
  have bx : Hid (∀ w1, Below wb.heap.size wb w1 → w1.cell? ⟨w.heap.size, 0, none⟩ = some (.int .i64 2) ∧ w1.cell? ⟨w.heap.size, 1, none⟩ = some (.int .u64 (n : Int)) ∧ w1.cell? ⟨w.heap.size, 2, none⟩ = some (.slice qd d.length cd) ∧ w1.cell? ⟨w.heap.size, 3, none⟩ = some (.slice ql l.length cl) ∧ w.heap.size < w1.heap.size) := fun w1 hb => by
    have hz : ∀ j v, ([.int .i64 2, .int .u64 (n : Int), .slice qd d.length cd, .slice ql l.length cl] : List Value)[j]? = some v → w1.cell? ⟨w.heap.size, j, none⟩ = some v := fun j v hj => by
      have := al_c w #[.int .i64 2, .int .u64 (n : Int), .slice qd d.length cd, .slice ql l.length cl] 27 _ j v rfl (by simpa using hj)
      rw [hwb.out] at this
      rw [hb.cell (p := ⟨w.heap.size, j, none⟩) (World.block_lt_of_cell? _ _ this)]
      exact this
    exact ⟨hz 0 _ rfl, hz 1 _ rfl, hz 2 _ rfl, hz 3 _ rfl, World.block_lt_of_cell? _ _ (hz 0 _ rfl)⟩
  have hcH : Hid (∀ X, Calls Tryd.prog 47 #[.int .i64 2, .int .u64 (d.length : Int)] X (Ret fun e w' => Below X.heap.size X w' ∧ e = .string ⟨(hd 2 d.length).toArray⟩)) := fun X => by
    refine (show Calls Tryd.prog 47 #[.int .i64 2, .int .u64 (d.length : Int)] X _ from rhead_c X 2 d.length (by decide) (by omega)).mono ?_
    rintro e w' ⟨v, rfl, h1, h2⟩
    exact ⟨_, rfl, h1, h2⟩
  have hP : Hid (∀ X, Below wb.heap.size wb X → (convert 22 9 (.slice qd d.length cd)).run Tryd.prog X = .ok (.string ⟨d.toArray⟩) X) := fun X hX => pb_conv ((hpd.pb.below hb0.out).below hX)
  have hA : Hid (∀ X : World, (binOp .add 9 (.string ⟨(hd 2 d.length).toArray⟩) (.string ⟨d.toArray⟩)).run Tryd.prog X = .ok (.string ⟨(hd 2 d.length ++ d).toArray⟩) X) := fun X => strcat _ _ (by have := hd_le 2 d.length; omega) X
  have hby : byt (.mk 2 n d l) = hd 2 d.length ++ d := by simp [byt]
  have hR : Hid (∀ w', Below wb.heap.size wb w' → RwR w (.mk 2 n d l) (.tuple #[.string ⟨(hd 2 d.length ++ d).toArray⟩, .bool (decide ((hd 2 d.length ++ d).length ≤ 65536))]) w') := fun w' hw' => by
    refine ⟨hb0.out.trans (hw'.mono hb0.out.size), ?_⟩
    by_cases h : (hd 2 d.length ++ d).length ≤ 65536
    · rw [decide_eq_true h]
      exact Or.inl ⟨by simp only [wrb]; rw [hby]; simpa using h, by rw [hby]⟩
    · rw [decide_eq_false h]
      exact Or.inr ⟨by simp only [wrb]; rw [hby]; simpa using h, _, rfl⟩
  obtain ⟨H, hH⟩ : ∃ S, Hid ((⟨(hd 2 d.length).toArray⟩ : ByteArray) = S) := ⟨_, rfl⟩
  obtain ⟨D, hD⟩ : ∃ S, Hid ((⟨d.toArray⟩ : ByteArray) = S) := ⟨_, rfl⟩
  obtain ⟨S, hS⟩ : ∃ S, Hid ((⟨(hd 2 d.length ++ d).toArray⟩ : ByteArray) = S) := ⟨_, rfl⟩
  have hSs : Hid (S.size = (hd 2 d.length ++ d).length) := by show _ = _; rw [← hS.out]; simp [ByteArray.size]
  rw [hH.out] at hcH hA
  rw [hD.out] at hP hA
  rw [hS.out] at hA hR
  rw [← hSs.out] at hR
  obtain ⟨dl, hdl⟩ : ∃ dl, Hid (d.length = dl) := ⟨_, rfl⟩
  rw [hdl.out] at hcH hP bx hwb ⊢
  have hw5 : ∀ X : World, (convert 3 24 (.int .i64 (dl : Int))).run Tryd.prog X = .ok (.int .u64 (dl : Int)) X := fun X => by
    have : IntKind.u64.wrap (dl : Int) = (dl : Int) := by rw [IntKind.wrap_u64]; have := hdl.out; omega
    go_simp
    try rw [this]
  clear hpd hin hq' hby hd62 hdc hl60
  go_enter Tryd.func31, Tryd.ntmps31
  go_upto_region 4 with fail
  rw [hwb.out]
  refine RX.Gw.draws (G4 w.heap.size 2 (.slice qd dl cd) dl H D S wb) (by kernel_rfl) (by kernel_rfl) ?_ (Below.refl _ wb).drew ?_
  · exact ⟨RX.gw_val fun a X hp => ⟨[(1, .pointer (some ⟨w.heap.size, 0, none⟩))], .pointer (some ⟨w.heap.size, 0, none⟩), X, ⟨hp.o 1 (by kernel_rfl), trivial⟩, by kernel_rfl, Below.refl _ _, rfl⟩,
      RX.cf_ld1T 3 29 rfl (by kernel_rfl) fun a X hp => ⟨⟨w.heap.size, 0, none⟩, .int .i64 2, hp.n 0 29 (by kernel_rfl) (by kernel_rfl) (by kernel_rfl), (bx.out X (hp.b 0 (by kernel_rfl))).1, Below.refl _ _, rfl⟩,
      RX.gw_val fun a X hp => ⟨[(1, .pointer (some ⟨w.heap.size, 0, none⟩))], .pointer (some ⟨w.heap.size, 2, none⟩), X, ⟨hp.o 1 (by kernel_rfl), trivial⟩, by kernel_rfl, Below.refl _ _, rfl⟩,
      RX.cf_ld1T 22 31 rfl (by kernel_rfl) fun a X hp => ⟨⟨w.heap.size, 2, none⟩, .slice qd dl cd, hp.n 2 31 (by kernel_rfl) (by kernel_rfl) (by kernel_rfl), (bx.out X (hp.b 0 (by kernel_rfl))).2.2.1, Below.refl _ _, rfl⟩,
      RX.gw_val fun a X hp => ⟨[(32, .slice qd dl cd)], .int .i64 (dl : Int), X, ⟨hp.n 3 32 (by kernel_rfl) (by kernel_rfl), trivial⟩, by kernel_rfl, Below.refl _ _, rfl⟩,
      RX.gw_cnvX 3 24 33 rfl fun a X hp => ⟨_, _, hp.n 4 33 (by kernel_rfl) (by kernel_rfl), hw5 X, rfl⟩,
      RX.gw_call fun a X hp => ⟨[(30, .int .i64 2), (34, .int .u64 (dl : Int))], 47, #[.int .i64 2, .int .u64 (dl : Int)], ⟨hp.n 1 30 (by kernel_rfl) (by kernel_rfl), hp.n 5 34 (by kernel_rfl) (by kernel_rfl), trivial⟩, by kernel_rfl, hcH.out X⟩,
      RX.gw_val fun a X hp => ⟨[(1, .pointer (some ⟨w.heap.size, 0, none⟩))], .pointer (some ⟨w.heap.size, 2, none⟩), X, ⟨hp.o 1 (by kernel_rfl), trivial⟩, by kernel_rfl, Below.refl _ _, rfl⟩,
      RX.cf_ld1T 22 36 rfl (by kernel_rfl) fun a X hp => ⟨⟨w.heap.size, 2, none⟩, .slice qd dl cd, hp.n 7 36 (by kernel_rfl) (by kernel_rfl) (by kernel_rfl), (bx.out X (hp.b 0 (by kernel_rfl))).2.2.1, Below.refl _ _, rfl⟩,
      RX.gw_cnvX 22 9 37 rfl fun a X hp => ⟨_, _, hp.n 8 37 (by kernel_rfl) (by kernel_rfl), hP.out X hp.b, rfl⟩,
      RX.gw_bin .add 9 9 35 38 rfl fun a X hp => ⟨_, _, _, hp.n 6 35 (by kernel_rfl) (by kernel_rfl), hp.n 9 38 (by kernel_rfl) (by kernel_rfl), by kernel_rfl, hA.out X, rfl⟩,
      RX.gw_val fun a X hp => ⟨[(39, .string S)], .string S, X, ⟨hp.n 10 39 (by kernel_rfl) (by kernel_rfl), trivial⟩, by kernel_rfl, Below.refl _ _, rfl⟩,
      trivial⟩
  · intro V w5 hV hB
    have h11 : V 11 = .string S := hV 11 (Nat.lt_of_succ_le (Nat.le_of_ble_eq_true (by kernel_rfl)))
    have KB : Hid (Below wb.heap.size wb w5) := hB
    dsimp only [RX.putV, Nat.reduceAdd]
    simp only [Act.put, List.setIfInBounds_toArray, List.set_cons_succ, List.set_cons_zero]
    rw [h11]
    clear hV hB h11
    have HR := hidW (hR.out w5 KB.out)
    by_cases g : S.size ≤ 65536
    · rw [decide_eq_true g] at HR
      have gz : (S.size : Int) ≤ 65536 := by omega
      go_wp2
      go_ret2
      exact ⟨_, rfl, HR.out⟩
    · rw [decide_eq_false g] at HR
      have gz : ¬ (S.size : Int) ≤ 65536 := by omega
      go_wp2
      go_ret2
      exact ⟨_, rfl, HR.out⟩
set_option maxHeartbeats 1000000 in
set_option maxRecDepth 20000 in
theorem rw3 (n : Nat) (d : List UInt8) (l : List Itm) : RwS (.mk 3 n d l) := by
  intro w qd dl cd ql m cl hM
  rw [InM] at hM
  obtain ⟨hn64, hd62, hl60, hpd, q', c', hq', hin⟩ := hM
  show Calls Tryd.prog 31 #[itv 3 n qd dl cd ql m cl] w _
  unfold itv
  obtain ⟨rfl, hdc⟩ : dl = d.length ∧ d.length ≤ cd := by
    obtain ⟨qq, cc, e, hcc, -⟩ := hpd
    obtain ⟨rfl, rfl, rfl⟩ : qd = qq ∧ dl = d.length ∧ cd = cc := by simpa using e
    exact ⟨rfl, hcc⟩
  obtain ⟨rfl, rfl, rfl⟩ : ql = q' ∧ m = l.length ∧ cl = c' := by simpa using hq'
  obtain ⟨wb, hwb⟩ : ∃ wb, Hid (w.alloc (.cells #[.int .i64 3, .int .u64 (n : Int), .slice qd d.length cd, .slice ql l.length cl] 27) = wb) := ⟨_, rfl⟩
  have hb0 : Hid (Below w.heap.size w wb) := by rw [← hwb.out]; exact alloc_below _ _
  have bx : Hid (∀ w1, Below wb.heap.size wb w1 → w1.cell? ⟨w.heap.size, 0, none⟩ = some (.int .i64 3) ∧ w1.cell? ⟨w.heap.size, 1, none⟩ = some (.int .u64 (n : Int)) ∧ w1.cell? ⟨w.heap.size, 2, none⟩ = some (.slice qd d.length cd) ∧ w1.cell? ⟨w.heap.size, 3, none⟩ = some (.slice ql l.length cl) ∧ w.heap.size < w1.heap.size) := fun w1 hb => by
    have hz : ∀ j v, ([.int .i64 3, .int .u64 (n : Int), .slice qd d.length cd, .slice ql l.length cl] : List Value)[j]? = some v → w1.cell? ⟨w.heap.size, j, none⟩ = some v := fun j v hj => by
      have := al_c w #[.int .i64 3, .int .u64 (n : Int), .slice qd d.length cd, .slice ql l.length cl] 27 _ j v rfl (by simpa using hj)
      rw [hwb.out] at this
      rw [hb.cell (p := ⟨w.heap.size, j, none⟩) (World.block_lt_of_cell? _ _ this)]
      exact this
    exact ⟨hz 0 _ rfl, hz 1 _ rfl, hz 2 _ rfl, hz 3 _ rfl, World.block_lt_of_cell? _ _ (hz 0 _ rfl)⟩
  have hcH : Hid (∀ X, Calls Tryd.prog 47 #[.int .i64 3, .int .u64 (d.length : Int)] X (Ret fun e w' => Below X.heap.size X w' ∧ e = .string ⟨(hd 3 d.length).toArray⟩)) := fun X => by
    refine (show Calls Tryd.prog 47 #[.int .i64 3, .int .u64 (d.length : Int)] X _ from rhead_c X 3 d.length (by decide) (by omega)).mono ?_
    rintro e w' ⟨v, rfl, h1, h2⟩
    exact ⟨_, rfl, h1, h2⟩
  have hP : Hid (∀ X, Below wb.heap.size wb X → (convert 22 9 (.slice qd d.length cd)).run Tryd.prog X = .ok (.string ⟨d.toArray⟩) X) := fun X hX => pb_conv ((hpd.pb.below hb0.out).below hX)
  have hA : Hid (∀ X : World, (binOp .add 9 (.string ⟨(hd 3 d.length).toArray⟩) (.string ⟨d.toArray⟩)).run Tryd.prog X = .ok (.string ⟨(hd 3 d.length ++ d).toArray⟩) X) := fun X => strcat _ _ (by have := hd_le 3 d.length; omega) X
  have hby : byt (.mk 3 n d l) = hd 3 d.length ++ d := by simp [byt]
  have hR : Hid (∀ w', Below wb.heap.size wb w' → RwR w (.mk 3 n d l) (.tuple #[.string ⟨(hd 3 d.length ++ d).toArray⟩, .bool (decide ((hd 3 d.length ++ d).length ≤ 65536))]) w') := fun w' hw' => by
    refine ⟨hb0.out.trans (hw'.mono hb0.out.size), ?_⟩
    by_cases h : (hd 3 d.length ++ d).length ≤ 65536
    · rw [decide_eq_true h]
      exact Or.inl ⟨by simp only [wrb]; rw [hby]; simpa using h, by rw [hby]⟩
    · rw [decide_eq_false h]
      exact Or.inr ⟨by simp only [wrb]; rw [hby]; simpa using h, _, rfl⟩
  obtain ⟨H, hH⟩ : ∃ S, Hid ((⟨(hd 3 d.length).toArray⟩ : ByteArray) = S) := ⟨_, rfl⟩
  obtain ⟨D, hD⟩ : ∃ S, Hid ((⟨d.toArray⟩ : ByteArray) = S) := ⟨_, rfl⟩
  obtain ⟨S, hS⟩ : ∃ S, Hid ((⟨(hd 3 d.length ++ d).toArray⟩ : ByteArray) = S) := ⟨_, rfl⟩
  have hSs : Hid (S.size = (hd 3 d.length ++ d).length) := by show _ = _; rw [← hS.out]; simp [ByteArray.size]
  rw [hH.out] at hcH hA
  rw [hD.out] at hP hA
  rw [hS.out] at hA hR
  rw [← hSs.out] at hR
  obtain ⟨dl, hdl⟩ : ∃ dl, Hid (d.length = dl) := ⟨_, rfl⟩
  rw [hdl.out] at hcH hP bx hwb ⊢
  have hw5 : ∀ X : World, (convert 3 24 (.int .i64 (dl : Int))).run Tryd.prog X = .ok (.int .u64 (dl : Int)) X := fun X => by
    have : IntKind.u64.wrap (dl : Int) = (dl : Int) := by rw [IntKind.wrap_u64]; have := hdl.out; omega
    go_simp
    try rw [this]
  clear hpd hin hq' hby hd62 hdc hl60
  go_enter Tryd.func31, Tryd.ntmps31
  go_upto_region 4 with fail
  rw [hwb.out]
  refine RX.Gw.draws (G4 w.heap.size 3 (.slice qd dl cd) dl H D S wb) (by kernel_rfl) (by kernel_rfl) ?_ (Below.refl _ wb).drew ?_
  · exact ⟨RX.gw_val fun a X hp => ⟨[(1, .pointer (some ⟨w.heap.size, 0, none⟩))], .pointer (some ⟨w.heap.size, 0, none⟩), X, ⟨hp.o 1 (by kernel_rfl), trivial⟩, by kernel_rfl, Below.refl _ _, rfl⟩,
      RX.cf_ld1T 3 29 rfl (by kernel_rfl) fun a X hp => ⟨⟨w.heap.size, 0, none⟩, .int .i64 3, hp.n 0 29 (by kernel_rfl) (by kernel_rfl) (by kernel_rfl), (bx.out X (hp.b 0 (by kernel_rfl))).1, Below.refl _ _, rfl⟩,
      RX.gw_val fun a X hp => ⟨[(1, .pointer (some ⟨w.heap.size, 0, none⟩))], .pointer (some ⟨w.heap.size, 2, none⟩), X, ⟨hp.o 1 (by kernel_rfl), trivial⟩, by kernel_rfl, Below.refl _ _, rfl⟩,
      RX.cf_ld1T 22 31 rfl (by kernel_rfl) fun a X hp => ⟨⟨w.heap.size, 2, none⟩, .slice qd dl cd, hp.n 2 31 (by kernel_rfl) (by kernel_rfl) (by kernel_rfl), (bx.out X (hp.b 0 (by kernel_rfl))).2.2.1, Below.refl _ _, rfl⟩,
      RX.gw_val fun a X hp => ⟨[(32, .slice qd dl cd)], .int .i64 (dl : Int), X, ⟨hp.n 3 32 (by kernel_rfl) (by kernel_rfl), trivial⟩, by kernel_rfl, Below.refl _ _, rfl⟩,
      RX.gw_cnvX 3 24 33 rfl fun a X hp => ⟨_, _, hp.n 4 33 (by kernel_rfl) (by kernel_rfl), hw5 X, rfl⟩,
      RX.gw_call fun a X hp => ⟨[(30, .int .i64 3), (34, .int .u64 (dl : Int))], 47, #[.int .i64 3, .int .u64 (dl : Int)], ⟨hp.n 1 30 (by kernel_rfl) (by kernel_rfl), hp.n 5 34 (by kernel_rfl) (by kernel_rfl), trivial⟩, by kernel_rfl, hcH.out X⟩,
      RX.gw_val fun a X hp => ⟨[(1, .pointer (some ⟨w.heap.size, 0, none⟩))], .pointer (some ⟨w.heap.size, 2, none⟩), X, ⟨hp.o 1 (by kernel_rfl), trivial⟩, by kernel_rfl, Below.refl _ _, rfl⟩,
      RX.cf_ld1T 22 36 rfl (by kernel_rfl) fun a X hp => ⟨⟨w.heap.size, 2, none⟩, .slice qd dl cd, hp.n 7 36 (by kernel_rfl) (by kernel_rfl) (by kernel_rfl), (bx.out X (hp.b 0 (by kernel_rfl))).2.2.1, Below.refl _ _, rfl⟩,
      RX.gw_cnvX 22 9 37 rfl fun a X hp => ⟨_, _, hp.n 8 37 (by kernel_rfl) (by kernel_rfl), hP.out X hp.b, rfl⟩,
      RX.gw_bin .add 9 9 35 38 rfl fun a X hp => ⟨_, _, _, hp.n 6 35 (by kernel_rfl) (by kernel_rfl), hp.n 9 38 (by kernel_rfl) (by kernel_rfl), by kernel_rfl, hA.out X, rfl⟩,
      RX.gw_val fun a X hp => ⟨[(39, .string S)], .string S, X, ⟨hp.n 10 39 (by kernel_rfl) (by kernel_rfl), trivial⟩, by kernel_rfl, Below.refl _ _, rfl⟩,
      trivial⟩
  · intro V w5 hV hB
    have h11 : V 11 = .string S := hV 11 (Nat.lt_of_succ_le (Nat.le_of_ble_eq_true (by kernel_rfl)))
    have KB : Hid (Below wb.heap.size wb w5) := hB
    dsimp only [RX.putV, Nat.reduceAdd]
    simp only [Act.put, List.setIfInBounds_toArray, List.set_cons_succ, List.set_cons_zero]
    rw [h11]
    clear hV hB h11
    have HR := hidW (hR.out w5 KB.out)
    by_cases g : S.size ≤ 65536
    · rw [decide_eq_true g] at HR
      have gz : (S.size : Int) ≤ 65536 := by omega
      go_wp2
      go_ret2
      exact ⟨_, rfl, HR.out⟩
    · rw [decide_eq_false g] at HR
      have gz : ¬ (S.size : Int) ≤ 65536 := by omega
      go_wp2
      go_ret2
      exact ⟨_, rfl, HR.out⟩
end WI
end Go.Proofs.YtfkgfcggcfkkiaaDoor
namespace Go.Proofs.YtfkgfcggcfkkiaaDoor
open Go.RowKit Go.Sort Go.Deep
namespace WI
variable {T : World → Prop} {u : List UInt8 → Bool}
/-- The last key, of any number of places. -/
def lke : List UInt8 → List (List UInt8) → List UInt8
  | _, k :: _ :: r => lke k r
  | _, [k] => k
  | a, [] => a
theorem lke_snoc (x : List UInt8) : ∀ (L : List (List UInt8)) (a : List UInt8), lke a (L ++ [x]) = (if L.length % 2 = 0 then x else lke a L) ∧ rise a (L ++ [x]) = (rise a L && (if L.length % 2 = 0 then ltB (lke a L) x else true))
  | [], a => by simp [lke, rise]
  | [y], a => by simp [lke, rise]
  | y :: z :: r, a => by
    have ih := lke_snoc x r y
    have e : (y :: z :: r).length % 2 = r.length % 2 := by simp only [List.length_cons]; omega
    rw [List.cons_append, List.cons_append, lke, lke, rise, rise, ih.1, ih.2, e, Bool.and_assoc]
    exact ⟨rfl, rfl⟩
theorem rise_pre (m : List (List UInt8)) : ∀ (L : List (List UInt8)) (a : List UInt8), rise a (L ++ m) = true → rise a L = true
  | [], a, _ => by simp [rise]
  | [y], a, h => by
    cases m with
    | nil => simpa using h
    | cons z r =>
      rw [List.cons_append, List.nil_append, rise, Bool.and_eq_true] at h
      rw [rise]; exact h.1
  | y :: z :: r, a, h => by
    rw [List.cons_append, List.cons_append, rise, Bool.and_eq_true] at h
    rw [rise, Bool.and_eq_true]
    exact ⟨h.1, rise_pre m r y h.2⟩
theorem leB : ∀ x y : List UInt8, (Op.bytesLess x y || x == y) = !ltB y x
  | [], [] => by simp [Op.bytesLess, ltB]
  | [], _ :: _ => by simp [Op.bytesLess, ltB]
  | _ :: _, [] => by simp [Op.bytesLess, ltB]
  | a :: x, b :: y => by
    have ih := leB x y
    unfold Op.bytesLess ltB
    by_cases h1 : a < b
    · have h2 : ¬ b < a := by rw [UInt8.lt_iff_toNat_lt] at h1 ⊢; omega
      have h3 : ¬ b = a := by rintro rfl; exact h2 h1
      simp [h1, h2, h3]
    · by_cases h3 : a = b
      · subst h3
        simp only [h1, decide_false, Bool.false_or, beq_self_eq_true, Bool.true_and, if_false, if_true, List.cons_beq_cons]
        exact ih
      · have h2 : b < a := by
          have : a.toNat ≠ b.toNat := fun e => h3 (UInt8.toNat_inj.1 e)
          rw [UInt8.lt_iff_toNat_lt] at h1 ⊢
          omega
        simp [h1, h2, h3]
/-- What write's loop keeps. -/
structure RLo (k : Int) (wb : World) (l : List Itm) (H : List UInt8) (j : Nat) (w' : World) : Prop where
  hj : j ≤ l.length
  bl : Below wb.heap.size wb w'
  ok : wrbs (l.take j) = true
  ri : k = 5 → rise [] (byts (l.take j)) = true
  ln : H.length + (byts (l.take j)).flatten.length ≤ 65536
theorem RLo.next {k : Int} {wb w1 w2 : World} {l : List Itm} {H : List UInt8} {j : Nat} {i : Itm} (L : RLo k wb l H j w1) (hi : l[j]? = some i) (hb : Below w1.heap.size w1 w2) (hv : wrb i = true) (hr : k = 5 → j % 2 = 0 → ltB (lke [] (byts (l.take j))) (byt i) = true) (hn : (H ++ (byts (l.take j)).flatten).length + (byt i).length ≤ 65536) : RLo k wb l H (j + 1) w2 ∧ H ++ (byts (l.take j)).flatten ++ byt i = H ++ (byts (l.take (j + 1))).flatten := by
  have hj1 := (List.getElem?_eq_some_iff.1 hi).1
  have e := take_s l j i hi
  have hl : (byts (l.take j)).length = j := by rw [byts_length, List.length_take]; omega
  have eb : byts (l.take (j + 1)) = byts (l.take j) ++ [byt i] := by rw [e, byts_append]; rfl
  refine ⟨⟨by omega, L.bl.trans (hb.mono L.bl.size), ?_, fun h5 => ?_, ?_⟩, ?_⟩
  · rw [e, wrbs_append, L.ok]; simp [wrbs, hv]
  · rw [eb, (lke_snoc _ _ _).2, L.ri h5, hl]
    by_cases h2 : j % 2 = 0
    · rw [if_pos h2, hr h5 h2]; rfl
    · rw [if_neg h2]; rfl
  · rw [eb, flat_snoc]; simp only [List.length_append] at hn ⊢; omega
  · rw [eb, flat_snoc, List.append_assoc]
theorem RLo.bad {k : Int} {wb w1 : World} {l : List Itm} {H : List UInt8} {j : Nat} {i : Itm} (hk : k = 4 ∨ k = 5) (n : Nat) (d : List UInt8) (hH : byt (.mk k n d l) = H ++ (byts l).flatten) (L : RLo k wb l H j w1) (hi : l[j]? = some i) (h : wrb i = false ∨ 65536 < (H ++ (byts (l.take j)).flatten).length + (byt i).length ∨ (k = 5 ∧ j % 2 = 0 ∧ ltB (lke [] (byts (l.take j))) (byt i) = false)) : wrb (.mk k n d l) = false := by
  have hj1 := (List.getElem?_eq_some_iff.1 hi).1
  have e := take_s l j i hi
  have el : l.take j ++ ([i] ++ l.drop (j + 1)) = l := by rw [← List.append_assoc, ← e, List.take_append_drop]
  rw [wrb, if_pos hk, hH]
  rcases h with h | h | ⟨h5, h2, h⟩
  · have : wrbs l = false := by rw [← el, wrbs_append, wrbs_append]; simp [wrbs, h]
    rw [this]; rfl
  · have : ¬ (H ++ (byts l).flatten).length ≤ 65536 := by
      have eb : byts l = byts (l.take j) ++ ([byt i] ++ byts (l.drop (j + 1))) := by
        have e2 := congrArg byts el
        rw [byts_append, byts_append] at e2
        exact e2.symm
      rw [eb]
      simp only [List.length_append, List.flatten_append, List.flatten_cons, List.flatten_nil, List.append_nil] at h ⊢
      omega
    rw [decide_eq_false this, Bool.and_false]
  · have : rise [] (byts l) = false := by
      have eb : byts l = (byts (l.take j) ++ [byt i]) ++ byts (l.drop (j + 1)) := by
        have e2 := congrArg byts el
        rw [byts_append, byts_append, ← List.append_assoc] at e2
        exact e2.symm
      have hl : (byts (l.take j)).length = j := by rw [byts_length, List.length_take]; omega
      cases hr : rise [] (byts l) with
      | false => rfl
      | true =>
        rw [eb] at hr
        have := rise_pre _ _ _ hr
        rw [(lke_snoc _ _ _).2, hl, if_pos h2, h, Bool.and_false] at this
        exact absurd this (by decide)
    rw [this, h5]; simp
set_option maxHeartbeats 1000000 in
set_option maxRecDepth 20000 in
theorem rw4 (n : Nat) (d : List UInt8) (l : List Itm) (hI : ∀ i ∈ l, RwS i) : RwS (.mk 4 n d l) := by
  intro w qd dl cd ql m cl hM
  rw [InM] at hM
  obtain ⟨hn64, hd62, hl60, hpd, q', c', hq', hin⟩ := hM
  show Calls Tryd.prog 31 #[itv 4 n qd dl cd ql m cl] w _
  unfold itv
  obtain ⟨rfl, hdc⟩ : dl = d.length ∧ d.length ≤ cd := by
    obtain ⟨qq, cc, e, hcc, -⟩ := hpd
    obtain ⟨rfl, rfl, rfl⟩ : qd = qq ∧ dl = d.length ∧ cd = cc := by simpa using e
    exact ⟨rfl, hcc⟩
  obtain ⟨rfl, rfl, rfl⟩ : ql = q' ∧ m = l.length ∧ cl = c' := by simpa using hq'
  obtain ⟨wb, hwb⟩ : ∃ wb, Hid (w.alloc (.cells #[.int .i64 4, .int .u64 (n : Int), .slice qd d.length cd, .slice ql l.length cl] 27) = wb) := ⟨_, rfl⟩
  have hb0 : Hid (Below w.heap.size w wb) := by rw [← hwb.out]; exact alloc_below _ _
  have bx : Hid (∀ w1, Below wb.heap.size wb w1 → w1.cell? ⟨w.heap.size, 0, none⟩ = some (.int .i64 4) ∧ w1.cell? ⟨w.heap.size, 1, none⟩ = some (.int .u64 (n : Int)) ∧ w1.cell? ⟨w.heap.size, 2, none⟩ = some (.slice qd d.length cd) ∧ w1.cell? ⟨w.heap.size, 3, none⟩ = some (.slice ql l.length cl) ∧ w.heap.size < w1.heap.size) := fun w1 hb => by
    have hz : ∀ j v, ([.int .i64 4, .int .u64 (n : Int), .slice qd d.length cd, .slice ql l.length cl] : List Value)[j]? = some v → w1.cell? ⟨w.heap.size, j, none⟩ = some v := fun j v hj => by
      have := al_c w #[.int .i64 4, .int .u64 (n : Int), .slice qd d.length cd, .slice ql l.length cl] 27 _ j v rfl (by simpa using hj)
      rw [hwb.out] at this
      rw [hb.cell (p := ⟨w.heap.size, j, none⟩) (World.block_lt_of_cell? _ _ this)]
      exact this
    exact ⟨hz 0 _ rfl, hz 1 _ rfl, hz 2 _ rfl, hz 3 _ rfl, World.block_lt_of_cell? _ _ (hz 0 _ rfl)⟩
  obtain ⟨M, hM⟩ : ∃ M, Hid (M = l.length) := ⟨_, rfl⟩
  have hby : Hid (byt (.mk 4 n d l) = hd 4 M ++ (byts l).flatten) := by show _ = _; rw [hM.out]; simp [byt]
  have hc : Calls Tryd.prog 47 #[.int .i64 4, .int .u64 (M : Int)] wb _ := rhead_c wb 4 M (by decide) (by rw [hM.out]; omega)
  have h9 := hidW (hd_le 4 M)
  obtain ⟨H, hH⟩ : ∃ H, Hid (hd 4 M = H) := ⟨_, rfl⟩
  rw [hH.out] at hc hby h9
  have hFF : Hid (∀ w' s, wrb (.mk 4 n d l) = false → Below wb.heap.size wb w' → RwR w (.mk 4 n d l) (.tuple #[.string s, .bool false]) w') := fun w' s h hw' => ⟨hb0.out.trans (hw'.mono hb0.out.size), Or.inr ⟨h, s, rfl⟩⟩
  have hTT : Hid (∀ w' S, RLo 4 wb l H l.length w' → S = (⟨(H ++ (byts (l.take l.length)).flatten).toArray⟩ : ByteArray) → RwR w (.mk 4 n d l) (.tuple #[.string S, .bool true]) w') := fun w' S L hS => by
    have h1 := L.ok
    have h2 := L.ri
    have h3 := L.ln
    rw [List.take_length] at h1 h2 h3 hS
    refine ⟨hb0.out.trans (L.bl.mono hb0.out.size), Or.inl ⟨?_, by rw [hby.out, hS]⟩⟩
    rw [wrb, if_pos (by decide), h1, hby.out, decide_eq_true (by rw [List.length_append]; exact h3)]
    rfl
  have HE : Hid (∀ w1 j, RLo 4 wb l H j w1 → ∀ i, l[j]? = some i → ∃ b off qd' dl' cd' ql' ml' cl', ql = some ⟨b, off, none⟩ ∧ b < w1.heap.size ∧ CeI w1 b (off + j * 4) i (.slice qd' dl' cd') (.slice ql' ml' cl') ∧ Calls Tryd.prog 31 #[itv i.k i.n qd' dl' cd' ql' ml' cl'] w1 (RetW (RwR w1 i))) := fun w1 j L i hi => by
    rcases hin with hn | ⟨b, off, rfl, hbb, hL⟩
    · rw [hn] at hi; cases hi
    · have hbw : Below w.heap.size w w1 := hb0.out.trans (L.bl.mono hb0.out.size)
      obtain ⟨vd, vl, hC, hM2⟩ := InL.get l off j i (InL.at (fun k hk => hbw.block k hk) l b off hbb hL) hi
      obtain ⟨qd', dl', cd', ql', ml', cl', rfl, rfl⟩ := hM2.form
      exact ⟨b, off, qd', dl', cd', ql', ml', cl', rfl, Nat.lt_of_lt_of_le hbb hbw.size, hC, hI i (List.mem_of_getElem? hi) w1 qd' dl' cd' ql' ml' cl' (InM.mono hbw.size i _ _ hM2)⟩
  obtain ⟨m, hm⟩ : ∃ m, Hid (l.length = m) := ⟨_, rfl⟩
  have hm60 : m ≤ 1152921504606846976 := by rw [← hm.out]; exact hl60
  rw [hm.out] at bx hwb hM hTT ⊢
  obtain rfl : m = M := hM.out.symm
  clear hpd hin hq' hd62 hdc hl60 hI
  go_enter Tryd.func31, Tryd.ntmps31
  go_wp2_with fail
  rw [hwb.out]
  refine hc.mono ?_
  rintro e w1 ⟨v1, rfl, hb1, rfl⟩
  have HB1 := hidW hb1
  obtain ⟨i0, i1, i2, i3, hil⟩ := bx.out w1 hb1
  obtain ⟨O0, hO0⟩ : ∃ S, Hid ((⟨H.toArray⟩ : ByteArray) = S) := ⟨_, rfl⟩
  rw [hO0.out]
  clear hb1 hc
  go_wp2
  go_loopg [6, 7, 8] (m + 1) (fun gk s6 s7 s8 wr => ∃ (j : Nat) (O LK : ByteArray), s8 = .int .i64 (j : Int) ∧ s6 = .string O ∧ s7 = .string LK ∧ Hid (O = ⟨(H ++ (byts (l.take j)).flatten).toArray⟩) ∧ Hid (True) ∧ gk = m + 1 - j ∧ RLo 4 wb l H j wr)
  case atStart => exact ⟨0, O0, ⟨#[]⟩, rfl, rfl, rfl, (by show _ = _; rw [← hO0.out, List.take_zero, byts]; simp), trivial, rfl, Nat.zero_le _, HB1.out, (by rw [List.take_zero]; rfl), (fun _ => by rw [List.take_zero]; rfl), (by rw [List.take_zero, byts]; have := h9.out; simp; omega)⟩
  case round =>
    obtain ⟨j, O, LK, rfl, rfl, rfl, hO, hLK, hgk, L⟩ := hrel
    have hjm : j ≤ m := by rw [← hm.out]; exact L.hj
    obtain ⟨i0, i1, i2, i3, hil⟩ := bx.out wr L.bl
    have hOs : Hid (O.size = (H ++ (byts (l.take j)).flatten).length) := by show _ = _; rw [hO.out]; simp [ByteArray.size]
    have hOb : O.size ≤ 65536 := by have := L.ln; rw [hOs.out, List.length_append]; exact this
    by_cases hj : j < m
    · obtain ⟨i, hi⟩ : ∃ i, l[j]? = some i := ⟨_, List.getElem?_eq_getElem (by rw [hm.out]; exact hj)⟩
      obtain ⟨b, off, qd', dl', cd', ql', ml', cl', rfl, hbl, ⟨c0, c1, c2, c3⟩, hc⟩ := HE.out wr j L i hi
      have hjz : (j : Int) < (m : Int) := by omega
      have hix := fun w => idxI b off m cl j hj w
      have HL := hidW (And.intro L hi)
      clear L hi
      go_wp2_with fail
      refine hc.mono ?_
      rintro e w3 ⟨v3, rfl, hb3, hr3⟩
      have HB3 := hidW (HL.out.1.bl.trans (hb3.mono HL.out.1.bl.size))
      obtain ⟨i0', i1', i2', i3', hil'⟩ := bx.out w3 HB3.out
      have Hb3 := hidW hb3
      clear i0 i1 i2 i3 hil c0 c1 c2 c3 hb3
      rcases hr3 with ⟨hv3, rfl⟩ | ⟨hv3, s3, rfl⟩
      · have hlen := wrb_len i hv3
        obtain ⟨S, hS⟩ : ∃ S, Hid ((⟨(byt i).toArray⟩ : ByteArray) = S) := ⟨_, rfl⟩
        have hSs : Hid (S.size = (byt i).length) := by show _ = _; rw [← hS.out]; simp [ByteArray.size]
        have hSb : S.size ≤ 65536 := by rw [hSs.out]; exact hlen
        rw [hS.out]
        have hv3' := hidW hv3
        clear hv3 hlen hc
        obtain ⟨N, hN⟩ : ∃ N, Hid (O.size + S.size = N) := ⟨_, rfl⟩
        have hNs : (O.size : Int) + (S.size : Int) = (N : Int) := by rw [← hN.out]; omega
        have hNb : N ≤ 131072 := by rw [← hN.out]; omega
        by_cases hg : 65536 < N
        · have gz : (65536 : Int) < (N : Int) := by omega
          have HQ := hidW (hFF.out w3 ⟨#[]⟩ (HL.out.1.bad (by decide) n d hby.out HL.out.2 (Or.inr (Or.inl (by rw [← hOs.out, ← hSs.out, hN.out]; exact hg)))) HB3.out)
          go_wp2
          go_ret2
          exact ⟨_, rfl, HQ.out⟩
        · have gz : ¬ (65536 : Int) < (N : Int) := by omega
          have gzb : decide ((65536 : Int) < (N : Int)) = false := decide_eq_false gz
          have hcs : O.size + S.size ≤ 9223372036854775807 := by omega
          have HNX : Hid ((4 = (5 : Int) → j % 2 = 0 → ltB (lke [] (byts (l.take j))) (byt i) = true) → RLo 4 wb l H (j + 1) w3 ∧ O ++ S = ⟨(H ++ (byts (l.take (j + 1))).flatten).toArray⟩) := fun hr => by
            obtain ⟨h1, h2⟩ := HL.out.1.next HL.out.2 Hb3.out hv3'.out hr (by rw [← hOs.out, ← hSs.out, hN.out]; omega)
            exact ⟨h1, cat_eq _ _ _ hO.out hS.out.symm h2⟩
          go_wp2
          go_roundg (m + 1 - (j + 1))
          case measure => omega
          case rel => exact ⟨j + 1, O ++ S, LK, rfl, rfl, rfl, (HNX.out (fun h => absurd h (by decide))).2, trivial, rfl, (HNX.out (fun h => absurd h (by decide))).1⟩
      · have HQ := hidW (hFF.out w3 ⟨#[]⟩ (HL.out.1.bad (by decide) n d hby.out HL.out.2 (Or.inl hv3)) HB3.out)
        clear hc hv3
        go_wp2
        go_ret2
        exact ⟨_, rfl, HQ.out⟩
    · have hjz : ¬ (j : Int) < (m : Int) := by omega
      obtain rfl : j = m := by omega
      have HQ := hidW (hTT.out wr O L hO.out)
      clear L
      go_wp2
      go_ret2
      exact ⟨_, rfl, HQ.out⟩
end WI
end Go.Proofs.YtfkgfcggcfkkiaaDoor
namespace Go.Proofs.YtfkgfcggcfkkiaaDoor
open Go.RowKit Go.Sort Go.Deep
namespace WI
variable {T : World → Prop} {u : List UInt8 → Bool}
theorem ne0 (n : Nat) (h : ¬ n = 0) : ((n : Int) == 0) = false ∧ ¬ (n : Int) = 0 := ⟨(eq0 n h).1, by omega⟩
/-- What valid's loop keeps. -/
structure VLo (u : List UInt8 → Bool) (wb : World) (l : List Itm) (dp left j : Nat) (w' : World) : Prop where
  hj : j ≤ l.length
  bl : Below wb.heap.size wb w'
  ok : voks u (l.take j) (dp + 1) (left - 1)
theorem VLo.next {wb w1 w2 : World} {l : List Itm} {dp left j : Nat} {i : Itm} (L : VLo u wb l dp left j w1) (hi : l[j]? = some i) (hb : Below w1.heap.size w1 w2) (hv : vok u i (dp + 1) (left - (1 + cnts (l.take j)))) : VLo u wb l dp left (j + 1) w2 ∧ 1 + cnts (l.take j) + cnt i = 1 + cnts (l.take (j + 1)) := by
  have hj1 := (List.getElem?_eq_some_iff.1 hi).1
  have e := take_s l j i hi
  refine ⟨⟨by omega, L.bl.trans (hb.mono L.bl.size), ?_⟩, ?_⟩
  · rw [e, voks_snoc]
    exact ⟨L.ok, by rw [show left - 1 - cnts (l.take j) = left - (1 + cnts (l.take j)) by omega]; exact hv⟩
  · rw [e, cnts_append]; simp only [cnts]; omega
theorem VLo.bad {wb w1 : World} {l : List Itm} {dp left j : Nat} {i : Itm} (L : VLo u wb l dp left j w1) (hi : l[j]? = some i) (hv : ¬ vok u i (dp + 1) (left - (1 + cnts (l.take j)))) : ¬ voks u l (dp + 1) (left - 1) := fun h => hv (by
  have h2 : voks u (l.take (j + 1)) (dp + 1) (left - 1) := by
    refine voks_app u _ (l.drop (j + 1)) _ _ ?_
    rw [List.take_append_drop]; exact h
  rw [take_s l j i hi, voks_snoc] at h2
  rw [show left - (1 + cnts (l.take j)) = left - 1 - cnts (l.take j) by omega]
  exact h2.2)
set_option maxHeartbeats 1000000 in
set_option maxRecDepth 20000 in
theorem rv0 (hU : UV T u) (n : Nat) (d : List UInt8) (l : List Itm) (hI : ∀ i ∈ l, VSp T u i) (w : World) (qd : Option Addr) (cd : Nat) (ql : Option Addr) (cl : Nat) (dp left : Nat) (hT : T w) (hM : InM w w.heap.size (.mk 0 n d l) (.slice qd d.length cd) (.slice ql l.length cl)) (hdp : dp ≤ 16) (hlf : left ≤ 4096) (hl1 : 1 ≤ left) :
    Calls Tryd.prog 30 #[itv 0 n qd d.length cd ql l.length cl, .int .i64 (dp : Int), .int .i64 (left : Int)] w (RetW (VaR u w (.mk 0 n d l) dp left)) := by
  unfold itv
  have hM0 := hM
  rw [InM] at hM0
  obtain ⟨hn64, hd62, hl60, hpd, q', c', hq', hin⟩ := hM0
  obtain ⟨rfl, rfl⟩ : ql = q' ∧ cl = c' := by simpa using hq'
  have hdc : d.length ≤ cd := by
    obtain ⟨qq, cc, e, hcc, -⟩ := hpd
    obtain ⟨-, rfl⟩ : qd = qq ∧ cd = cc := by simpa using e
    exact hcc
  obtain ⟨wb, hwb⟩ : ∃ wb, Hid (w.alloc (.cells #[.int .i64 0, .int .u64 (n : Int), .slice qd d.length cd, .slice ql l.length cl] 27) = wb) := ⟨_, rfl⟩
  have hb0 : Hid (Below w.heap.size w wb) := by rw [← hwb.out]; exact alloc_below _ _
  have h2 := hU.2.1 w hT
  have hTb : T wb := hU.1 w _ hT (fun j hj => hb0.out.block j (by omega))
  have hUC := hU.2.2 wb qd d.length cd d hTb (hpd.pb.below hb0.out) hdc hd62
  have bx : Hid (∀ w1, Below wb.heap.size wb w1 → w1.cell? ⟨w.heap.size, 0, none⟩ = some (.int .i64 0) ∧ w1.cell? ⟨w.heap.size, 1, none⟩ = some (.int .u64 (n : Int)) ∧ w1.cell? ⟨w.heap.size, 2, none⟩ = some (.slice qd d.length cd) ∧ w1.cell? ⟨w.heap.size, 3, none⟩ = some (.slice ql l.length cl) ∧ w.heap.size < w1.heap.size) := fun w1 hb => by
    have hz : ∀ j v, ([.int .i64 0, .int .u64 (n : Int), .slice qd d.length cd, .slice ql l.length cl] : List Value)[j]? = some v → w1.cell? ⟨w.heap.size, j, none⟩ = some v := fun j v hj => by
      have := al_c w #[.int .i64 0, .int .u64 (n : Int), .slice qd d.length cd, .slice ql l.length cl] 27 _ j v rfl (by simpa using hj)
      rw [hwb.out] at this
      rw [hb.cell (p := ⟨w.heap.size, j, none⟩) (World.block_lt_of_cell? _ _ this)]
      exact this
    exact ⟨hz 0 _ rfl, hz 1 _ rfl, hz 2 _ rfl, hz 3 _ rfl, World.block_lt_of_cell? _ _ (hz 0 _ rfl)⟩
  have g1 : ¬ (left : Int) < 1 := by omega
  have g1b : decide ((left : Int) < 1) = false := decide_eq_false g1
  have g2 : ¬ (16 : Int) < (dp : Int) := by omega
  have g2b : decide ((16 : Int) < (dp : Int)) = false := decide_eq_false g2
  have hFF : Hid (own u 0 n d l.length = false → ∀ w', Below wb.heap.size wb w' → VaR u w (.mk 0 n d l) dp left (.tuple #[.int .i64 0, .bool false]) w') := fun ho w' hw' => ⟨hb0.out.trans (hw'.mono hb0.out.size), Or.inr ⟨(fun hv => by rw [((vok_mk u 0 n d l dp left).1 hv).1] at ho; cases ho), rfl⟩⟩
  have hFL : Hid (¬ voks u l (dp + 1) (left - 1) → ∀ w', Below wb.heap.size wb w' → VaR u w (.mk 0 n d l) dp left (.tuple #[.int .i64 0, .bool false]) w') := fun ho w' hw' => ⟨hb0.out.trans (hw'.mono hb0.out.size), Or.inr ⟨(fun hv => ho ((vok_mk u 0 n d l dp left).1 hv).2.2.2), rfl⟩⟩
  have hTT : Hid (own u 0 n d l.length = true → ∀ w', VLo u wb l dp left l.length w' → VaR u w (.mk 0 n d l) dp left (.tuple #[.int .i64 ((1 + cnts l : Nat) : Int), .bool true]) w') := fun ho w' L => by
    have h3 := L.ok
    rw [List.take_length] at h3
    refine ⟨hb0.out.trans (L.bl.mono hb0.out.size), Or.inl ⟨(vok_mk u 0 n d l dp left).2 ⟨ho, hdp, hl1, h3⟩, ?_⟩⟩
    rw [cnt, Nat.add_comm]
  have HE : Hid (∀ w1 j, VLo u wb l dp left j w1 → ∀ i, l[j]? = some i → ∃ b off qd' dl' cd' ql' ml' cl', ql = some ⟨b, off, none⟩ ∧ b < w1.heap.size ∧ CeI w1 b (off + j * 4) i (.slice qd' dl' cd') (.slice ql' ml' cl') ∧ Calls Tryd.prog 30 #[itv i.k i.n qd' dl' cd' ql' ml' cl', .int .i64 ((dp + 1 : Nat) : Int), .int .i64 ((left - (1 + cnts (l.take j)) : Nat) : Int)] w1 (RetW (VaR u w1 i (dp + 1) (left - (1 + cnts (l.take j)))))) := fun w1 j L i hi => by
    rcases hin with hn | ⟨b, off, rfl, hbb, hL⟩
    · rw [hn] at hi; cases hi
    · have hbw : Below w.heap.size w w1 := hb0.out.trans (L.bl.mono hb0.out.size)
      obtain ⟨vd, vl, hC, hM2⟩ := InL.get l off j i (InL.at (fun k hk => hbw.block k hk) l b off hbb hL) hi
      obtain ⟨qd', dl', cd', ql', ml', cl', rfl, rfl⟩ := hM2.form
      exact ⟨b, off, qd', dl', cd', ql', ml', cl', rfl, Nat.lt_of_lt_of_le hbb hbw.size, hC, hI i (List.mem_of_getElem? hi) w1 qd' dl' cd' ql' ml' cl' (dp + 1) _ (hU.1 wb _ hTb (fun k hk => L.bl.block k (by have := hb0.out.size; omega))) (InM.mono hbw.size i _ _ hM2) (by omega) (by omega)⟩
  obtain ⟨dl, hdl⟩ : ∃ dl, Hid (d.length = dl) := ⟨_, rfl⟩
  obtain ⟨m, hm⟩ : ∃ m, Hid (l.length = m) := ⟨_, rfl⟩
  have hm60 : m ≤ 1152921504606846976 := by rw [← hm.out]; exact hl60
  rw [hdl.out] at hUC bx hwb ⊢
  rw [hm.out] at bx hwb ⊢
  rw [hm.out] at hFF hTT
  obtain ⟨bt, hbt⟩ : ∃ bt, Hid (u d = bt) := ⟨_, rfl⟩
  rw [hbt.out] at hUC
  clear hT hM hpd hin hq' hTb h2 hdc hd62 hl60 hI
  by_cases zn : n = 0
  · subst zn
    by_cases zdl : dl = 0
    · subst zdl
      by_cases zm : m = 0
      · subst zm
        go_enter Tryd.func30, Tryd.ntmps30
        go_wp2_with fail
        rw [← hwb.out] at hUC
        refine hUC.mono ?_
        rintro e w1 ⟨v1, rfl, rfl, hb1⟩
        rw [hwb.out] at hb1
        have HB1 := hidW hb1
        obtain ⟨i0, i1, i2, i3, hil⟩ := bx.out w1 hb1
        clear hb1 hUC
        go_wp2
        go_loopg [11, 12] 1 (fun gk s11 s12 wr => s12 = .int .i64 0 ∧ s11 = .int .i64 1 ∧ gk = 1 ∧ w1 = wr)
        case atStart => exact ⟨rfl, rfl, rfl, rfl⟩
        case round =>
          obtain ⟨rfl, rfl, rfl, rfl⟩ := hrel
          have hl0 : l = [] := List.length_eq_zero_iff.1 hm.out
          subst hl0
          have HQ0 := hTT.out (by simp [own, hdl.out]) w1 ⟨Nat.le_refl _, HB1.out, ⟨rfl, fun h => absurd rfl h, by rw [List.take_nil, cnts]; omega⟩⟩
          rw [show 1 + cnts [] = 1 by rw [cnts]] at HQ0
          have HQ := hidW HQ0
          clear HQ0
          go_wp2
          go_ret2
          exact ⟨_, rfl, HQ.out⟩
      · obtain ⟨em, fm⟩ := ne0 m zm
        go_enter Tryd.func30, Tryd.ntmps30
        go_wp2_with fail
        rw [← hwb.out] at hUC
        refine hUC.mono ?_
        rintro e w1 ⟨v1, rfl, rfl, hb1⟩
        rw [hwb.out] at hb1
        have HB1 := hidW hb1
        obtain ⟨i0, i1, i2, i3, hil⟩ := bx.out w1 hb1
        clear hb1 hUC
        go_wp2
        go_ret2
        exact ⟨_, rfl, hFF.out (by simp [own, zm]) _ HB1.out⟩
    · obtain ⟨edl, fdl⟩ := ne0 dl zdl
      go_enter Tryd.func30, Tryd.ntmps30
      go_wp2_with fail
      rw [← hwb.out] at hUC
      refine hUC.mono ?_
      rintro e w1 ⟨v1, rfl, rfl, hb1⟩
      rw [hwb.out] at hb1
      have HB1 := hidW hb1
      obtain ⟨i0, i1, i2, i3, hil⟩ := bx.out w1 hb1
      clear hb1 hUC
      go_wp2
      go_ret2
      exact ⟨_, rfl, hFF.out (by simp [own, hdl.out, zdl]) _ HB1.out⟩
  · obtain ⟨en, fn⟩ := ne0 n zn
    by_cases zdl : dl = 0
    · subst zdl
      by_cases zm : m = 0
      · subst zm
        go_enter Tryd.func30, Tryd.ntmps30
        go_wp2_with fail
        rw [← hwb.out] at hUC
        refine hUC.mono ?_
        rintro e w1 ⟨v1, rfl, rfl, hb1⟩
        rw [hwb.out] at hb1
        have HB1 := hidW hb1
        obtain ⟨i0, i1, i2, i3, hil⟩ := bx.out w1 hb1
        clear hb1 hUC
        go_wp2
        go_loopg [11, 12] 1 (fun gk s11 s12 wr => s12 = .int .i64 0 ∧ s11 = .int .i64 1 ∧ gk = 1 ∧ w1 = wr)
        case atStart => exact ⟨rfl, rfl, rfl, rfl⟩
        case round =>
          obtain ⟨rfl, rfl, rfl, rfl⟩ := hrel
          have hl0 : l = [] := List.length_eq_zero_iff.1 hm.out
          subst hl0
          have HQ0 := hTT.out (by simp [own, hdl.out]) w1 ⟨Nat.le_refl _, HB1.out, ⟨rfl, fun h => absurd rfl h, by rw [List.take_nil, cnts]; omega⟩⟩
          rw [show 1 + cnts [] = 1 by rw [cnts]] at HQ0
          have HQ := hidW HQ0
          clear HQ0
          go_wp2
          go_ret2
          exact ⟨_, rfl, HQ.out⟩
      · obtain ⟨em, fm⟩ := ne0 m zm
        go_enter Tryd.func30, Tryd.ntmps30
        go_wp2_with fail
        rw [← hwb.out] at hUC
        refine hUC.mono ?_
        rintro e w1 ⟨v1, rfl, rfl, hb1⟩
        rw [hwb.out] at hb1
        have HB1 := hidW hb1
        obtain ⟨i0, i1, i2, i3, hil⟩ := bx.out w1 hb1
        clear hb1 hUC
        go_wp2
        go_ret2
        exact ⟨_, rfl, hFF.out (by simp [own, zm]) _ HB1.out⟩
    · obtain ⟨edl, fdl⟩ := ne0 dl zdl
      go_enter Tryd.func30, Tryd.ntmps30
      go_wp2_with fail
      rw [← hwb.out] at hUC
      refine hUC.mono ?_
      rintro e w1 ⟨v1, rfl, rfl, hb1⟩
      rw [hwb.out] at hb1
      have HB1 := hidW hb1
      obtain ⟨i0, i1, i2, i3, hil⟩ := bx.out w1 hb1
      clear hb1 hUC
      go_wp2
      go_ret2
      exact ⟨_, rfl, hFF.out (by simp [own, hdl.out, zdl]) _ HB1.out⟩
set_option maxHeartbeats 1000000 in
set_option maxRecDepth 20000 in
theorem rv1 (hU : UV T u) (n : Nat) (d : List UInt8) (l : List Itm) (hI : ∀ i ∈ l, VSp T u i) (w : World) (qd : Option Addr) (cd : Nat) (ql : Option Addr) (cl : Nat) (dp left : Nat) (hT : T w) (hM : InM w w.heap.size (.mk 1 n d l) (.slice qd d.length cd) (.slice ql l.length cl)) (hdp : dp ≤ 16) (hlf : left ≤ 4096) (hl1 : 1 ≤ left) :
    Calls Tryd.prog 30 #[itv 1 n qd d.length cd ql l.length cl, .int .i64 (dp : Int), .int .i64 (left : Int)] w (RetW (VaR u w (.mk 1 n d l) dp left)) := by
  unfold itv
  have hM0 := hM
  rw [InM] at hM0
  obtain ⟨hn64, hd62, hl60, hpd, q', c', hq', hin⟩ := hM0
  obtain ⟨rfl, rfl⟩ : ql = q' ∧ cl = c' := by simpa using hq'
  have hdc : d.length ≤ cd := by
    obtain ⟨qq, cc, e, hcc, -⟩ := hpd
    obtain ⟨-, rfl⟩ : qd = qq ∧ cd = cc := by simpa using e
    exact hcc
  obtain ⟨wb, hwb⟩ : ∃ wb, Hid (w.alloc (.cells #[.int .i64 1, .int .u64 (n : Int), .slice qd d.length cd, .slice ql l.length cl] 27) = wb) := ⟨_, rfl⟩
  have hb0 : Hid (Below w.heap.size w wb) := by rw [← hwb.out]; exact alloc_below _ _
  have h2 := hU.2.1 w hT
  have hTb : T wb := hU.1 w _ hT (fun j hj => hb0.out.block j (by omega))
  have hUC := hU.2.2 wb qd d.length cd d hTb (hpd.pb.below hb0.out) hdc hd62
  have bx : Hid (∀ w1, Below wb.heap.size wb w1 → w1.cell? ⟨w.heap.size, 0, none⟩ = some (.int .i64 1) ∧ w1.cell? ⟨w.heap.size, 1, none⟩ = some (.int .u64 (n : Int)) ∧ w1.cell? ⟨w.heap.size, 2, none⟩ = some (.slice qd d.length cd) ∧ w1.cell? ⟨w.heap.size, 3, none⟩ = some (.slice ql l.length cl) ∧ w.heap.size < w1.heap.size) := fun w1 hb => by
    have hz : ∀ j v, ([.int .i64 1, .int .u64 (n : Int), .slice qd d.length cd, .slice ql l.length cl] : List Value)[j]? = some v → w1.cell? ⟨w.heap.size, j, none⟩ = some v := fun j v hj => by
      have := al_c w #[.int .i64 1, .int .u64 (n : Int), .slice qd d.length cd, .slice ql l.length cl] 27 _ j v rfl (by simpa using hj)
      rw [hwb.out] at this
      rw [hb.cell (p := ⟨w.heap.size, j, none⟩) (World.block_lt_of_cell? _ _ this)]
      exact this
    exact ⟨hz 0 _ rfl, hz 1 _ rfl, hz 2 _ rfl, hz 3 _ rfl, World.block_lt_of_cell? _ _ (hz 0 _ rfl)⟩
  have g1 : ¬ (left : Int) < 1 := by omega
  have g1b : decide ((left : Int) < 1) = false := decide_eq_false g1
  have g2 : ¬ (16 : Int) < (dp : Int) := by omega
  have g2b : decide ((16 : Int) < (dp : Int)) = false := decide_eq_false g2
  have hFF : Hid (own u 1 n d l.length = false → ∀ w', Below wb.heap.size wb w' → VaR u w (.mk 1 n d l) dp left (.tuple #[.int .i64 0, .bool false]) w') := fun ho w' hw' => ⟨hb0.out.trans (hw'.mono hb0.out.size), Or.inr ⟨(fun hv => by rw [((vok_mk u 1 n d l dp left).1 hv).1] at ho; cases ho), rfl⟩⟩
  have hFL : Hid (¬ voks u l (dp + 1) (left - 1) → ∀ w', Below wb.heap.size wb w' → VaR u w (.mk 1 n d l) dp left (.tuple #[.int .i64 0, .bool false]) w') := fun ho w' hw' => ⟨hb0.out.trans (hw'.mono hb0.out.size), Or.inr ⟨(fun hv => ho ((vok_mk u 1 n d l dp left).1 hv).2.2.2), rfl⟩⟩
  have hTT : Hid (own u 1 n d l.length = true → ∀ w', VLo u wb l dp left l.length w' → VaR u w (.mk 1 n d l) dp left (.tuple #[.int .i64 ((1 + cnts l : Nat) : Int), .bool true]) w') := fun ho w' L => by
    have h3 := L.ok
    rw [List.take_length] at h3
    refine ⟨hb0.out.trans (L.bl.mono hb0.out.size), Or.inl ⟨(vok_mk u 1 n d l dp left).2 ⟨ho, hdp, hl1, h3⟩, ?_⟩⟩
    rw [cnt, Nat.add_comm]
  have HE : Hid (∀ w1 j, VLo u wb l dp left j w1 → ∀ i, l[j]? = some i → ∃ b off qd' dl' cd' ql' ml' cl', ql = some ⟨b, off, none⟩ ∧ b < w1.heap.size ∧ CeI w1 b (off + j * 4) i (.slice qd' dl' cd') (.slice ql' ml' cl') ∧ Calls Tryd.prog 30 #[itv i.k i.n qd' dl' cd' ql' ml' cl', .int .i64 ((dp + 1 : Nat) : Int), .int .i64 ((left - (1 + cnts (l.take j)) : Nat) : Int)] w1 (RetW (VaR u w1 i (dp + 1) (left - (1 + cnts (l.take j)))))) := fun w1 j L i hi => by
    rcases hin with hn | ⟨b, off, rfl, hbb, hL⟩
    · rw [hn] at hi; cases hi
    · have hbw : Below w.heap.size w w1 := hb0.out.trans (L.bl.mono hb0.out.size)
      obtain ⟨vd, vl, hC, hM2⟩ := InL.get l off j i (InL.at (fun k hk => hbw.block k hk) l b off hbb hL) hi
      obtain ⟨qd', dl', cd', ql', ml', cl', rfl, rfl⟩ := hM2.form
      exact ⟨b, off, qd', dl', cd', ql', ml', cl', rfl, Nat.lt_of_lt_of_le hbb hbw.size, hC, hI i (List.mem_of_getElem? hi) w1 qd' dl' cd' ql' ml' cl' (dp + 1) _ (hU.1 wb _ hTb (fun k hk => L.bl.block k (by have := hb0.out.size; omega))) (InM.mono hbw.size i _ _ hM2) (by omega) (by omega)⟩
  obtain ⟨dl, hdl⟩ : ∃ dl, Hid (d.length = dl) := ⟨_, rfl⟩
  obtain ⟨m, hm⟩ : ∃ m, Hid (l.length = m) := ⟨_, rfl⟩
  have hm60 : m ≤ 1152921504606846976 := by rw [← hm.out]; exact hl60
  rw [hdl.out] at hUC bx hwb ⊢
  rw [hm.out] at bx hwb ⊢
  rw [hm.out] at hFF hTT
  obtain ⟨bt, hbt⟩ : ∃ bt, Hid (u d = bt) := ⟨_, rfl⟩
  rw [hbt.out] at hUC
  clear hT hM hpd hin hq' hTb h2 hdc hd62 hl60 hI
  by_cases zn : n = 0
  · subst zn
    by_cases zdl : dl = 0
    · subst zdl
      by_cases zm : m = 0
      · subst zm
        go_enter Tryd.func30, Tryd.ntmps30
        go_wp2_with fail
        rw [← hwb.out] at hUC
        refine hUC.mono ?_
        rintro e w1 ⟨v1, rfl, rfl, hb1⟩
        rw [hwb.out] at hb1
        have HB1 := hidW hb1
        obtain ⟨i0, i1, i2, i3, hil⟩ := bx.out w1 hb1
        clear hb1 hUC
        go_wp2
        go_loopg [11, 12] 1 (fun gk s11 s12 wr => s12 = .int .i64 0 ∧ s11 = .int .i64 1 ∧ gk = 1 ∧ w1 = wr)
        case atStart => exact ⟨rfl, rfl, rfl, rfl⟩
        case round =>
          obtain ⟨rfl, rfl, rfl, rfl⟩ := hrel
          have hl0 : l = [] := List.length_eq_zero_iff.1 hm.out
          subst hl0
          have HQ0 := hTT.out (by simp [own, hdl.out]) w1 ⟨Nat.le_refl _, HB1.out, ⟨rfl, fun h => absurd rfl h, by rw [List.take_nil, cnts]; omega⟩⟩
          rw [show 1 + cnts [] = 1 by rw [cnts]] at HQ0
          have HQ := hidW HQ0
          clear HQ0
          go_wp2
          go_ret2
          exact ⟨_, rfl, HQ.out⟩
      · obtain ⟨em, fm⟩ := ne0 m zm
        go_enter Tryd.func30, Tryd.ntmps30
        go_wp2_with fail
        rw [← hwb.out] at hUC
        refine hUC.mono ?_
        rintro e w1 ⟨v1, rfl, rfl, hb1⟩
        rw [hwb.out] at hb1
        have HB1 := hidW hb1
        obtain ⟨i0, i1, i2, i3, hil⟩ := bx.out w1 hb1
        clear hb1 hUC
        go_wp2
        go_ret2
        exact ⟨_, rfl, hFF.out (by simp [own, zm]) _ HB1.out⟩
    · obtain ⟨edl, fdl⟩ := ne0 dl zdl
      go_enter Tryd.func30, Tryd.ntmps30
      go_wp2_with fail
      rw [← hwb.out] at hUC
      refine hUC.mono ?_
      rintro e w1 ⟨v1, rfl, rfl, hb1⟩
      rw [hwb.out] at hb1
      have HB1 := hidW hb1
      obtain ⟨i0, i1, i2, i3, hil⟩ := bx.out w1 hb1
      clear hb1 hUC
      go_wp2
      go_ret2
      exact ⟨_, rfl, hFF.out (by simp [own, hdl.out, zdl]) _ HB1.out⟩
  · obtain ⟨en, fn⟩ := ne0 n zn
    by_cases zdl : dl = 0
    · subst zdl
      by_cases zm : m = 0
      · subst zm
        go_enter Tryd.func30, Tryd.ntmps30
        go_wp2_with fail
        rw [← hwb.out] at hUC
        refine hUC.mono ?_
        rintro e w1 ⟨v1, rfl, rfl, hb1⟩
        rw [hwb.out] at hb1
        have HB1 := hidW hb1
        obtain ⟨i0, i1, i2, i3, hil⟩ := bx.out w1 hb1
        clear hb1 hUC
        go_wp2
        go_loopg [11, 12] 1 (fun gk s11 s12 wr => s12 = .int .i64 0 ∧ s11 = .int .i64 1 ∧ gk = 1 ∧ w1 = wr)
        case atStart => exact ⟨rfl, rfl, rfl, rfl⟩
        case round =>
          obtain ⟨rfl, rfl, rfl, rfl⟩ := hrel
          have hl0 : l = [] := List.length_eq_zero_iff.1 hm.out
          subst hl0
          have HQ0 := hTT.out (by simp [own, hdl.out]) w1 ⟨Nat.le_refl _, HB1.out, ⟨rfl, fun h => absurd rfl h, by rw [List.take_nil, cnts]; omega⟩⟩
          rw [show 1 + cnts [] = 1 by rw [cnts]] at HQ0
          have HQ := hidW HQ0
          clear HQ0
          go_wp2
          go_ret2
          exact ⟨_, rfl, HQ.out⟩
      · obtain ⟨em, fm⟩ := ne0 m zm
        go_enter Tryd.func30, Tryd.ntmps30
        go_wp2_with fail
        rw [← hwb.out] at hUC
        refine hUC.mono ?_
        rintro e w1 ⟨v1, rfl, rfl, hb1⟩
        rw [hwb.out] at hb1
        have HB1 := hidW hb1
        obtain ⟨i0, i1, i2, i3, hil⟩ := bx.out w1 hb1
        clear hb1 hUC
        go_wp2
        go_ret2
        exact ⟨_, rfl, hFF.out (by simp [own, zm]) _ HB1.out⟩
    · obtain ⟨edl, fdl⟩ := ne0 dl zdl
      go_enter Tryd.func30, Tryd.ntmps30
      go_wp2_with fail
      rw [← hwb.out] at hUC
      refine hUC.mono ?_
      rintro e w1 ⟨v1, rfl, rfl, hb1⟩
      rw [hwb.out] at hb1
      have HB1 := hidW hb1
      obtain ⟨i0, i1, i2, i3, hil⟩ := bx.out w1 hb1
      clear hb1 hUC
      go_wp2
      go_ret2
      exact ⟨_, rfl, hFF.out (by simp [own, hdl.out, zdl]) _ HB1.out⟩
end WI
end Go.Proofs.YtfkgfcggcfkkiaaDoor
namespace Go.Proofs.YtfkgfcggcfkkiaaDoor
open Go.RowKit Go.Sort Go.Deep
namespace WI
variable {T : World → Prop} {u : List UInt8 → Bool}
set_option maxHeartbeats 1000000 in
set_option maxRecDepth 20000 in
theorem rw5 (n : Nat) (d : List UInt8) (l : List Itm) (hI : ∀ i ∈ l, RwS i) : RwS (.mk 5 n d l) := by
  intro w qd dl cd ql m cl hM
  rw [InM] at hM
  obtain ⟨hn64, hd62, hl60, hpd, q', c', hq', hin⟩ := hM
  show Calls Tryd.prog 31 #[itv 5 n qd dl cd ql m cl] w _
  unfold itv
  obtain ⟨rfl, hdc⟩ : dl = d.length ∧ d.length ≤ cd := by
    obtain ⟨qq, cc, e, hcc, -⟩ := hpd
    obtain ⟨rfl, rfl, rfl⟩ : qd = qq ∧ dl = d.length ∧ cd = cc := by simpa using e
    exact ⟨rfl, hcc⟩
  obtain ⟨rfl, rfl, rfl⟩ : ql = q' ∧ m = l.length ∧ cl = c' := by simpa using hq'
  obtain ⟨wb, hwb⟩ : ∃ wb, Hid (w.alloc (.cells #[.int .i64 5, .int .u64 (n : Int), .slice qd d.length cd, .slice ql l.length cl] 27) = wb) := ⟨_, rfl⟩
  have hb0 : Hid (Below w.heap.size w wb) := by rw [← hwb.out]; exact alloc_below _ _
  have bx : Hid (∀ w1, Below wb.heap.size wb w1 → w1.cell? ⟨w.heap.size, 0, none⟩ = some (.int .i64 5) ∧ w1.cell? ⟨w.heap.size, 1, none⟩ = some (.int .u64 (n : Int)) ∧ w1.cell? ⟨w.heap.size, 2, none⟩ = some (.slice qd d.length cd) ∧ w1.cell? ⟨w.heap.size, 3, none⟩ = some (.slice ql l.length cl) ∧ w.heap.size < w1.heap.size) := fun w1 hb => by
    have hz : ∀ j v, ([.int .i64 5, .int .u64 (n : Int), .slice qd d.length cd, .slice ql l.length cl] : List Value)[j]? = some v → w1.cell? ⟨w.heap.size, j, none⟩ = some v := fun j v hj => by
      have := al_c w #[.int .i64 5, .int .u64 (n : Int), .slice qd d.length cd, .slice ql l.length cl] 27 _ j v rfl (by simpa using hj)
      rw [hwb.out] at this
      rw [hb.cell (p := ⟨w.heap.size, j, none⟩) (World.block_lt_of_cell? _ _ this)]
      exact this
    exact ⟨hz 0 _ rfl, hz 1 _ rfl, hz 2 _ rfl, hz 3 _ rfl, World.block_lt_of_cell? _ _ (hz 0 _ rfl)⟩
  obtain ⟨M, hM⟩ : ∃ M, Hid (M = l.length / 2) := ⟨_, rfl⟩
  have hby : Hid (byt (.mk 5 n d l) = hd 5 M ++ (byts l).flatten) := by show _ = _; rw [hM.out]; simp [byt]
  have hc : Calls Tryd.prog 47 #[.int .i64 5, .int .u64 (M : Int)] wb _ := rhead_c wb 5 M (by decide) (by rw [hM.out]; omega)
  have h9 := hidW (hd_le 5 M)
  obtain ⟨H, hH⟩ : ∃ H, Hid (hd 5 M = H) := ⟨_, rfl⟩
  rw [hH.out] at hc hby h9
  have hFF : Hid (∀ w' s, wrb (.mk 5 n d l) = false → Below wb.heap.size wb w' → RwR w (.mk 5 n d l) (.tuple #[.string s, .bool false]) w') := fun w' s h hw' => ⟨hb0.out.trans (hw'.mono hb0.out.size), Or.inr ⟨h, s, rfl⟩⟩
  have hTT : Hid (∀ w' S, RLo 5 wb l H l.length w' → S = (⟨(H ++ (byts (l.take l.length)).flatten).toArray⟩ : ByteArray) → RwR w (.mk 5 n d l) (.tuple #[.string S, .bool true]) w') := fun w' S L hS => by
    have h1 := L.ok
    have h2 := L.ri
    have h3 := L.ln
    rw [List.take_length] at h1 h2 h3 hS
    refine ⟨hb0.out.trans (L.bl.mono hb0.out.size), Or.inl ⟨?_, by rw [hby.out, hS]⟩⟩
    rw [wrb, if_pos (by decide), h1, hby.out, decide_eq_true (by rw [List.length_append]; exact h3)]
    rw [h2 rfl]; rfl
  have HE : Hid (∀ w1 j, RLo 5 wb l H j w1 → ∀ i, l[j]? = some i → ∃ b off qd' dl' cd' ql' ml' cl', ql = some ⟨b, off, none⟩ ∧ b < w1.heap.size ∧ CeI w1 b (off + j * 4) i (.slice qd' dl' cd') (.slice ql' ml' cl') ∧ Calls Tryd.prog 31 #[itv i.k i.n qd' dl' cd' ql' ml' cl'] w1 (RetW (RwR w1 i))) := fun w1 j L i hi => by
    rcases hin with hn | ⟨b, off, rfl, hbb, hL⟩
    · rw [hn] at hi; cases hi
    · have hbw : Below w.heap.size w w1 := hb0.out.trans (L.bl.mono hb0.out.size)
      obtain ⟨vd, vl, hC, hM2⟩ := InL.get l off j i (InL.at (fun k hk => hbw.block k hk) l b off hbb hL) hi
      obtain ⟨qd', dl', cd', ql', ml', cl', rfl, rfl⟩ := hM2.form
      exact ⟨b, off, qd', dl', cd', ql', ml', cl', rfl, Nat.lt_of_lt_of_le hbb hbw.size, hC, hI i (List.mem_of_getElem? hi) w1 qd' dl' cd' ql' ml' cl' (InM.mono hbw.size i _ _ hM2)⟩
  obtain ⟨m, hm⟩ : ∃ m, Hid (l.length = m) := ⟨_, rfl⟩
  have hm60 : m ≤ 1152921504606846976 := by rw [← hm.out]; exact hl60
  rw [hm.out] at bx hwb hM hTT ⊢
  have hq2 : (m : Int).tdiv 2 = (M : Int) := by rw [hM.out]; rfl
  have hMb : M ≤ 1152921504606846976 := by rw [hM.out]; omega
  clear hpd hin hq' hd62 hdc hl60 hI
  go_enter Tryd.func31, Tryd.ntmps31
  go_wp2_with fail
  rw [hwb.out]
  refine hc.mono ?_
  rintro e w1 ⟨v1, rfl, hb1, rfl⟩
  have HB1 := hidW hb1
  obtain ⟨i0, i1, i2, i3, hil⟩ := bx.out w1 hb1
  obtain ⟨O0, hO0⟩ : ∃ S, Hid ((⟨H.toArray⟩ : ByteArray) = S) := ⟨_, rfl⟩
  rw [hO0.out]
  clear hb1 hc
  go_wp2
  go_loopg [6, 7, 8] (m + 1) (fun gk s6 s7 s8 wr => ∃ (j : Nat) (O LK : ByteArray), s8 = .int .i64 (j : Int) ∧ s6 = .string O ∧ s7 = .string LK ∧ Hid (O = ⟨(H ++ (byts (l.take j)).flatten).toArray⟩) ∧ Hid (LK = ⟨(lke [] (byts (l.take j))).toArray⟩) ∧ gk = m + 1 - j ∧ RLo 5 wb l H j wr)
  case atStart => exact ⟨0, O0, ⟨#[]⟩, rfl, rfl, rfl, (by show _ = _; rw [← hO0.out, List.take_zero, byts]; simp), rfl, rfl, Nat.zero_le _, HB1.out, (by rw [List.take_zero]; rfl), (fun _ => by rw [List.take_zero]; rfl), (by rw [List.take_zero, byts]; have := h9.out; simp; omega)⟩
  case round =>
    obtain ⟨j, O, LK, rfl, rfl, rfl, hO, hLK, hgk, L⟩ := hrel
    have hjm : j ≤ m := by rw [← hm.out]; exact L.hj
    obtain ⟨i0, i1, i2, i3, hil⟩ := bx.out wr L.bl
    have hOs : Hid (O.size = (H ++ (byts (l.take j)).flatten).length) := by show _ = _; rw [hO.out]; simp [ByteArray.size]
    have hOb : O.size ≤ 65536 := by have := L.ln; rw [hOs.out, List.length_append]; exact this
    by_cases hj : j < m
    · obtain ⟨i, hi⟩ : ∃ i, l[j]? = some i := ⟨_, List.getElem?_eq_getElem (by rw [hm.out]; exact hj)⟩
      obtain ⟨b, off, qd', dl', cd', ql', ml', cl', rfl, hbl, ⟨c0, c1, c2, c3⟩, hc⟩ := HE.out wr j L i hi
      have hjz : (j : Int) < (m : Int) := by omega
      have hix := fun w => idxI b off m cl j hj w
      have HL := hidW (And.intro L hi)
      clear L hi
      go_wp2_with fail
      refine hc.mono ?_
      rintro e w3 ⟨v3, rfl, hb3, hr3⟩
      have HB3 := hidW (HL.out.1.bl.trans (hb3.mono HL.out.1.bl.size))
      obtain ⟨i0', i1', i2', i3', hil'⟩ := bx.out w3 HB3.out
      have Hb3 := hidW hb3
      clear i0 i1 i2 i3 hil c0 c1 c2 c3 hb3
      rcases hr3 with ⟨hv3, rfl⟩ | ⟨hv3, s3, rfl⟩
      · have hlen := wrb_len i hv3
        obtain ⟨S, hS⟩ : ∃ S, Hid ((⟨(byt i).toArray⟩ : ByteArray) = S) := ⟨_, rfl⟩
        have hSs : Hid (S.size = (byt i).length) := by show _ = _; rw [← hS.out]; simp [ByteArray.size]
        have hSb : S.size ≤ 65536 := by rw [hSs.out]; exact hlen
        rw [hS.out]
        have hv3' := hidW hv3
        clear hv3 hlen hc
        obtain ⟨N, hN⟩ : ∃ N, Hid (O.size + S.size = N) := ⟨_, rfl⟩
        have hNs : (O.size : Int) + (S.size : Int) = (N : Int) := by rw [← hN.out]; omega
        have hNb : N ≤ 131072 := by rw [← hN.out]; omega
        by_cases hg : 65536 < N
        · have gz : (65536 : Int) < (N : Int) := by omega
          have HQ := hidW (hFF.out w3 ⟨#[]⟩ (HL.out.1.bad (by decide) n d hby.out HL.out.2 (Or.inr (Or.inl (by rw [← hOs.out, ← hSs.out, hN.out]; exact hg)))) HB3.out)
          go_wp2
          go_ret2
          exact ⟨_, rfl, HQ.out⟩
        · have gz : ¬ (65536 : Int) < (N : Int) := by omega
          have gzb : decide ((65536 : Int) < (N : Int)) = false := decide_eq_false gz
          have hcs : O.size + S.size ≤ 9223372036854775807 := by omega
          have HNX : Hid ((5 = (5 : Int) → j % 2 = 0 → ltB (lke [] (byts (l.take j))) (byt i) = true) → RLo 5 wb l H (j + 1) w3 ∧ O ++ S = ⟨(H ++ (byts (l.take (j + 1))).flatten).toArray⟩) := fun hr => by
            obtain ⟨h1, h2⟩ := HL.out.1.next HL.out.2 Hb3.out hv3'.out hr (by rw [← hOs.out, ← hSs.out, hN.out]; omega)
            exact ⟨h1, cat_eq _ _ _ hO.out hS.out.symm h2⟩
          have hr : (j : Int).tmod 2 = ((j % 2 : Nat) : Int) := rfl
          obtain ⟨r2, hr2⟩ : ∃ r2, Hid (j % 2 = r2) := ⟨_, rfl⟩
          rw [hr2.out] at hr
          have hkl : Hid ((byts (l.take j)).length = j) := by show _ = _; rw [byts_length, List.length_take]; have := HL.out.1.hj; omega
          have hkS : Hid (byts (l.take (j + 1)) = byts (l.take j) ++ [byt i]) := by show _ = _; rw [take_s l j i HL.out.2, byts_append]; rfl
          have eLK : Hid (LK.toList = lke [] (byts (l.take j))) := by show _ = _; rw [hLK.out, ByteArray.toList_eq]
          have eS : Hid (S.toList = byt i) := by show _ = _; rw [← hS.out, ByteArray.toList_eq]
          by_cases zr : r2 = 0
          · subst zr
            have hLN : Hid (S = ⟨(lke [] (byts (l.take (j + 1)))).toArray⟩) := by show _ = _; rw [hkS.out, (lke_snoc _ _ _).1, hkl.out, if_pos hr2.out]; exact hS.out.symm
            by_cases zj : j = 0
            · have hjp : ¬ (0 : Int) < (j : Int) := by omega
              have hjb : decide ((0 : Int) < (j : Int)) = false := decide_eq_false hjp
              have hlt : Hid (5 = (5 : Int) → j % 2 = 0 → ltB (lke [] (byts (l.take j))) (byt i) = true) := fun _ _ => by
                rw [zj, List.take_zero, byts, lke]
                have := byt_pos i
                cases hb : byt i with
                | nil => rw [hb] at this; cases this
                | cons x y => rfl
              clear zj
              go_wp2
              go_roundg (m + 1 - (j + 1))
              case measure => omega
              case rel => exact ⟨j + 1, O ++ S, S, rfl, rfl, rfl, (HNX.out hlt.out).2, hLN, rfl, (HNX.out hlt.out).1⟩
            · have hjp : (0 : Int) < (j : Int) := by omega
              cases hlt : ltB (lke [] (byts (l.take j))) (byt i) with
              | true =>
                obtain ⟨hl1, hl2⟩ : Op.bytesLess S.toList LK.toList = false ∧ (S.toList == LK.toList) = false := by
                  have h := leB (byt i) (lke [] (byts (l.take j)))
                  rw [hlt, Bool.not_true, Bool.or_eq_false_iff] at h
                  rw [eLK.out, eS.out]; exact h
                have hlt' := hidW hlt
                clear hlt
                go_wp2
                go_roundg (m + 1 - (j + 1))
                case measure => omega
                case rel => exact ⟨j + 1, O ++ S, S, rfl, rfl, rfl, (HNX.out fun _ _ => hlt'.out).2, hLN, rfl, (HNX.out fun _ _ => hlt'.out).1⟩
              | false =>
                have hl : Op.bytesLess S.toList LK.toList = true ∨ (S.toList == LK.toList) = true := by
                  have h := leB (byt i) (lke [] (byts (l.take j)))
                  rw [hlt, Bool.not_false, Bool.or_eq_true] at h
                  rw [eLK.out, eS.out]; exact h
                have HQ := hidW (hFF.out w3 ⟨#[]⟩ (HL.out.1.bad (by decide) n d hby.out HL.out.2 (Or.inr (Or.inr ⟨rfl, hr2.out, hlt⟩))) HB3.out)
                clear hlt
                rcases hl with hl | hl
                · go_wp2
                  go_ret2
                  exact ⟨_, rfl, HQ.out⟩
                · cases hl0 : Op.bytesLess S.toList LK.toList with
                  | true =>
                    go_wp2
                    go_ret2
                    exact ⟨_, rfl, HQ.out⟩
                  | false =>
                    go_wp2
                    go_ret2
                    exact ⟨_, rfl, HQ.out⟩
          · obtain ⟨er, fr⟩ := ne0 r2 zr
            have hno : Hid (5 = (5 : Int) → j % 2 = 0 → ltB (lke [] (byts (l.take j))) (byt i) = true) := fun _ h => absurd (hr2.out.symm.trans h) zr
            have hLN : Hid (LK = ⟨(lke [] (byts (l.take (j + 1)))).toArray⟩) := by show _ = _; rw [hkS.out, (lke_snoc _ _ _).1, hkl.out, if_neg (by rw [hr2.out]; exact zr)]; exact hLK.out
            clear zr
            go_wp2
            go_roundg (m + 1 - (j + 1))
            case measure => omega
            case rel => exact ⟨j + 1, O ++ S, LK, rfl, rfl, rfl, (HNX.out hno.out).2, hLN, rfl, (HNX.out hno.out).1⟩
      · have HQ := hidW (hFF.out w3 ⟨#[]⟩ (HL.out.1.bad (by decide) n d hby.out HL.out.2 (Or.inl hv3)) HB3.out)
        clear hc hv3
        go_wp2
        go_ret2
        exact ⟨_, rfl, HQ.out⟩
    · have hjz : ¬ (j : Int) < (m : Int) := by omega
      obtain rfl : j = m := by omega
      have HQ := hidW (hTT.out wr O L hO.out)
      clear L
      go_wp2
      go_ret2
      exact ⟨_, rfl, HQ.out⟩
end WI
end Go.Proofs.YtfkgfcggcfkkiaaDoor
namespace Go.Proofs.YtfkgfcggcfkkiaaDoor
open Go.RowKit Go.Sort Go.Deep
namespace WI
variable {T : World → Prop} {u : List UInt8 → Bool}
set_option maxHeartbeats 1000000 in
set_option maxRecDepth 20000 in
theorem rv2 (hU : UV T u) (n : Nat) (d : List UInt8) (l : List Itm) (hI : ∀ i ∈ l, VSp T u i) (w : World) (qd : Option Addr) (cd : Nat) (ql : Option Addr) (cl : Nat) (dp left : Nat) (hT : T w) (hM : InM w w.heap.size (.mk 2 n d l) (.slice qd d.length cd) (.slice ql l.length cl)) (hdp : dp ≤ 16) (hlf : left ≤ 4096) (hl1 : 1 ≤ left) :
    Calls Tryd.prog 30 #[itv 2 n qd d.length cd ql l.length cl, .int .i64 (dp : Int), .int .i64 (left : Int)] w (RetW (VaR u w (.mk 2 n d l) dp left)) := by
  unfold itv
  have hM0 := hM
  rw [InM] at hM0
  obtain ⟨hn64, hd62, hl60, hpd, q', c', hq', hin⟩ := hM0
  obtain ⟨rfl, rfl⟩ : ql = q' ∧ cl = c' := by simpa using hq'
  have hdc : d.length ≤ cd := by
    obtain ⟨qq, cc, e, hcc, -⟩ := hpd
    obtain ⟨-, rfl⟩ : qd = qq ∧ cd = cc := by simpa using e
    exact hcc
  obtain ⟨wb, hwb⟩ : ∃ wb, Hid (w.alloc (.cells #[.int .i64 2, .int .u64 (n : Int), .slice qd d.length cd, .slice ql l.length cl] 27) = wb) := ⟨_, rfl⟩
  have hb0 : Hid (Below w.heap.size w wb) := by rw [← hwb.out]; exact alloc_below _ _
  have h2 := hU.2.1 w hT
  have hTb : T wb := hU.1 w _ hT (fun j hj => hb0.out.block j (by omega))
  have hUC := hU.2.2 wb qd d.length cd d hTb (hpd.pb.below hb0.out) hdc hd62
  have bx : Hid (∀ w1, Below wb.heap.size wb w1 → w1.cell? ⟨w.heap.size, 0, none⟩ = some (.int .i64 2) ∧ w1.cell? ⟨w.heap.size, 1, none⟩ = some (.int .u64 (n : Int)) ∧ w1.cell? ⟨w.heap.size, 2, none⟩ = some (.slice qd d.length cd) ∧ w1.cell? ⟨w.heap.size, 3, none⟩ = some (.slice ql l.length cl) ∧ w.heap.size < w1.heap.size) := fun w1 hb => by
    have hz : ∀ j v, ([.int .i64 2, .int .u64 (n : Int), .slice qd d.length cd, .slice ql l.length cl] : List Value)[j]? = some v → w1.cell? ⟨w.heap.size, j, none⟩ = some v := fun j v hj => by
      have := al_c w #[.int .i64 2, .int .u64 (n : Int), .slice qd d.length cd, .slice ql l.length cl] 27 _ j v rfl (by simpa using hj)
      rw [hwb.out] at this
      rw [hb.cell (p := ⟨w.heap.size, j, none⟩) (World.block_lt_of_cell? _ _ this)]
      exact this
    exact ⟨hz 0 _ rfl, hz 1 _ rfl, hz 2 _ rfl, hz 3 _ rfl, World.block_lt_of_cell? _ _ (hz 0 _ rfl)⟩
  have g1 : ¬ (left : Int) < 1 := by omega
  have g1b : decide ((left : Int) < 1) = false := decide_eq_false g1
  have g2 : ¬ (16 : Int) < (dp : Int) := by omega
  have g2b : decide ((16 : Int) < (dp : Int)) = false := decide_eq_false g2
  have hFF : Hid (own u 2 n d l.length = false → ∀ w', Below wb.heap.size wb w' → VaR u w (.mk 2 n d l) dp left (.tuple #[.int .i64 0, .bool false]) w') := fun ho w' hw' => ⟨hb0.out.trans (hw'.mono hb0.out.size), Or.inr ⟨(fun hv => by rw [((vok_mk u 2 n d l dp left).1 hv).1] at ho; cases ho), rfl⟩⟩
  have hFL : Hid (¬ voks u l (dp + 1) (left - 1) → ∀ w', Below wb.heap.size wb w' → VaR u w (.mk 2 n d l) dp left (.tuple #[.int .i64 0, .bool false]) w') := fun ho w' hw' => ⟨hb0.out.trans (hw'.mono hb0.out.size), Or.inr ⟨(fun hv => ho ((vok_mk u 2 n d l dp left).1 hv).2.2.2), rfl⟩⟩
  have hTT : Hid (own u 2 n d l.length = true → ∀ w', VLo u wb l dp left l.length w' → VaR u w (.mk 2 n d l) dp left (.tuple #[.int .i64 ((1 + cnts l : Nat) : Int), .bool true]) w') := fun ho w' L => by
    have h3 := L.ok
    rw [List.take_length] at h3
    refine ⟨hb0.out.trans (L.bl.mono hb0.out.size), Or.inl ⟨(vok_mk u 2 n d l dp left).2 ⟨ho, hdp, hl1, h3⟩, ?_⟩⟩
    rw [cnt, Nat.add_comm]
  have HE : Hid (∀ w1 j, VLo u wb l dp left j w1 → ∀ i, l[j]? = some i → ∃ b off qd' dl' cd' ql' ml' cl', ql = some ⟨b, off, none⟩ ∧ b < w1.heap.size ∧ CeI w1 b (off + j * 4) i (.slice qd' dl' cd') (.slice ql' ml' cl') ∧ Calls Tryd.prog 30 #[itv i.k i.n qd' dl' cd' ql' ml' cl', .int .i64 ((dp + 1 : Nat) : Int), .int .i64 ((left - (1 + cnts (l.take j)) : Nat) : Int)] w1 (RetW (VaR u w1 i (dp + 1) (left - (1 + cnts (l.take j)))))) := fun w1 j L i hi => by
    rcases hin with hn | ⟨b, off, rfl, hbb, hL⟩
    · rw [hn] at hi; cases hi
    · have hbw : Below w.heap.size w w1 := hb0.out.trans (L.bl.mono hb0.out.size)
      obtain ⟨vd, vl, hC, hM2⟩ := InL.get l off j i (InL.at (fun k hk => hbw.block k hk) l b off hbb hL) hi
      obtain ⟨qd', dl', cd', ql', ml', cl', rfl, rfl⟩ := hM2.form
      exact ⟨b, off, qd', dl', cd', ql', ml', cl', rfl, Nat.lt_of_lt_of_le hbb hbw.size, hC, hI i (List.mem_of_getElem? hi) w1 qd' dl' cd' ql' ml' cl' (dp + 1) _ (hU.1 wb _ hTb (fun k hk => L.bl.block k (by have := hb0.out.size; omega))) (InM.mono hbw.size i _ _ hM2) (by omega) (by omega)⟩
  obtain ⟨dl, hdl⟩ : ∃ dl, Hid (d.length = dl) := ⟨_, rfl⟩
  obtain ⟨m, hm⟩ : ∃ m, Hid (l.length = m) := ⟨_, rfl⟩
  have hm60 : m ≤ 1152921504606846976 := by rw [← hm.out]; exact hl60
  rw [hdl.out] at hUC bx hwb ⊢
  rw [hm.out] at bx hwb ⊢
  rw [hm.out] at hFF hTT
  obtain ⟨bt, hbt⟩ : ∃ bt, Hid (u d = bt) := ⟨_, rfl⟩
  rw [hbt.out] at hUC
  clear hT hM hpd hin hq' hTb h2 hdc hd62 hl60 hI
  by_cases zn : n = 0
  · subst zn
    by_cases zdl : dl = 0
    · subst zdl
      by_cases zm : m = 0
      · subst zm
        go_enter Tryd.func30, Tryd.ntmps30
        go_wp2_with fail
        rw [← hwb.out] at hUC
        refine hUC.mono ?_
        rintro e w1 ⟨v1, rfl, rfl, hb1⟩
        rw [hwb.out] at hb1
        have HB1 := hidW hb1
        obtain ⟨i0, i1, i2, i3, hil⟩ := bx.out w1 hb1
        clear hb1 hUC
        go_wp2
        go_loopg [11, 12] 1 (fun gk s11 s12 wr => s12 = .int .i64 0 ∧ s11 = .int .i64 1 ∧ gk = 1 ∧ w1 = wr)
        case atStart => exact ⟨rfl, rfl, rfl, rfl⟩
        case round =>
          obtain ⟨rfl, rfl, rfl, rfl⟩ := hrel
          have hl0 : l = [] := List.length_eq_zero_iff.1 hm.out
          subst hl0
          have HQ0 := hTT.out (by simp [own]) w1 ⟨Nat.le_refl _, HB1.out, ⟨rfl, fun h => absurd rfl h, by rw [List.take_nil, cnts]; omega⟩⟩
          rw [show 1 + cnts [] = 1 by rw [cnts]] at HQ0
          have HQ := hidW HQ0
          clear HQ0
          go_wp2
          go_ret2
          exact ⟨_, rfl, HQ.out⟩
      · obtain ⟨em, fm⟩ := ne0 m zm
        go_enter Tryd.func30, Tryd.ntmps30
        go_wp2_with fail
        rw [← hwb.out] at hUC
        refine hUC.mono ?_
        rintro e w1 ⟨v1, rfl, rfl, hb1⟩
        rw [hwb.out] at hb1
        have HB1 := hidW hb1
        obtain ⟨i0, i1, i2, i3, hil⟩ := bx.out w1 hb1
        clear hb1 hUC
        go_wp2
        go_ret2
        exact ⟨_, rfl, hFF.out (by simp [own, zm]) _ HB1.out⟩
    · obtain ⟨edl, fdl⟩ := ne0 dl zdl
      by_cases zm : m = 0
      · subst zm
        go_enter Tryd.func30, Tryd.ntmps30
        go_wp2_with fail
        rw [← hwb.out] at hUC
        refine hUC.mono ?_
        rintro e w1 ⟨v1, rfl, rfl, hb1⟩
        rw [hwb.out] at hb1
        have HB1 := hidW hb1
        obtain ⟨i0, i1, i2, i3, hil⟩ := bx.out w1 hb1
        clear hb1 hUC
        go_wp2
        go_loopg [11, 12] 1 (fun gk s11 s12 wr => s12 = .int .i64 0 ∧ s11 = .int .i64 1 ∧ gk = 1 ∧ w1 = wr)
        case atStart => exact ⟨rfl, rfl, rfl, rfl⟩
        case round =>
          obtain ⟨rfl, rfl, rfl, rfl⟩ := hrel
          have hl0 : l = [] := List.length_eq_zero_iff.1 hm.out
          subst hl0
          have HQ0 := hTT.out (by simp [own]) w1 ⟨Nat.le_refl _, HB1.out, ⟨rfl, fun h => absurd rfl h, by rw [List.take_nil, cnts]; omega⟩⟩
          rw [show 1 + cnts [] = 1 by rw [cnts]] at HQ0
          have HQ := hidW HQ0
          clear HQ0
          go_wp2
          go_ret2
          exact ⟨_, rfl, HQ.out⟩
      · obtain ⟨em, fm⟩ := ne0 m zm
        go_enter Tryd.func30, Tryd.ntmps30
        go_wp2_with fail
        rw [← hwb.out] at hUC
        refine hUC.mono ?_
        rintro e w1 ⟨v1, rfl, rfl, hb1⟩
        rw [hwb.out] at hb1
        have HB1 := hidW hb1
        obtain ⟨i0, i1, i2, i3, hil⟩ := bx.out w1 hb1
        clear hb1 hUC
        go_wp2
        go_ret2
        exact ⟨_, rfl, hFF.out (by simp [own, zm]) _ HB1.out⟩
  · obtain ⟨en, fn⟩ := ne0 n zn
    go_enter Tryd.func30, Tryd.ntmps30
    go_wp2_with fail
    rw [← hwb.out] at hUC
    refine hUC.mono ?_
    rintro e w1 ⟨v1, rfl, rfl, hb1⟩
    rw [hwb.out] at hb1
    have HB1 := hidW hb1
    obtain ⟨i0, i1, i2, i3, hil⟩ := bx.out w1 hb1
    clear hb1 hUC
    go_wp2
    go_ret2
    exact ⟨_, rfl, hFF.out (by simp [own, zn]) _ HB1.out⟩
set_option maxHeartbeats 1000000 in
set_option maxRecDepth 20000 in
theorem rv3 (hU : UV T u) (n : Nat) (d : List UInt8) (l : List Itm) (hI : ∀ i ∈ l, VSp T u i) (w : World) (qd : Option Addr) (cd : Nat) (ql : Option Addr) (cl : Nat) (dp left : Nat) (hT : T w) (hM : InM w w.heap.size (.mk 3 n d l) (.slice qd d.length cd) (.slice ql l.length cl)) (hdp : dp ≤ 16) (hlf : left ≤ 4096) (hl1 : 1 ≤ left) :
    Calls Tryd.prog 30 #[itv 3 n qd d.length cd ql l.length cl, .int .i64 (dp : Int), .int .i64 (left : Int)] w (RetW (VaR u w (.mk 3 n d l) dp left)) := by
  unfold itv
  have hM0 := hM
  rw [InM] at hM0
  obtain ⟨hn64, hd62, hl60, hpd, q', c', hq', hin⟩ := hM0
  obtain ⟨rfl, rfl⟩ : ql = q' ∧ cl = c' := by simpa using hq'
  have hdc : d.length ≤ cd := by
    obtain ⟨qq, cc, e, hcc, -⟩ := hpd
    obtain ⟨-, rfl⟩ : qd = qq ∧ cd = cc := by simpa using e
    exact hcc
  obtain ⟨wb, hwb⟩ : ∃ wb, Hid (w.alloc (.cells #[.int .i64 3, .int .u64 (n : Int), .slice qd d.length cd, .slice ql l.length cl] 27) = wb) := ⟨_, rfl⟩
  have hb0 : Hid (Below w.heap.size w wb) := by rw [← hwb.out]; exact alloc_below _ _
  have h2 := hU.2.1 w hT
  have hTb : T wb := hU.1 w _ hT (fun j hj => hb0.out.block j (by omega))
  have hUC := hU.2.2 wb qd d.length cd d hTb (hpd.pb.below hb0.out) hdc hd62
  have bx : Hid (∀ w1, Below wb.heap.size wb w1 → w1.cell? ⟨w.heap.size, 0, none⟩ = some (.int .i64 3) ∧ w1.cell? ⟨w.heap.size, 1, none⟩ = some (.int .u64 (n : Int)) ∧ w1.cell? ⟨w.heap.size, 2, none⟩ = some (.slice qd d.length cd) ∧ w1.cell? ⟨w.heap.size, 3, none⟩ = some (.slice ql l.length cl) ∧ w.heap.size < w1.heap.size) := fun w1 hb => by
    have hz : ∀ j v, ([.int .i64 3, .int .u64 (n : Int), .slice qd d.length cd, .slice ql l.length cl] : List Value)[j]? = some v → w1.cell? ⟨w.heap.size, j, none⟩ = some v := fun j v hj => by
      have := al_c w #[.int .i64 3, .int .u64 (n : Int), .slice qd d.length cd, .slice ql l.length cl] 27 _ j v rfl (by simpa using hj)
      rw [hwb.out] at this
      rw [hb.cell (p := ⟨w.heap.size, j, none⟩) (World.block_lt_of_cell? _ _ this)]
      exact this
    exact ⟨hz 0 _ rfl, hz 1 _ rfl, hz 2 _ rfl, hz 3 _ rfl, World.block_lt_of_cell? _ _ (hz 0 _ rfl)⟩
  have g1 : ¬ (left : Int) < 1 := by omega
  have g1b : decide ((left : Int) < 1) = false := decide_eq_false g1
  have g2 : ¬ (16 : Int) < (dp : Int) := by omega
  have g2b : decide ((16 : Int) < (dp : Int)) = false := decide_eq_false g2
  have hFF : Hid (own u 3 n d l.length = false → ∀ w', Below wb.heap.size wb w' → VaR u w (.mk 3 n d l) dp left (.tuple #[.int .i64 0, .bool false]) w') := fun ho w' hw' => ⟨hb0.out.trans (hw'.mono hb0.out.size), Or.inr ⟨(fun hv => by rw [((vok_mk u 3 n d l dp left).1 hv).1] at ho; cases ho), rfl⟩⟩
  have hFL : Hid (¬ voks u l (dp + 1) (left - 1) → ∀ w', Below wb.heap.size wb w' → VaR u w (.mk 3 n d l) dp left (.tuple #[.int .i64 0, .bool false]) w') := fun ho w' hw' => ⟨hb0.out.trans (hw'.mono hb0.out.size), Or.inr ⟨(fun hv => ho ((vok_mk u 3 n d l dp left).1 hv).2.2.2), rfl⟩⟩
  have hTT : Hid (own u 3 n d l.length = true → ∀ w', VLo u wb l dp left l.length w' → VaR u w (.mk 3 n d l) dp left (.tuple #[.int .i64 ((1 + cnts l : Nat) : Int), .bool true]) w') := fun ho w' L => by
    have h3 := L.ok
    rw [List.take_length] at h3
    refine ⟨hb0.out.trans (L.bl.mono hb0.out.size), Or.inl ⟨(vok_mk u 3 n d l dp left).2 ⟨ho, hdp, hl1, h3⟩, ?_⟩⟩
    rw [cnt, Nat.add_comm]
  have HE : Hid (∀ w1 j, VLo u wb l dp left j w1 → ∀ i, l[j]? = some i → ∃ b off qd' dl' cd' ql' ml' cl', ql = some ⟨b, off, none⟩ ∧ b < w1.heap.size ∧ CeI w1 b (off + j * 4) i (.slice qd' dl' cd') (.slice ql' ml' cl') ∧ Calls Tryd.prog 30 #[itv i.k i.n qd' dl' cd' ql' ml' cl', .int .i64 ((dp + 1 : Nat) : Int), .int .i64 ((left - (1 + cnts (l.take j)) : Nat) : Int)] w1 (RetW (VaR u w1 i (dp + 1) (left - (1 + cnts (l.take j)))))) := fun w1 j L i hi => by
    rcases hin with hn | ⟨b, off, rfl, hbb, hL⟩
    · rw [hn] at hi; cases hi
    · have hbw : Below w.heap.size w w1 := hb0.out.trans (L.bl.mono hb0.out.size)
      obtain ⟨vd, vl, hC, hM2⟩ := InL.get l off j i (InL.at (fun k hk => hbw.block k hk) l b off hbb hL) hi
      obtain ⟨qd', dl', cd', ql', ml', cl', rfl, rfl⟩ := hM2.form
      exact ⟨b, off, qd', dl', cd', ql', ml', cl', rfl, Nat.lt_of_lt_of_le hbb hbw.size, hC, hI i (List.mem_of_getElem? hi) w1 qd' dl' cd' ql' ml' cl' (dp + 1) _ (hU.1 wb _ hTb (fun k hk => L.bl.block k (by have := hb0.out.size; omega))) (InM.mono hbw.size i _ _ hM2) (by omega) (by omega)⟩
  obtain ⟨dl, hdl⟩ : ∃ dl, Hid (d.length = dl) := ⟨_, rfl⟩
  obtain ⟨m, hm⟩ : ∃ m, Hid (l.length = m) := ⟨_, rfl⟩
  have hm60 : m ≤ 1152921504606846976 := by rw [← hm.out]; exact hl60
  rw [hdl.out] at hUC bx hwb ⊢
  rw [hm.out] at bx hwb ⊢
  rw [hm.out] at hFF hTT
  obtain ⟨bt, hbt⟩ : ∃ bt, Hid (u d = bt) := ⟨_, rfl⟩
  rw [hbt.out] at hUC
  clear hT hM hpd hin hq' hTb h2 hdc hd62 hl60 hI
  by_cases zn : n = 0
  · subst zn
    by_cases zdl : dl = 0
    · subst zdl
      by_cases zm : m = 0
      · subst zm
        cases bt with
        | true =>
          go_enter Tryd.func30, Tryd.ntmps30
          go_wp2_with fail
          rw [← hwb.out] at hUC
          refine hUC.mono ?_
          rintro e w1 ⟨v1, rfl, rfl, hb1⟩
          rw [hwb.out] at hb1
          have HB1 := hidW hb1
          obtain ⟨i0, i1, i2, i3, hil⟩ := bx.out w1 hb1
          clear hb1 hUC
          go_wp2
          go_loopg [11, 12] 1 (fun gk s11 s12 wr => s12 = .int .i64 0 ∧ s11 = .int .i64 1 ∧ gk = 1 ∧ w1 = wr)
          case atStart => exact ⟨rfl, rfl, rfl, rfl⟩
          case round =>
            obtain ⟨rfl, rfl, rfl, rfl⟩ := hrel
            have hl0 : l = [] := List.length_eq_zero_iff.1 hm.out
            subst hl0
            have HQ0 := hTT.out (by simp [own, hbt.out]) w1 ⟨Nat.le_refl _, HB1.out, ⟨rfl, fun h => absurd rfl h, by rw [List.take_nil, cnts]; omega⟩⟩
            rw [show 1 + cnts [] = 1 by rw [cnts]] at HQ0
            have HQ := hidW HQ0
            clear HQ0
            go_wp2
            go_ret2
            exact ⟨_, rfl, HQ.out⟩
        | false =>
          go_enter Tryd.func30, Tryd.ntmps30
          go_wp2_with fail
          rw [← hwb.out] at hUC
          refine hUC.mono ?_
          rintro e w1 ⟨v1, rfl, rfl, hb1⟩
          rw [hwb.out] at hb1
          have HB1 := hidW hb1
          obtain ⟨i0, i1, i2, i3, hil⟩ := bx.out w1 hb1
          clear hb1 hUC
          go_wp2
          go_ret2
          exact ⟨_, rfl, hFF.out (by simp [own, hbt.out]) _ HB1.out⟩
      · obtain ⟨em, fm⟩ := ne0 m zm
        go_enter Tryd.func30, Tryd.ntmps30
        go_wp2_with fail
        rw [← hwb.out] at hUC
        refine hUC.mono ?_
        rintro e w1 ⟨v1, rfl, rfl, hb1⟩
        rw [hwb.out] at hb1
        have HB1 := hidW hb1
        obtain ⟨i0, i1, i2, i3, hil⟩ := bx.out w1 hb1
        clear hb1 hUC
        go_wp2
        go_ret2
        exact ⟨_, rfl, hFF.out (by simp [own, zm]) _ HB1.out⟩
    · obtain ⟨edl, fdl⟩ := ne0 dl zdl
      by_cases zm : m = 0
      · subst zm
        cases bt with
        | true =>
          go_enter Tryd.func30, Tryd.ntmps30
          go_wp2_with fail
          rw [← hwb.out] at hUC
          refine hUC.mono ?_
          rintro e w1 ⟨v1, rfl, rfl, hb1⟩
          rw [hwb.out] at hb1
          have HB1 := hidW hb1
          obtain ⟨i0, i1, i2, i3, hil⟩ := bx.out w1 hb1
          clear hb1 hUC
          go_wp2
          go_loopg [11, 12] 1 (fun gk s11 s12 wr => s12 = .int .i64 0 ∧ s11 = .int .i64 1 ∧ gk = 1 ∧ w1 = wr)
          case atStart => exact ⟨rfl, rfl, rfl, rfl⟩
          case round =>
            obtain ⟨rfl, rfl, rfl, rfl⟩ := hrel
            have hl0 : l = [] := List.length_eq_zero_iff.1 hm.out
            subst hl0
            have HQ0 := hTT.out (by simp [own, hbt.out]) w1 ⟨Nat.le_refl _, HB1.out, ⟨rfl, fun h => absurd rfl h, by rw [List.take_nil, cnts]; omega⟩⟩
            rw [show 1 + cnts [] = 1 by rw [cnts]] at HQ0
            have HQ := hidW HQ0
            clear HQ0
            go_wp2
            go_ret2
            exact ⟨_, rfl, HQ.out⟩
        | false =>
          go_enter Tryd.func30, Tryd.ntmps30
          go_wp2_with fail
          rw [← hwb.out] at hUC
          refine hUC.mono ?_
          rintro e w1 ⟨v1, rfl, rfl, hb1⟩
          rw [hwb.out] at hb1
          have HB1 := hidW hb1
          obtain ⟨i0, i1, i2, i3, hil⟩ := bx.out w1 hb1
          clear hb1 hUC
          go_wp2
          go_ret2
          exact ⟨_, rfl, hFF.out (by simp [own, hbt.out]) _ HB1.out⟩
      · obtain ⟨em, fm⟩ := ne0 m zm
        go_enter Tryd.func30, Tryd.ntmps30
        go_wp2_with fail
        rw [← hwb.out] at hUC
        refine hUC.mono ?_
        rintro e w1 ⟨v1, rfl, rfl, hb1⟩
        rw [hwb.out] at hb1
        have HB1 := hidW hb1
        obtain ⟨i0, i1, i2, i3, hil⟩ := bx.out w1 hb1
        clear hb1 hUC
        go_wp2
        go_ret2
        exact ⟨_, rfl, hFF.out (by simp [own, zm]) _ HB1.out⟩
  · obtain ⟨en, fn⟩ := ne0 n zn
    go_enter Tryd.func30, Tryd.ntmps30
    go_wp2_with fail
    rw [← hwb.out] at hUC
    refine hUC.mono ?_
    rintro e w1 ⟨v1, rfl, rfl, hb1⟩
    rw [hwb.out] at hb1
    have HB1 := hidW hb1
    obtain ⟨i0, i1, i2, i3, hil⟩ := bx.out w1 hb1
    clear hb1 hUC
    go_wp2
    go_ret2
    exact ⟨_, rfl, hFF.out (by simp [own, zn]) _ HB1.out⟩
end WI
end Go.Proofs.YtfkgfcggcfkkiaaDoor
