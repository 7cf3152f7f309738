import Derived.Deep.LoopGhost
import Derived.Deep.RegionHeld3
import Derived.Lib.LazyBuf
import Derived.RangeFuncNested
import Derived.RangeFuncBound
import Derived.RangeFuncCalls
import Derived.RangeFuncLeaves
import Derived.Shelf.Abstract
import Derived.Shelf.RegionOpen
import Derived.WalkKit
import Derived.OwnWalkIn
import Derived.TacticsInMore
import Derived.LoopNIn
import Derived.LoopIn
import Derived.Deep.RegionWith
import Derived.Deep.CutRange
import Derived.Deep.DeepCutAuto
import Derived.Test.YtmepmoalhgehhaaGreatDoorks10
set_option linter.unusedVariables false
set_option linter.unusedSimpArgs false
namespace Go.Proofs.YtmepmoalhgehhaaGreatDoor.SP
open Go.RowKit Go.Sort Go.Deep
def encV (v : Value) : Value := v
theorem strm_size (l : List UInt8) (n : Nat) : (strmL l n).size = n := by rw [strmL, streamL_size]
/-- S4: what a log bears. -/
def newL (label : List UInt8) : Bs := tagL [108, 111, 103] [label]
def sayL (L : Bs) (label text : List UInt8) : Bs := tagL [115, 97, 121] [L.toList, label, text]
def askL (L : Bs) (label : List UInt8) (n : Nat) : Bs := strmL (tagL [97, 115, 107] [L.toList, label]).toList n
def askedL (L : Bs) (label : List UInt8) : Bs := tagL [97, 115, 107, 101, 100] [L.toList, label]
theorem newL_size (l : List UInt8) : (newL l).size = 32 := tagL_size _ _
theorem sayL_size (L : Bs) (l t : List UInt8) : (sayL L l t).size = 32 := tagL_size _ _
theorem askedL_size (L : Bs) (l : List UInt8) : (askedL L l).size = 32 := tagL_size _ _
theorem askL_size (L : Bs) (l : List UInt8) (n : Nat) : (askL L l n).size = n := strm_size _ _
/-- '[]byte(s)' as a part. -/
theorem conv_part (s : ByteArray) (w : World) (hs : s.size ≤ 1099511627776) :
    ∃ c w', (convert 9 24 (.string s)).run Tryz.prog w = .ok (.slice (some ⟨w.heap.size, 0, none⟩) s.size c) w' ∧ s.size ≤ c ∧ Holds encB w' w.heap.size 0 s.data ∧ PartOk w' (.slice (some ⟨w.heap.size, 0, none⟩) s.size c) s.data.toList ∧ Below w.heap.size w w' ∧ w.heap.size < w'.heap.size := by
  obtain ⟨v2, W2, hcv, own2, hb2, hv2⟩ := conv_bytes (w := w) (B := 0) s (Nat.zero_le _)
  rw [hv2] at hcv own2
  have hlt : w.heap.size < W2.heap.size := by
    obtain ⟨g, cap, cur, h1, _, h3, _⟩ := own2
    injection h1 with h1
    injection h1 with h1
    injection h1 with h1
    omega
  obtain ⟨hq0, hq1, hle2, hH2⟩ := own2.holds
  rw [← hq1] at hle2
  have hH2' : Holds encB W2 w.heap.size 0 s.data := by simpa using hH2
  have hle : s.size ≤ grownCap w s.size 0 5 := hle2
  exact ⟨_, W2, hcv, hle, hH2', ⟨_, w.heap.size, 0, _, s.data, rfl, rfl, hle, hs, Or.inr ⟨rfl, hH2'⟩⟩, hb2, hlt⟩
/-- A list of parts that has just been laid. -/
theorem parts_new (W : World) (vs : Array Value) (ps : List (List UInt8)) (t : TypeId) (hl : vs.size = ps.length) (h : ∀ j, j < ps.length → PartOk W vs[j]! ps[j]!) :
    PartsOk (W.alloc (.cells vs t)) (some ⟨W.heap.size, 0, none⟩) ps := by
  refine Or.inr ⟨W.heap.size, 0, rfl, fun j hj => ⟨vs[j]!, ?_, (h j hj).below ((Below.refl _ _).alloc (Nat.le_refl _) _)⟩⟩
  have e0 : vs.map encV = vs := by
    have : encV = id := rfl
    rw [this, Array.map_id]
  have := (Holds.new (enc := encV) W t vs j (by omega)).1
  rw [e0] at this
  exact this
theorem part_log {w : World} {b : Nat} {L : Bs} (hL : Holds encB w b 0 L) (hl : L.size = 32) : PartOk w (.slice (some ⟨b, 0, none⟩) 32 32) L.toList :=
  ⟨_, b, 0, 32, L, by rw [hl], rfl, by omega, by omega, Or.inr ⟨rfl, hL⟩⟩
end Go.Proofs.YtmepmoalhgehhaaGreatDoor.SP
namespace Go.Proofs.YtmepmoalhgehhaaGreatDoor.SP
open Go.RowKit Go.Sort Go.Deep
end Go.Proofs.YtmepmoalhgehhaaGreatDoor.SP
namespace Go.Proofs.YtmepmoalhgehhaaGreatDoor
open Go.RowKit Go.Sort
variable {P : Nat} [NeZero P]
/-- A list of arguments in a block. -/
def ArgsPts (w : World) (q : Option Addr) (n : Nat) (L : Nat → Bs) : Prop := 0 < n → ∃ gg, q = some ⟨gg, 0, none⟩ ∧ gg < w.heap.size ∧ ∀ j, j < n → ∃ v, w.cell? ⟨gg, j, none⟩ = some v ∧ Arg33 w v (L j)
def PtsR (P : Nat) [NeZero P] (w : World) (n : Nat) (L : Nat → Bs) (e : Value) (w' : World) : Prop :=
  (∃ k, w.heap.size ≤ k ∧ k < w'.heap.size ∧ e = .tuple #[.slice (some ⟨k, 0, none⟩) n n, .int .i64 0] ∧ ∀ j, j < n → ∃ p, rd P (L j) = some p ∧ w'.rangeAt k (8 * j) (ws p.1 ++ ws p.2)) ∨
  ((∃ j, j < n ∧ rd P (L j) = none) ∧ e = .tuple #[.slice none 0 0, .int .i64 4])
set_option maxHeartbeats 4000000 in
set_option maxRecDepth 100000 in
theorem Pts_c (F : Fld P) (n cap : Nat) (hn : n ≤ 512) (q : Option Addr) (L : Nat → Bs) (w : World) (hA : ArgsPts w q n L) : Calls Tryz.prog 66 #[.slice q n cap] w (Ret fun e w' => Below w.heap.size w w' ∧ PtsR P w n L e w') := by
  obtain ⟨C, hCl, hmk⟩ := mk112 n hn
  obtain ⟨i, -⟩ : ∃ i : Nat, i = 0 := ⟨_, rfl⟩
  obtain ⟨gg, -⟩ : ∃ i : Nat, i = 0 := ⟨_, rfl⟩
  obtain ⟨m, -⟩ : ∃ i : Nat, i = 0 := ⟨_, rfl⟩
  obtain ⟨v, -⟩ : ∃ v : Value, v = .bool true := ⟨_, rfl⟩
  obtain ⟨x, -⟩ : ∃ x : Fin P, x = 0 := ⟨_, rfl⟩
  obtain ⟨y, -⟩ : ∃ x : Fin P, x = 0 := ⟨_, rfl⟩
  obtain ⟨C2, -⟩ : ∃ c : List Value, c = C := ⟨_, rfl⟩
  go_enter Tryz.func66, Tryz.ntmps66
  refine RG.var1 (v0 := .slice q n cap) (n := 32) (by kernel_rfl) (by kernel_rfl) (by kernel_rfl) ?_
  intro a0 sl0 f0
  have hS0 := RG.St.begin w
  have M0 : RG.M w w.heap.size [] 32 [] [] [(0, (.v (.slice q n cap)))] a0 _ := ⟨hS0, sl0, ⟨f0, trivial⟩⟩
  repeat refine wp_seq ?_
  refine M0.u [.x 2 [] (.slice none 0 0), .x 3 [] (.int .i64 0)] [(0, (.v (.slice q n cap))), (2, (.v (.slice none 0 0))), (3, (.v (.int .i64 0)))] ⟨RG.st, RG.st, trivial⟩ ?_
  intro a1 w1 M1
  repeat refine wp_seq ?_
  refine M1.t [.x 9 [] (.slice q n cap), .x 10 [(9, 0)] (.int .i64 (n : Int)), ⟨some 11, [(10, 1)], (.s 0 n n), .make 0⟩, .s 4 [(11, 2)] (.s 0 n n)] [(2, C)] [] [C] [(0, (.v (.slice q n cap))), (2, (.v (.slice none 0 0))), (3, (.v (.int .i64 0))), (4, (.s 0 n n))] ⟨RG.st, RG.cert_one rfl 9 (.v (.slice q n cap)) (.int .i64 (n : Int)) rfl RG.sx (fun a w => by kernel_rfl) (fun μ w => by kernel_rfl), RG.cert_makes 0 rfl _ rfl 117 107 10 10 n rfl rfl RG.sx RG.sx (hmk), RG.st, trivial⟩ ?_
  intro j2 a2 w2 M2
  repeat refine wp_seq ?_
  refine M2.u [.x 12 [] (.slice q n cap), .x 13 [(12, 0)] (.int .i64 (n : Int)), .x 14 [] (.int .i64 0)] [(2, (.v (.slice none 0 0))), (3, (.v (.int .i64 0))), (4, (.s 0 n n)), (12, (.v (.slice q n cap))), (13, (.v (.int .i64 (n : Int)))), (14, (.v (.int .i64 0)))] ⟨RG.st, RG.cert_one rfl 12 (.v (.slice q n cap)) (.int .i64 (n : Int)) rfl RG.sx (fun a w => by kernel_rfl) (fun μ w => by kernel_rfl), RG.st, trivial⟩ ?_
  intro a3 w3 M3
  have f2_3 : a3.tmps[2]? = some (.slice none 0 0) := M3.at (s := (.v (.slice none 0 0)))
  have f3_3 : a3.tmps[3]? = some (.int .i64 0) := M3.at (s := (.v (.int .i64 0)))
  have f4_3 : a3.tmps[4]? = some (.slice (some ⟨j2, 0, none⟩) n n) := M3.at (s := (.s 0 n n))
  have f12_3 : a3.tmps[12]? = some (.slice q n cap) := M3.at (s := (.v (.slice q n cap)))
  have f13_3 : a3.tmps[13]? = some (.int .i64 (n : Int)) := M3.at (s := (.v (.int .i64 (n : Int))))
  have f14_3 : a3.tmps[14]? = some (.int .i64 0) := M3.at (s := (.v (.int .i64 0)))
  repeat refine wp_seq ?_
  refine wp_block ?_
  refine wp_loop_ghost (fun m a wr => ∃ (i : Nat) (C : List Value), i + m = n ∧ (∀ j, j < i → (rd P (L j)).isSome = true) ∧ Rows 8 n (fun j => match rd P (L j) with | some p => ws p.1 ++ ws p.2 | none => []) i C ∧ RG.Sl a 32 ∧ a.tmps[4]? = some (.slice (some ⟨j2, 0, none⟩) n n) ∧ a.tmps[12]? = some (.slice q n cap) ∧ a.tmps[13]? = some (.int .i64 (n : Int)) ∧ a.tmps[14]? = some (.int .i64 (i : Int)) ∧ RG.St w w.heap.size [] [C] [j2] wr) n ⟨0, C, by omega, fun j hj => by omega, ⟨hCl, fun j r hj => by omega⟩, M3.sl, f4_3, f12_3, f13_3, f14_3, M3.st⟩ ?_
  intro m' a wr
  rintro ⟨i, C, him, hall, hR, sl, p4, p12, p13, p14, hSp⟩
  generalize j2 = kt at p4 hSp
  by_cases hi : i < n
  · obtain ⟨gg, hqe, hgg, hc⟩ := hA (by omega)
    rw [hqe] at p12
    obtain ⟨v, hv, harg⟩ := hc i hi
    have hcell : w.cell? ⟨gg, 0 + i, none⟩ = some v := by rw [Nat.zero_add]; exact hv
    cases hrdv : rd P (L i) with
    | some pp =>
      obtain ⟨x, y⟩ := pp
      have hrd : ∀ w', RG.BelX w.heap.size [] w w' → Calls Tryz.prog 90 #[v] w' (Ret fun e w'' => Below w'.heap.size w' w'' ∧ e = .tuple #[pv x y, .bool true]) := fun w' hb => by
        have := readPoint_c F v (L i) w' (harg.below hb.below)
        rw [hrdv] at this
        exact this
      have hlen := hR.len
      have hoff : 0 + 8 * i + (ws x ++ ws y).length ≤ C.length := by rw [hlen]; show 0 + 8 * i + 8 ≤ 8 * n; omega
      obtain ⟨C2, hC2e⟩ : ∃ c, RG.rep C (0 + 8 * i) (ws x ++ ws y) = c := ⟨_, rfl⟩
      have hC2 := hC2e ▸ RG.rep_at hoff
      have hcl : C2.length = C.length := hC2e ▸ RG.rep_length hoff
      have hR2 : Rows 8 n (fun j => match rd P (L j) with | some p => ws p.1 ++ ws p.2 | none => []) (i + 1) C2 := by
        have := hR.next hi (by show List.length (match rd P (L i) with | some p => _ | none => _) = _; rw [hrdv]; rfl)
        rw [← hC2e]
        have e : (fun j => match rd P (L j) with | some p => ws p.1 ++ ws p.2 | none => []) i = (ws x ++ ws y) := by show (match rd P (L i) with | some p => _ | none => _) = _; rw [hrdv]
        rw [← e]
        exact this
      have M10 : RG.M w w.heap.size [] 32 [C] [kt] [(4, (.s 0 n n)), (12, (.v (.slice (some ⟨gg, 0, none⟩) n cap))), (13, (.v (.int .i64 (n : Int)))), (14, (.v (.int .i64 (i : Int))))] a _ := ⟨hSp, sl, ⟨p4, p12, p13, p14, trivial⟩⟩
      repeat refine wp_seq ?_
      refine M10.u [.x 15 [] (.bool true)] [(4, (.s 0 n n)), (12, (.v (.slice (some ⟨gg, 0, none⟩) n cap))), (13, (.v (.int .i64 (n : Int)))), (14, (.v (.int .i64 (i : Int)))), (15, (.v (.bool true)))] ⟨RG.cert_bin rfl .lss 3 3 14 13 (.int .i64 (i : Int)) (.int .i64 (n : Int)) (.bool true) rfl rfl RG.sx RG.sx (fun w => by kernel_rfl) (lssn_t hi), trivial⟩ ?_
      intro a11 w11 M11
      repeat refine wp_seq ?_
      refine wp_cond_true M11.ev ?_
      refine wp_skip ?_
      refine wp_seq ?_
      refine wp_block ?_
      repeat refine wp_seq ?_
      refine M11.u [.x 16 [] (.int .i64 (i : Int)), .x 17 [] (.pointer (some ⟨gg, (0 + i), none⟩)), .x 18 [(17, 1)] v, .x 5 [(16, 0)] (.int .i64 (i : Int)), .x 6 [(18, 2)] v] [(4, (.s 0 n n)), (5, (.v (.int .i64 (i : Int)))), (6, (.v v)), (12, (.v (.slice (some ⟨gg, 0, none⟩) n cap))), (13, (.v (.int .i64 (n : Int)))), (14, (.v (.int .i64 (i : Int))))] ⟨RG.st, RG.cert_idx rfl 33 12 14 rfl (.v (.slice (some ⟨gg, 0, none⟩) n cap)) (.int .i64 (i : Int)) RG.sx RG.sx (fun μ w => at46 _ 0 _ _ i hi w), RG.cert_load1B rfl gg (0 + i) hgg List.not_mem_nil 24 17 rfl v rfl RG.sx hcell u23, RG.st, RG.st, trivial⟩ ?_
      intro a12 w12 M12
      repeat refine wp_seq ?_
      refine M12.t [.x 20 [] v, .c 21 [(20, 0)] (.tuple #[(pv x y), (.bool true)]), .x 19 [(21, 1)] (.tuple #[(pv x y), (.bool true)]), .x 22 [(19, 2)] (pv x y), .x 23 [(19, 2)] (.bool true), .m 7 [] 1, .u [(7, 5), (22, 3)] 1, .x 8 [(23, 4)] (.bool true)] [(5, (RG.z 8))] [(1, 6, (ws x ++ (ws y)))] [C, (ws x ++ (ws y))] [(4, (.s 0 n n)), (5, (.v (.int .i64 (i : Int)))), (7, (.p 1 0)), (8, (.v (.bool true))), (12, (.v (.slice (some ⟨gg, 0, none⟩) n cap))), (13, (.v (.int .i64 (n : Int)))), (14, (.v (.int .i64 (i : Int))))] ⟨RG.st, RG.cert_callB1 rfl 90 20 v (.tuple #[(pv x y), (.bool true)]) rfl (fun a w => by kernel_rfl) RG.sx hrd, RG.st, RG.st, RG.st, RG.mk 1 107, RG.pt i109, RG.st, trivial⟩ ?_
      intro j13 a13 w13 M13
      repeat refine wp_seq ?_
      refine M13.u [.x 24 [] (.bool true), .x 25 [(24, 0)] (.bool false)] [(4, (.s 0 n n)), (5, (.v (.int .i64 (i : Int)))), (7, (.p 1 0)), (12, (.v (.slice (some ⟨gg, 0, none⟩) n cap))), (13, (.v (.int .i64 (n : Int)))), (14, (.v (.int .i64 (i : Int)))), (25, (.v (.bool false)))] ⟨RG.st, RG.st, trivial⟩ ?_
      intro a14 w14 M14
      repeat refine wp_seq ?_
      refine wp_cond_false M14.ev ?_
      refine wp_skip ?_
      repeat refine wp_seq ?_
      refine M14.tx [.s 26 [] (.s 0 n n), .x 27 [] (.int .i64 (i : Int)), .x 28 [] (pv x y), .s 29 [(26, 0), (27, 1)] (.p 0 (0 + 8 * i)), .u [(29, 3), (28, 2)] 0] [] [(0, 4, C2)] [C2, (ws x ++ (ws y))] [(4, (.s 0 n n)), (12, (.v (.slice (some ⟨gg, 0, none⟩) n cap))), (13, (.v (.int .i64 (n : Int)))), (14, (.v (.int .i64 (i : Int))))] (by kernel_rfl) (congrArg (fun n => [n]) hcl) ⟨RG.st, RG.st, RG.ld u109 i109, RG.cert_idx rfl 117 26 27 rfl (.s 0 n n) (.int .i64 (i : Int)) RG.sx RG.sx (fun μ w => at112 _ 0 _ _ i hi w), RG.cert_putAt 0 (0 + 8 * i) rfl _ rfl 107 (.tmp 29) (.tmp 28) (ws x ++ ws y) rfl rfl RG.sx RG.sx hoff hC2 i109 rfl, trivial⟩ ?_
      intro a15 w15 M15
      repeat refine wp_seq ?_
      refine M15.u [.x 30 [] (.int .i64 ((i + 1 : Nat) : Int)), .x 14 [(30, 0)] (.int .i64 ((i + 1 : Nat) : Int))] [(4, (.s 0 n n)), (12, (.v (.slice (some ⟨gg, 0, none⟩) n cap))), (13, (.v (.int .i64 (n : Int)))), (14, (.v (.int .i64 ((i + 1 : Nat) : Int))))] ⟨RG.cert_binc rfl .add 3 3 14 (.int .i64 (i : Int)) (.int .i64 1) (.int .i64 ((i + 1 : Nat) : Int)) rfl rfl RG.sx (fun w => by kernel_rfl) (addn i 1 (by omega) (by omega)), RG.st, trivial⟩ ?_
      intro a16 w16 M16
      have f4_16 : a16.tmps[4]? = some (.slice (some ⟨kt, 0, none⟩) n n) := M16.at (s := (.s 0 n n))
      have f12_16 : a16.tmps[12]? = some (.slice (some ⟨gg, 0, none⟩) n cap) := M16.at (s := (.v (.slice (some ⟨gg, 0, none⟩) n cap)))
      have f13_16 : a16.tmps[13]? = some (.int .i64 (n : Int)) := M16.at (s := (.v (.int .i64 (n : Int))))
      have f14_16 : a16.tmps[14]? = some (.int .i64 ((i + 1 : Nat) : Int)) := M16.at (s := (.v (.int .i64 ((i + 1 : Nat) : Int))))
      show ∃ n', _
      exact ⟨m' - 1, by omega, i + 1, C2, by omega, fun j hj => (by
        by_cases hji : j = i
        · rw [hji, hrdv]; rfl
        · exact hall j (by omega)), hR2, M16.sl, f4_16, (by rw [hqe]; exact f12_16), f13_16, f14_16, RG.St.init (cs := [C2]) (ks := [kt]) M16.st⟩
    | none =>
      have hrd : ∀ w', RG.BelX w.heap.size [] w w' → Calls Tryz.prog 90 #[v] w' (Ret fun e w'' => Below w'.heap.size w' w'' ∧ e = .tuple #[pv (0 : Fin P) 0, .bool false]) := fun w' hb => by
        have := readPoint_c F v (L i) w' (harg.below hb.below)
        rw [hrdv] at this
        exact this
      have M20 : RG.M w w.heap.size [] 32 [C] [kt] [(4, (.s 0 n n)), (12, (.v (.slice (some ⟨gg, 0, none⟩) n cap))), (13, (.v (.int .i64 (n : Int)))), (14, (.v (.int .i64 (i : Int))))] a _ := ⟨hSp, sl, ⟨p4, p12, p13, p14, trivial⟩⟩
      repeat refine wp_seq ?_
      refine M20.u [.x 15 [] (.bool true)] [(12, (.v (.slice (some ⟨gg, 0, none⟩) n cap))), (14, (.v (.int .i64 (i : Int)))), (15, (.v (.bool true)))] ⟨RG.cert_bin rfl .lss 3 3 14 13 (.int .i64 (i : Int)) (.int .i64 (n : Int)) (.bool true) rfl rfl RG.sx RG.sx (fun w => by kernel_rfl) (lssn_t hi), trivial⟩ ?_
      intro a21 w21 M21
      repeat refine wp_seq ?_
      refine wp_cond_true M21.ev ?_
      refine wp_skip ?_
      refine wp_seq ?_
      refine wp_block ?_
      repeat refine wp_seq ?_
      refine M21.u [.x 16 [] (.int .i64 (i : Int)), .x 17 [] (.pointer (some ⟨gg, (0 + i), none⟩)), .x 18 [(17, 1)] v, .x 5 [(16, 0)] (.int .i64 (i : Int)), .x 6 [(18, 2)] v] [(6, (.v v))] ⟨RG.st, RG.cert_idx rfl 33 12 14 rfl (.v (.slice (some ⟨gg, 0, none⟩) n cap)) (.int .i64 (i : Int)) RG.sx RG.sx (fun μ w => at46 _ 0 _ _ i hi w), RG.cert_load1B rfl gg (0 + i) hgg List.not_mem_nil 24 17 rfl v rfl RG.sx hcell u23, RG.st, RG.st, trivial⟩ ?_
      intro a22 w22 M22
      repeat refine wp_seq ?_
      refine M22.t [.x 20 [] v, .c 21 [(20, 0)] (.tuple #[(pv (0 : Fin P) (0 : Fin P)), (.bool false)]), .x 19 [(21, 1)] (.tuple #[(pv (0 : Fin P) (0 : Fin P)), (.bool false)]), .x 22 [(19, 2)] (pv (0 : Fin P) (0 : Fin P)), .x 23 [(19, 2)] (.bool false), .m 7 [] 1, .u [(7, 5), (22, 3)] 1, .x 8 [(23, 4)] (.bool false)] [(5, (RG.z 8))] [(1, 6, (ws (0 : Fin P) ++ (ws (0 : Fin P))))] [C, (ws (0 : Fin P) ++ (ws (0 : Fin P)))] [(8, (.v (.bool false)))] ⟨RG.st, RG.cert_callB1 rfl 90 20 v (.tuple #[(pv (0 : Fin P) (0 : Fin P)), (.bool false)]) rfl (fun a w => by kernel_rfl) RG.sx hrd, RG.st, RG.st, RG.st, RG.mk 1 107, RG.pt i109, RG.st, trivial⟩ ?_
      intro j23 a23 w23 M23
      repeat refine wp_seq ?_
      refine M23.u [.x 24 [] (.bool false), .x 25 [(24, 0)] (.bool true)] [(25, (.v (.bool true)))] ⟨RG.st, RG.st, trivial⟩ ?_
      intro a24 w24 M24
      repeat refine wp_seq ?_
      refine wp_cond_true M24.ev ?_
      repeat refine wp_seq ?_
      refine M24.u [.x 2 [] (.slice none 0 0), .x 3 [] (.int .i64 4)] [(2, (.v (.slice none 0 0))), (3, (.v (.int .i64 4)))] ⟨RG.st, RG.st, trivial⟩ ?_
      intro a25 w25 M25
      refine wp_ret ?_
      refine bodyPost_ret (v := .tuple #[.slice none 0 0, .int .i64 4]) (RG.results_tt 2 3 rfl _ _ (M25.at (s := (.v (.slice none 0 0)))) (M25.at (s := (.v (.int .i64 4))))) M25.sl.defers ?_
      exact ⟨_, rfl, M25.st.bel.below, Or.inr ⟨⟨i, hi, hrdv⟩, rfl⟩⟩
  · have hiN : i = n := by omega
    have M30 : RG.M w w.heap.size [] 32 [C] [kt] [(4, (.s 0 n n)), (12, (.v (.slice q n cap))), (13, (.v (.int .i64 (n : Int)))), (14, (.v (.int .i64 (i : Int))))] a _ := ⟨hSp, sl, ⟨p4, p12, p13, p14, trivial⟩⟩
    repeat refine wp_seq ?_
    refine M30.u [.x 15 [] (.bool false)] [(4, (.s 0 n n)), (15, (.v (.bool false)))] ⟨RG.cert_bin rfl .lss 3 3 14 13 (.int .i64 (i : Int)) (.int .i64 (n : Int)) (.bool false) rfl rfl RG.sx RG.sx (fun w => by kernel_rfl) (lssn_f hi), trivial⟩ ?_
    intro a31 w31 M31
    repeat refine wp_seq ?_
    refine wp_cond_false M31.ev ?_
    refine wp_exit ?_
    dsimp only [Exit.then, Exit.inBlock]
    rw [if_pos rfl]
    repeat refine wp_seq ?_
    refine M31.u [.s 31 [] (.s 0 n n), .s 2 [(31, 0)] (.s 0 n n), .x 3 [] (.int .i64 0)] [(2, (.s 0 n n)), (3, (.v (.int .i64 0)))] ⟨RG.st, RG.st, RG.st, trivial⟩ ?_
    intro a32 w32 M32
    refine wp_ret ?_
    refine bodyPost_ret (v := .tuple #[.slice (some ⟨kt, 0, none⟩) n n, .int .i64 0]) (RG.results_tt 2 3 rfl _ _ (M32.at (s := (.s 0 n n))) (M32.at (s := (.v (.int .i64 0))))) M32.sl.defers ?_
    refine ⟨_, rfl, M32.st.bel.below, Or.inl ⟨kt, ?_, ?_, rfl, fun j hj => ?_⟩⟩
    · exact (M32.st.has 0 C rfl).2.2.2.elim id (fun h => absurd h List.not_mem_nil)
    · exact (M32.st.has 0 C rfl).2.2.1
    · obtain ⟨pp, hpp⟩ := Option.isSome_iff_exists.1 (hall j (by omega))
      refine ⟨pp, hpp, RG.range_sub (M32.st.has 0 C rfl).1 (fun r hr => ?_)⟩
      have h5 := hR.row j r (by omega) hr
      rw [h5]
      show (match rd P (L j) with | some p => _ | none => _)[r]? = _
      rw [hpp]
/-- A list of arguments in a block. -/
def ArgsScs (w : World) (q : Option Addr) (n : Nat) (L : Nat → Bs) : Prop := 0 < n → ∃ gg, q = some ⟨gg, 0, none⟩ ∧ gg < w.heap.size ∧ ∀ j, j < n → ∃ v, w.cell? ⟨gg, j, none⟩ = some v ∧ Arg w v (L j)
def ScsR (N : Nat) (w : World) (n : Nat) (L : Nat → Bs) (e : Value) (w' : World) : Prop :=
  (∃ k, w.heap.size ≤ k ∧ k < w'.heap.size ∧ e = .tuple #[.slice (some ⟨k, 0, none⟩) n n, .int .i64 0] ∧ ∀ j, j < n → ∃ p, rq N (L j) = some p ∧ w'.rangeAt k (4 * j) (wn p)) ∨
  ((∃ j, j < n ∧ rq N (L j) = none) ∧ e = .tuple #[.slice none 0 0, .int .i64 3])
set_option maxHeartbeats 4000000 in
set_option maxRecDepth 100000 in
theorem Scs_c {N : Nat} (hG : Gap 4624529908474429119 4994812053365940164 1 N) (n cap : Nat) (hn : n ≤ 512) (q : Option Addr) (L : Nat → Bs) (w : World) (hA : ArgsScs w q n L) : Calls Tryz.prog 65 #[.slice q n cap] w (Ret fun e w' => Below w.heap.size w w' ∧ ScsR N w n L e w') := by
  obtain ⟨C, hCl, hmk⟩ := mk82 n hn
  obtain ⟨i, -⟩ : ∃ i : Nat, i = 0 := ⟨_, rfl⟩
  obtain ⟨gg, -⟩ : ∃ i : Nat, i = 0 := ⟨_, rfl⟩
  obtain ⟨m, -⟩ : ∃ i : Nat, i = 0 := ⟨_, rfl⟩
  obtain ⟨v, -⟩ : ∃ v : Value, v = .bool true := ⟨_, rfl⟩
  obtain ⟨C2, -⟩ : ∃ c : List Value, c = C := ⟨_, rfl⟩
  go_enter Tryz.func65, Tryz.ntmps65
  refine RG.var1 (v0 := .slice q n cap) (n := 33) (by kernel_rfl) (by kernel_rfl) (by kernel_rfl) ?_
  intro a0 sl0 f0
  have hS0 := RG.St.begin w
  have M0 : RG.M w w.heap.size [] 33 [] [] [(0, (.v (.slice q n cap)))] a0 _ := ⟨hS0, sl0, ⟨f0, trivial⟩⟩
  repeat refine wp_seq ?_
  refine M0.u [.x 2 [] (.slice none 0 0), .x 3 [] (.int .i64 0)] [(0, (.v (.slice q n cap))), (2, (.v (.slice none 0 0))), (3, (.v (.int .i64 0)))] ⟨RG.st, RG.st, trivial⟩ ?_
  intro a1 w1 M1
  repeat refine wp_seq ?_
  refine M1.t [.x 9 [] (.slice q n cap), .x 10 [(9, 0)] (.int .i64 (n : Int)), ⟨some 11, [(10, 1)], (.s 0 n n), .make 0⟩, .s 4 [(11, 2)] (.s 0 n n)] [(2, C)] [] [C] [(0, (.v (.slice q n cap))), (2, (.v (.slice none 0 0))), (3, (.v (.int .i64 0))), (4, (.s 0 n n))] ⟨RG.st, RG.cert_one rfl 9 (.v (.slice q n cap)) (.int .i64 (n : Int)) rfl RG.sx (fun a w => by kernel_rfl) (fun μ w => by kernel_rfl), RG.cert_makes 0 rfl _ rfl 114 45 10 10 n rfl rfl RG.sx RG.sx (hmk), RG.st, trivial⟩ ?_
  intro j2 a2 w2 M2
  repeat refine wp_seq ?_
  refine M2.u [.x 12 [] (.slice q n cap), .x 13 [(12, 0)] (.int .i64 (n : Int)), .x 14 [] (.int .i64 0)] [(2, (.v (.slice none 0 0))), (3, (.v (.int .i64 0))), (4, (.s 0 n n)), (12, (.v (.slice q n cap))), (13, (.v (.int .i64 (n : Int)))), (14, (.v (.int .i64 0)))] ⟨RG.st, RG.cert_one rfl 12 (.v (.slice q n cap)) (.int .i64 (n : Int)) rfl RG.sx (fun a w => by kernel_rfl) (fun μ w => by kernel_rfl), RG.st, trivial⟩ ?_
  intro a3 w3 M3
  have f2_3 : a3.tmps[2]? = some (.slice none 0 0) := M3.at (s := (.v (.slice none 0 0)))
  have f3_3 : a3.tmps[3]? = some (.int .i64 0) := M3.at (s := (.v (.int .i64 0)))
  have f4_3 : a3.tmps[4]? = some (.slice (some ⟨j2, 0, none⟩) n n) := M3.at (s := (.s 0 n n))
  have f12_3 : a3.tmps[12]? = some (.slice q n cap) := M3.at (s := (.v (.slice q n cap)))
  have f13_3 : a3.tmps[13]? = some (.int .i64 (n : Int)) := M3.at (s := (.v (.int .i64 (n : Int))))
  have f14_3 : a3.tmps[14]? = some (.int .i64 0) := M3.at (s := (.v (.int .i64 0)))
  repeat refine wp_seq ?_
  refine wp_block ?_
  refine wp_loop_ghost (fun m a wr => ∃ (i : Nat) (C : List Value), i + m = n ∧ (∀ j, j < i → (rq N (L j)).isSome = true) ∧ Rows 4 n (fun j => match rq N (L j) with | some k => wn k | none => []) i C ∧ RG.Sl a 33 ∧ a.tmps[4]? = some (.slice (some ⟨j2, 0, none⟩) n n) ∧ a.tmps[12]? = some (.slice q n cap) ∧ a.tmps[13]? = some (.int .i64 (n : Int)) ∧ a.tmps[14]? = some (.int .i64 (i : Int)) ∧ RG.St w w.heap.size [] [C] [j2] wr) n ⟨0, C, by omega, fun j hj => by omega, ⟨hCl, fun j r hj => by omega⟩, M3.sl, f4_3, f12_3, f13_3, f14_3, M3.st⟩ ?_
  intro m' a wr
  rintro ⟨i, C, him, hall, hR, sl, p4, p12, p13, p14, hSp⟩
  generalize j2 = kt at p4 hSp
  by_cases hi : i < n
  · obtain ⟨gg, hqe, hgg, hc⟩ := hA (by omega)
    rw [hqe] at p12
    obtain ⟨v, hv, harg⟩ := hc i hi
    have hcell : w.cell? ⟨gg, 0 + i, none⟩ = some v := by rw [Nat.zero_add]; exact hv
    cases hrdv : rq N (L i) with
    | some pp =>
      obtain ⟨m, rfl⟩ : ∃ m, m = pp := ⟨_, rfl⟩
      have hrd : ∀ w', RG.BelX w.heap.size [] w w' → Calls Tryz.prog 89 #[gv1, v] w' (Ret fun e w'' => Below w'.heap.size w' w'' ∧ e = .tuple #[nv m, .bool true]) := fun w' hb => by
        have := readQ_c hG v (L i) w' (harg.below hb.below)
        rw [hrdv] at this
        exact this
      have hlen := hR.len
      have hoff : 0 + 4 * i + (wn m).length ≤ C.length := by rw [hlen]; show 0 + 4 * i + 4 ≤ 4 * n; omega
      obtain ⟨C2, hC2e⟩ : ∃ c, RG.rep C (0 + 4 * i) (wn m) = c := ⟨_, rfl⟩
      have hC2 := hC2e ▸ RG.rep_at hoff
      have hcl : C2.length = C.length := hC2e ▸ RG.rep_length hoff
      have hR2 : Rows 4 n (fun j => match rq N (L j) with | some k => wn k | none => []) (i + 1) C2 := by
        have := hR.next hi (by show List.length (match rq N (L i) with | some p => _ | none => _) = _; rw [hrdv]; rfl)
        rw [← hC2e]
        have e : (fun j => match rq N (L j) with | some k => wn k | none => []) i = (wn m) := by show (match rq N (L i) with | some p => _ | none => _) = _; rw [hrdv]
        rw [← e]
        exact this
      have M10 : RG.M w w.heap.size [] 33 [C] [kt] [(4, (.s 0 n n)), (12, (.v (.slice (some ⟨gg, 0, none⟩) n cap))), (13, (.v (.int .i64 (n : Int)))), (14, (.v (.int .i64 (i : Int))))] a _ := ⟨hSp, sl, ⟨p4, p12, p13, p14, trivial⟩⟩
      repeat refine wp_seq ?_
      refine M10.u [.x 15 [] (.bool true)] [(4, (.s 0 n n)), (12, (.v (.slice (some ⟨gg, 0, none⟩) n cap))), (13, (.v (.int .i64 (n : Int)))), (14, (.v (.int .i64 (i : Int)))), (15, (.v (.bool true)))] ⟨RG.cert_bin rfl .lss 3 3 14 13 (.int .i64 (i : Int)) (.int .i64 (n : Int)) (.bool true) rfl rfl RG.sx RG.sx (fun w => by kernel_rfl) (lssn_t hi), trivial⟩ ?_
      intro a11 w11 M11
      repeat refine wp_seq ?_
      refine wp_cond_true M11.ev ?_
      refine wp_skip ?_
      refine wp_seq ?_
      refine wp_block ?_
      repeat refine wp_seq ?_
      refine M11.u [.x 16 [] (.int .i64 (i : Int)), .x 17 [] (.pointer (some ⟨gg, (0 + i), none⟩)), .x 18 [(17, 1)] v, .x 5 [(16, 0)] (.int .i64 (i : Int)), .x 6 [(18, 2)] v] [(4, (.s 0 n n)), (5, (.v (.int .i64 (i : Int)))), (6, (.v v)), (12, (.v (.slice (some ⟨gg, 0, none⟩) n cap))), (13, (.v (.int .i64 (n : Int)))), (14, (.v (.int .i64 (i : Int))))] ⟨RG.st, RG.cert_idx rfl 33 12 14 rfl (.v (.slice (some ⟨gg, 0, none⟩) n cap)) (.int .i64 (i : Int)) RG.sx RG.sx (fun μ w => at46 _ 0 _ _ i hi w), RG.cert_load1B rfl gg (0 + i) hgg List.not_mem_nil 24 17 rfl v rfl RG.sx hcell u23, RG.st, RG.st, trivial⟩ ?_
      intro a12 w12 M12
      repeat refine wp_seq ?_
      refine M12.t [.c 20 [] gv1, .x 21 [] v, .c 22 [(20, 0), (21, 1)] (.tuple #[(nv m), (.bool true)]), .x 19 [(22, 2)] (.tuple #[(nv m), (.bool true)]), .x 23 [(19, 3)] (nv m), .x 24 [(19, 3)] (.bool true), .m 7 [] 1, .u [(7, 6), (23, 4)] 1, .x 8 [(24, 5)] (.bool true)] [(6, (RG.z 4))] [(1, 7, (wn m))] [C, (wn m)] [(4, (.s 0 n n)), (5, (.v (.int .i64 (i : Int)))), (7, (.p 1 0)), (8, (.v (.bool true))), (12, (.v (.slice (some ⟨gg, 0, none⟩) n cap))), (13, (.v (.int .i64 (n : Int)))), (14, (.v (.int .i64 (i : Int))))] ⟨RG.cl (Scalars_c), RG.st, RG.cert_callB2 rfl 89 20 21 gv1 v (.tuple #[(nv m), (.bool true)]) rfl (fun a w => by kernel_rfl) RG.sx RG.sx hrd, RG.st, RG.st, RG.st, RG.mk 1 45, RG.pt i85, RG.st, trivial⟩ ?_
      intro j13 a13 w13 M13
      repeat refine wp_seq ?_
      refine M13.u [.x 25 [] (.bool true), .x 26 [(25, 0)] (.bool false)] [(4, (.s 0 n n)), (5, (.v (.int .i64 (i : Int)))), (7, (.p 1 0)), (12, (.v (.slice (some ⟨gg, 0, none⟩) n cap))), (13, (.v (.int .i64 (n : Int)))), (14, (.v (.int .i64 (i : Int)))), (26, (.v (.bool false)))] ⟨RG.st, RG.st, trivial⟩ ?_
      intro a14 w14 M14
      repeat refine wp_seq ?_
      refine wp_cond_false M14.ev ?_
      refine wp_skip ?_
      repeat refine wp_seq ?_
      refine M14.tx [.s 27 [] (.s 0 n n), .x 28 [] (.int .i64 (i : Int)), .x 29 [] (nv m), .s 30 [(27, 0), (28, 1)] (.p 0 (0 + 4 * i)), .u [(30, 3), (29, 2)] 0] [] [(0, 4, C2)] [C2, (wn m)] [(4, (.s 0 n n)), (12, (.v (.slice (some ⟨gg, 0, none⟩) n cap))), (13, (.v (.int .i64 (n : Int)))), (14, (.v (.int .i64 (i : Int))))] (by kernel_rfl) (congrArg (fun n => [n]) hcl) ⟨RG.st, RG.st, RG.ld u85 i85, RG.cert_idx rfl 114 27 28 rfl (.s 0 n n) (.int .i64 (i : Int)) RG.sx RG.sx (fun μ w => at82 _ 0 _ _ i hi w), RG.cert_putAt 0 (0 + 4 * i) rfl _ rfl 45 (.tmp 30) (.tmp 29) (wn m) rfl rfl RG.sx RG.sx hoff hC2 i85 rfl, trivial⟩ ?_
      intro a15 w15 M15
      repeat refine wp_seq ?_
      refine M15.u [.x 31 [] (.int .i64 ((i + 1 : Nat) : Int)), .x 14 [(31, 0)] (.int .i64 ((i + 1 : Nat) : Int))] [(4, (.s 0 n n)), (12, (.v (.slice (some ⟨gg, 0, none⟩) n cap))), (13, (.v (.int .i64 (n : Int)))), (14, (.v (.int .i64 ((i + 1 : Nat) : Int))))] ⟨RG.cert_binc rfl .add 3 3 14 (.int .i64 (i : Int)) (.int .i64 1) (.int .i64 ((i + 1 : Nat) : Int)) rfl rfl RG.sx (fun w => by kernel_rfl) (addn i 1 (by omega) (by omega)), RG.st, trivial⟩ ?_
      intro a16 w16 M16
      have f4_16 : a16.tmps[4]? = some (.slice (some ⟨kt, 0, none⟩) n n) := M16.at (s := (.s 0 n n))
      have f12_16 : a16.tmps[12]? = some (.slice (some ⟨gg, 0, none⟩) n cap) := M16.at (s := (.v (.slice (some ⟨gg, 0, none⟩) n cap)))
      have f13_16 : a16.tmps[13]? = some (.int .i64 (n : Int)) := M16.at (s := (.v (.int .i64 (n : Int))))
      have f14_16 : a16.tmps[14]? = some (.int .i64 ((i + 1 : Nat) : Int)) := M16.at (s := (.v (.int .i64 ((i + 1 : Nat) : Int))))
      show ∃ n', _
      exact ⟨m' - 1, by omega, i + 1, C2, by omega, fun j hj => (by
        by_cases hji : j = i
        · rw [hji, hrdv]; rfl
        · exact hall j (by omega)), hR2, M16.sl, f4_16, (by rw [hqe]; exact f12_16), f13_16, f14_16, RG.St.init (cs := [C2]) (ks := [kt]) M16.st⟩
    | none =>
      have hrd : ∀ w', RG.BelX w.heap.size [] w w' → Calls Tryz.prog 89 #[gv1, v] w' (Ret fun e w'' => Below w'.heap.size w' w'' ∧ e = .tuple #[nv 0, .bool false]) := fun w' hb => by
        have := readQ_c hG v (L i) w' (harg.below hb.below)
        rw [hrdv] at this
        exact this
      have M20 : RG.M w w.heap.size [] 33 [C] [kt] [(4, (.s 0 n n)), (12, (.v (.slice (some ⟨gg, 0, none⟩) n cap))), (13, (.v (.int .i64 (n : Int)))), (14, (.v (.int .i64 (i : Int))))] a _ := ⟨hSp, sl, ⟨p4, p12, p13, p14, trivial⟩⟩
      repeat refine wp_seq ?_
      refine M20.u [.x 15 [] (.bool true)] [(12, (.v (.slice (some ⟨gg, 0, none⟩) n cap))), (14, (.v (.int .i64 (i : Int)))), (15, (.v (.bool true)))] ⟨RG.cert_bin rfl .lss 3 3 14 13 (.int .i64 (i : Int)) (.int .i64 (n : Int)) (.bool true) rfl rfl RG.sx RG.sx (fun w => by kernel_rfl) (lssn_t hi), trivial⟩ ?_
      intro a21 w21 M21
      repeat refine wp_seq ?_
      refine wp_cond_true M21.ev ?_
      refine wp_skip ?_
      refine wp_seq ?_
      refine wp_block ?_
      repeat refine wp_seq ?_
      refine M21.u [.x 16 [] (.int .i64 (i : Int)), .x 17 [] (.pointer (some ⟨gg, (0 + i), none⟩)), .x 18 [(17, 1)] v, .x 5 [(16, 0)] (.int .i64 (i : Int)), .x 6 [(18, 2)] v] [(6, (.v v))] ⟨RG.st, RG.cert_idx rfl 33 12 14 rfl (.v (.slice (some ⟨gg, 0, none⟩) n cap)) (.int .i64 (i : Int)) RG.sx RG.sx (fun μ w => at46 _ 0 _ _ i hi w), RG.cert_load1B rfl gg (0 + i) hgg List.not_mem_nil 24 17 rfl v rfl RG.sx hcell u23, RG.st, RG.st, trivial⟩ ?_
      intro a22 w22 M22
      repeat refine wp_seq ?_
      refine M22.t [.c 20 [] gv1, .x 21 [] v, .c 22 [(20, 0), (21, 1)] (.tuple #[(nv 0), (.bool false)]), .x 19 [(22, 2)] (.tuple #[(nv 0), (.bool false)]), .x 23 [(19, 3)] (nv 0), .x 24 [(19, 3)] (.bool false), .m 7 [] 1, .u [(7, 6), (23, 4)] 1, .x 8 [(24, 5)] (.bool false)] [(6, (RG.z 4))] [(1, 7, (wn 0))] [C, (wn 0)] [(8, (.v (.bool false)))] ⟨RG.cl (Scalars_c), RG.st, RG.cert_callB2 rfl 89 20 21 gv1 v (.tuple #[(nv 0), (.bool false)]) rfl (fun a w => by kernel_rfl) RG.sx RG.sx hrd, RG.st, RG.st, RG.st, RG.mk 1 45, RG.pt i85, RG.st, trivial⟩ ?_
      intro j23 a23 w23 M23
      repeat refine wp_seq ?_
      refine M23.u [.x 25 [] (.bool false), .x 26 [(25, 0)] (.bool true)] [(26, (.v (.bool true)))] ⟨RG.st, RG.st, trivial⟩ ?_
      intro a24 w24 M24
      repeat refine wp_seq ?_
      refine wp_cond_true M24.ev ?_
      repeat refine wp_seq ?_
      refine M24.u [.x 2 [] (.slice none 0 0), .x 3 [] (.int .i64 3)] [(2, (.v (.slice none 0 0))), (3, (.v (.int .i64 3)))] ⟨RG.st, RG.st, trivial⟩ ?_
      intro a25 w25 M25
      refine wp_ret ?_
      refine bodyPost_ret (v := .tuple #[.slice none 0 0, .int .i64 3]) (RG.results_tt 2 3 rfl _ _ (M25.at (s := (.v (.slice none 0 0)))) (M25.at (s := (.v (.int .i64 3))))) M25.sl.defers ?_
      exact ⟨_, rfl, M25.st.bel.below, Or.inr ⟨⟨i, hi, hrdv⟩, rfl⟩⟩
  · have hiN : i = n := by omega
    have M30 : RG.M w w.heap.size [] 33 [C] [kt] [(4, (.s 0 n n)), (12, (.v (.slice q n cap))), (13, (.v (.int .i64 (n : Int)))), (14, (.v (.int .i64 (i : Int))))] a _ := ⟨hSp, sl, ⟨p4, p12, p13, p14, trivial⟩⟩
    repeat refine wp_seq ?_
    refine M30.u [.x 15 [] (.bool false)] [(4, (.s 0 n n)), (15, (.v (.bool false)))] ⟨RG.cert_bin rfl .lss 3 3 14 13 (.int .i64 (i : Int)) (.int .i64 (n : Int)) (.bool false) rfl rfl RG.sx RG.sx (fun w => by kernel_rfl) (lssn_f hi), trivial⟩ ?_
    intro a31 w31 M31
    repeat refine wp_seq ?_
    refine wp_cond_false M31.ev ?_
    refine wp_exit ?_
    dsimp only [Exit.then, Exit.inBlock]
    rw [if_pos rfl]
    repeat refine wp_seq ?_
    refine M31.u [.s 32 [] (.s 0 n n), .s 2 [(32, 0)] (.s 0 n n), .x 3 [] (.int .i64 0)] [(2, (.s 0 n n)), (3, (.v (.int .i64 0)))] ⟨RG.st, RG.st, RG.st, trivial⟩ ?_
    intro a32 w32 M32
    refine wp_ret ?_
    refine bodyPost_ret (v := .tuple #[.slice (some ⟨kt, 0, none⟩) n n, .int .i64 0]) (RG.results_tt 2 3 rfl _ _ (M32.at (s := (.s 0 n n))) (M32.at (s := (.v (.int .i64 0))))) M32.sl.defers ?_
    refine ⟨_, rfl, M32.st.bel.below, Or.inl ⟨kt, ?_, ?_, rfl, fun j hj => ?_⟩⟩
    · exact (M32.st.has 0 C rfl).2.2.2.elim id (fun h => absurd h List.not_mem_nil)
    · exact (M32.st.has 0 C rfl).2.2.1
    · obtain ⟨pp, hpp⟩ := Option.isSome_iff_exists.1 (hall j (by omega))
      refine ⟨pp, hpp, RG.range_sub (M32.st.has 0 C rfl).1 (fun r hr => ?_)⟩
      have h5 := hR.row j r (by omega) hr
      rw [h5]
      show (match rq N (L j) with | some p => _ | none => _)[r]? = _
      rw [hpp]
end Go.Proofs.YtmepmoalhgehhaaGreatDoor
set_option linter.unusedVariables false
set_option linter.unusedSimpArgs false
namespace Go.Proofs.YtmepmoalhgehhaaGreatDoor
open Go.RowKit Go.Sort Go.Deep
variable {P : Nat} [NeZero P]
omit [NeZero P] in
theorem words2 (x y : Fin P) : ∃ a b c d p q r s : Nat, pv x y = .agg #[.int .u64 (a : Int), .int .u64 (b : Int), .int .u64 (c : Int), .int .u64 (d : Int), .int .u64 (p : Int), .int .u64 (q : Int), .int .u64 (r : Int), .int .u64 (s : Int)] ∧ ws x ++ ws y = [.int .u64 (a : Int), .int .u64 (b : Int), .int .u64 (c : Int), .int .u64 (d : Int), .int .u64 (p : Int), .int .u64 (q : Int), .int .u64 (r : Int), .int .u64 (s : Int)] :=
  ⟨_, _, _, _, _, _, _, _, rfl, rfl⟩
theorem cells8 {w : World} {k o : Nat} {a b c d p q r s : Nat} (h : w.rangeAt k o [.int .u64 (a : Int), .int .u64 (b : Int), .int .u64 (c : Int), .int .u64 (d : Int), .int .u64 (p : Int), .int .u64 (q : Int), .int .u64 (r : Int), .int .u64 (s : Int)]) :
    w.cell? ⟨k, o, none⟩ = some (.int .u64 (a : Int)) ∧ w.cell? ⟨k, o + 1, none⟩ = some (.int .u64 (b : Int)) ∧ w.cell? ⟨k, o + 2, none⟩ = some (.int .u64 (c : Int)) ∧ w.cell? ⟨k, o + 3, none⟩ = some (.int .u64 (d : Int)) ∧
    w.cell? ⟨k, o + 4, none⟩ = some (.int .u64 (p : Int)) ∧ w.cell? ⟨k, o + 5, none⟩ = some (.int .u64 (q : Int)) ∧ w.cell? ⟨k, o + 6, none⟩ = some (.int .u64 (r : Int)) ∧ w.cell? ⟨k, o + 7, none⟩ = some (.int .u64 (s : Int)) :=
  ⟨h 0 _ rfl, h 1 _ rfl, h 2 _ rfl, h 3 _ rfl, h 4 _ rfl, h 5 _ rfl, h 6 _ rfl, h 7 _ rfl⟩
/-- What a call of the face answers: an errno, or a point's bytes in new memory. -/
def OutE (c : Int) (e : Value) : Prop := e = .tuple #[.slice none 0 0, .int .i64 c]
def OutP (w : World) (T : Bs) (e : Value) (w' : World) : Prop := ∃ g cap, e = .tuple #[.slice (some ⟨g, 0, none⟩) 33 cap, .int .i64 0] ∧ 33 ≤ cap ∧ w.heap.size ≤ g ∧ g < w'.heap.size ∧ Holds encB w' g 0 T
def MinusR (P : Nat) [NeZero P] (w : World) (bs : Bs) (e : Value) (w' : World) : Prop := match rd P bs with
  | none => OutE 4 e
  | some p => OutP w (by33 p.1 (0 - p.2)) e w'
theorem one_args {w : World} {v : Value} {bs : Bs} (T : TypeId) (h : Arg33 w v bs) : ArgsPts (w.alloc (.cells #[v] T)) (some ⟨w.heap.size, 0, none⟩) 1 (fun _ => bs) := fun _ =>
  ⟨w.heap.size, rfl, by rw [World.size_alloc]; omega, fun j hj => by
    obtain rfl : j = 0 := by omega
    exact ⟨v, by rw [World.cell?_alloc_new]; rfl, h.below (below1 w _)⟩⟩
/-- Two points in a block. -/
structure PS (w : World) (k : Nat) (a1 b1 c1 d1 p1 q1 r1 s1 a2 b2 c2 d2 p2 q2 r2 s2 : Nat) (W : World) : Prop where
  r1 : W.rangeAt k 0 [.int .u64 (a1 : Int), .int .u64 (b1 : Int), .int .u64 (c1 : Int), .int .u64 (d1 : Int), .int .u64 (p1 : Int), .int .u64 (q1 : Int), .int .u64 (r1 : Int), .int .u64 (s1 : Int)]
  r2 : W.rangeAt k 8 [.int .u64 (a2 : Int), .int .u64 (b2 : Int), .int .u64 (c2 : Int), .int .u64 (d2 : Int), .int .u64 (p2 : Int), .int .u64 (q2 : Int), .int .u64 (r2 : Int), .int .u64 (s2 : Int)]
  lt : k < W.heap.size
  bl : Below w.heap.size w W
theorem PS.call {w W W' : World} {k a1 b1 c1 d1 p1 q1 r1 s1 a2 b2 c2 d2 p2 q2 r2 s2 : Nat} (h : PS w k a1 b1 c1 d1 p1 q1 r1 s1 a2 b2 c2 d2 p2 q2 r2 s2 W) (hb : Below W.heap.size W W') : PS w k a1 b1 c1 d1 p1 q1 r1 s1 a2 b2 c2 d2 p2 q2 r2 s2 W' :=
  ⟨RG.range_below h.r1 hb h.lt, RG.range_below h.r2 hb h.lt, Nat.lt_of_lt_of_le h.lt hb.size, h.bl.trans (hb.mono h.bl.size)⟩
theorem PS.drew {w W : World} {k a1 b1 c1 d1 p1 q1 r1 s1 a2 b2 c2 d2 p2 q2 r2 s2 : Nat} (h : PS w k a1 b1 c1 d1 p1 q1 r1 s1 a2 b2 c2 d2 p2 q2 r2 s2 W) : PS w k a1 b1 c1 d1 p1 q1 r1 s1 a2 b2 c2 d2 p2 q2 r2 s2 W.drew := ⟨h.r1, h.r2, h.lt, h.bl.drew⟩
theorem psS {w W : World} {k a1 b1 c1 d1 p1 q1 r1 s1 a2 b2 c2 d2 p2 q2 r2 s2 : Nat} (h : PS w k a1 b1 c1 d1 p1 q1 r1 s1 a2 b2 c2 d2 p2 q2 r2 s2 W) : W.cell? ⟨k, 0, none⟩ = some (.int .u64 (a1 : Int)) ∧ W.cell? ⟨k, 1, none⟩ = some (.int .u64 (b1 : Int)) ∧ W.cell? ⟨k, 2, none⟩ = some (.int .u64 (c1 : Int)) ∧ W.cell? ⟨k, 3, none⟩ = some (.int .u64 (d1 : Int)) ∧ W.cell? ⟨k, 4, none⟩ = some (.int .u64 (p1 : Int)) ∧ W.cell? ⟨k, 5, none⟩ = some (.int .u64 (q1 : Int)) ∧ W.cell? ⟨k, 6, none⟩ = some (.int .u64 (r1 : Int)) ∧ W.cell? ⟨k, 7, none⟩ = some (.int .u64 (s1 : Int)) ∧ W.cell? ⟨k, 8, none⟩ = some (.int .u64 (a2 : Int)) ∧ W.cell? ⟨k, 9, none⟩ = some (.int .u64 (b2 : Int)) ∧ W.cell? ⟨k, 10, none⟩ = some (.int .u64 (c2 : Int)) ∧ W.cell? ⟨k, 11, none⟩ = some (.int .u64 (d2 : Int)) ∧ W.cell? ⟨k, 12, none⟩ = some (.int .u64 (p2 : Int)) ∧ W.cell? ⟨k, 13, none⟩ = some (.int .u64 (q2 : Int)) ∧ W.cell? ⟨k, 14, none⟩ = some (.int .u64 (r2 : Int)) ∧ W.cell? ⟨k, 15, none⟩ = some (.int .u64 (s2 : Int)) ∧ PS w k a1 b1 c1 d1 p1 q1 r1 s1 a2 b2 c2 d2 p2 q2 r2 s2 W :=
  let ⟨x0, x1, x2, x3, x4, x5, x6, x7⟩ := cells8 h.r1
  let ⟨y0, y1, y2, y3, y4, y5, y6, y7⟩ := cells8 h.r2
  ⟨x0, x1, x2, x3, x4, x5, x6, x7, y0, y1, y2, y3, y4, y5, y6, y7, h⟩
theorem two_args {w : World} {v u : Value} {az bs : Bs} (T : TypeId) (h : Arg33 w v az) (h' : Arg33 w u bs) : ArgsPts (w.alloc (.cells #[v, u] T)) (some ⟨w.heap.size, 0, none⟩) 2 (fun j => if j = 0 then az else bs) := fun _ =>
  ⟨w.heap.size, rfl, by rw [World.size_alloc]; omega, fun j hj => by
    by_cases h0 : j = 0
    · subst h0
      exact ⟨v, by rw [World.cell?_alloc_new]; rfl, h.below (below1 w _)⟩
    · obtain rfl : j = 1 := by omega
      exact ⟨u, by rw [World.cell?_alloc_new]; rfl, h'.below (below1 w _)⟩⟩
/-- The point that Plus answers. -/
def plP (p q : Fin P × Fin P) : T3 P := plJ (raJ p.1 p.2) (raJ q.1 q.2)
def ptP (s : T3 P) : Fin P × Fin P := (s.1 * (EC.inv s.2.2 * EC.inv s.2.2), s.2.1 * (EC.inv s.2.2 * EC.inv s.2.2) * EC.inv s.2.2)
def PlusR (P : Nat) [NeZero P] (w : World) (az bs : Bs) (e : Value) (w' : World) : Prop := match rd P az, rd P bs with
  | some p, some q => OutP w (by33 (ptP (plP p q)).1 (ptP (plP p q)).2) e w'
  | _, _ => OutE 4 e
end Go.Proofs.YtmepmoalhgehhaaGreatDoor
namespace Go.Proofs.YtmepmoalhgehhaaGreatDoor
open Go.RowKit Go.Sort Go.Deep
variable {P : Nat} [NeZero P]
theorem cell_below {w w1 : World} {k j : Nat} {v : Value} (h : w.cell? ⟨k, j, none⟩ = some v) (hb : Below w.heap.size w w1) (hk : k < w.heap.size) : w1.cell? ⟨k, j, none⟩ = some v := by
  have h1 : w.rangeAt k j [v] := fun i u hu => by
    cases i with
    | zero =>
      obtain rfl : v = u := Option.some.inj hu
      exact h
    | succ i => exact absurd hu (by simp)
  exact RG.range_below h1 hb hk 0 v rfl
theorem ArgsPts.below {w w1 : World} {q : Option Addr} {n : Nat} {L : Nat → Bs} (h : ArgsPts w q n L) (hb : Below w.heap.size w w1) : ArgsPts w1 q n L := fun hn => by
  obtain ⟨gg, hq, hlt, hc⟩ := h hn
  refine ⟨gg, hq, Nat.lt_of_lt_of_le hlt hb.size, fun j hj => ?_⟩
  obtain ⟨v, hv, ha⟩ := hc j hj
  exact ⟨v, cell_below hv hb hlt, ha.below hb⟩
theorem ArgsScs.below {w w1 : World} {q : Option Addr} {n : Nat} {L : Nat → Bs} (h : ArgsScs w q n L) (hb : Below w.heap.size w w1) : ArgsScs w1 q n L := fun hn => by
  obtain ⟨gg, hq, hlt, hc⟩ := h hn
  refine ⟨gg, hq, Nat.lt_of_lt_of_le hlt hb.size, fun j hj => ?_⟩
  obtain ⟨v, hv, ha⟩ := hc j hj
  exact ⟨v, cell_below hv hb hlt, ha.below hb⟩
/-- What Sum answers. -/
def SumR (P : Nat) [NeZero P] (N : Nat) (w : World) (n a : Nat) (L M : Nat → Bs) (e : Value) (w' : World) : Prop :=
  (n ≠ a ∧ OutE 2 e) ∨ (n = a ∧ 512 < n ∧ OutE 1 e) ∨ (n = a ∧ n ≤ 512 ∧ (((∃ j, j < n ∧ rq N (L j) = none) ∧ OutE 3 e) ∨
    ∃ ns : Nat → Nat, (∀ j, j < n → rq N (L j) = some (ns j)) ∧ (((∃ j, j < n ∧ rd P (M j) = none) ∧ OutE 4 e) ∨
      ∃ xs ys : Nat → Fin P, (∀ j, j < n → rd P (M j) = some (xs j, ys j)) ∧ OutP w (by33 (ptP (sumJ ns xs ys n 257)).1 (ptP (sumJ ns xs ys n 257)).2) e w')))
theorem choose_nat {A : Type} [Inhabited A] {n : Nat} {p : Nat → A → Prop} (h : ∀ j, j < n → ∃ a, p j a) : ∃ f : Nat → A, ∀ j, j < n → p j (f j) :=
  ⟨fun j => if hj : j < n then (h j hj).choose else default, fun j hj => by
    show p j (if hj : j < n then (h j hj).choose else default)
    rw [dif_pos hj]
    exact (h j hj).choose_spec⟩
theorem rq_top {N : Nat} (hN : N ≤ top) {bs : Bs} {m : Nat} (h : rq N bs = some m) : m < top := by
  unfold rq at h
  split at h
  · rename_i h1
    obtain rfl : beV bs.toList = m := Option.some.inj h
    exact Nat.lt_of_lt_of_le h1.2 hN
  · exact absurd h (by simp)
set_option maxHeartbeats 4000000 in
set_option maxRecDepth 100000 in
theorem gSum_c {N : Nat} (C : Fld P) (hG : Gap 4624529908474429119 4994812053365940164 1 N) (hN : N ≤ top) (q q' : Option Addr) (n cap a cap' : Nat) (L M : Nat → Bs) (w : World) (hL : ArgsScs w q n L) (hM : ArgsPts w q' a M) :
    Calls Tryz.prog 37 #[.slice q n cap, .slice q' a cap'] w (Ret fun e w' => Below w.heap.size w w' ∧ SumR P N w n a L M e w') := by
  have HL : Hid (ArgsScs w q n L) := hL
  have HM : Hid (ArgsPts w q' a M) := hM
  clear hL hM
  by_cases hna : n = a
  · subst hna
    by_cases h512 : 512 < n
    · go_enter Tryz.func37, Tryz.ntmps37
      go_wp2
      go_ret2
      exact ⟨_, rfl, RowKit.Below.refl _ _, Or.inr (Or.inl ⟨rfl, h512, rfl⟩)⟩
    · have H5 : n ≤ 512 := by omega
      go_enter Tryz.func37, Tryz.ntmps37
      go_wp2_with fail
      refine (Scs_c hG n cap H5 q L w HL.out).mono ?_
      rintro e w1 ⟨v, rfl, hb1, ⟨k, hk1, hk2, rfl, hrow⟩ | ⟨hno, rfl⟩⟩
      · obtain ⟨ns, hns⟩ := choose_nat hrow
        have HB : Hid (Below w.heap.size w w1) := hb1
        have HS : Hid (k < w1.heap.size ∧ ∀ j, j < n → w1.rangeAt k (4 * j) (wn (ns j))) := ⟨hk2, fun j hj => (hns j hj).2⟩
        have HN : Hid (∀ j, j < n → rq N (L j) = some (ns j)) := fun j hj => (hns j hj).1
        clear hrow hns hk1 hk2 hb1
        go_wp2_with fail
        refine (Pts_c C n cap' H5 q' M w1 (HM.out.below HB.out)).mono ?_
        rintro e w2 ⟨v, rfl, hb2, ⟨k', hk1, hk2, rfl, hrow⟩ | ⟨hno, rfl⟩⟩
        · obtain ⟨ps, hps⟩ := choose_nat hrow
          have HB2 : Hid (Below w.heap.size w w2) := HB.out.trans (hb2.mono HB.out.size)
          have HS2 : Hid (k < w2.heap.size ∧ ∀ j, j < n → w2.rangeAt k (4 * j) (wn (ns j))) := ⟨Nat.lt_of_lt_of_le HS.out.1 hb2.size, fun j hj => RG.range_below (HS.out.2 j hj) hb2 HS.out.1⟩
          have HP : Hid (k' < w2.heap.size ∧ ∀ j, j < n → w2.rangeAt k' (8 * j) (ws (ps j).1 ++ ws (ps j).2)) := ⟨hk2, fun j hj => (hps j hj).2⟩
          have HM2 : Hid (∀ j, j < n → rd P (M j) = some ((ps j).1, (ps j).2)) := fun j hj => (hps j hj).1
          clear hrow hps hk1 hk2 hb2
          have hBt : ∀ w, Calls Tryz.prog 61 #[pv (ptP (sumJ ns (fun j => (ps j).1) (fun j => (ps j).2) n 257)).1 (ptP (sumJ ns (fun j => (ps j).1) (fun j => (ps j).2) n 257)).2] w (Ret fun e w' => Below w.heap.size w w' ∧ BytesR w (by33 (ptP (sumJ ns (fun j => (ps j).1) (fun j => (ps j).2) n 257)).1 (ptP (sumJ ns (fun j => (ps j).1) (fun j => (ps j).2) n 257)).2) e w') := bytes_c C _ _
          have hS : Calls Tryz.prog 67 #[.slice (some ⟨k, 0, none⟩) n n, .slice (some ⟨k', 0, none⟩) n n] w2 (Ret fun e w' => Below w2.heap.size w2 w' ∧ e = pv (ptP (sumJ ns (fun j => (ps j).1) (fun j => (ps j).2) n 257)).1 (ptP (sumJ ns (fun j => (ps j).1) (fun j => (ps j).2) n 257)).2) := by
            refine (sums_c C n H5 ns (fun j => (ps j).1) (fun j => (ps j).2) (fun i hi => rq_top hN (HN.out i hi)) k k' w2 HS2.out.1 HP.out.1 HS2.out.2 HP.out.2).mono ?_
            rintro e w' ⟨v, rfl, hb, s, rfl, rfl⟩
            exact ⟨_, rfl, hb, rfl⟩
          generalize hz : ptP (sumJ ns (fun j => (ps j).1) (fun j => (ps j).2) n 257) = z at hS hBt
          have HZ : Hid (ptP (sumJ ns (fun j => (ps j).1) (fun j => (ps j).2) n 257) = z) := hz
          clear hz
          generalize pv z.1 z.2 = v4 at hS hBt
          go_wp2_with fail
          refine hS.mono ?_
          rintro e w3 ⟨v, rfl, hb3, rfl⟩
          have HB3 : Hid (Below w.heap.size w w3) := HB2.out.trans (hb3.mono HB2.out.size)
          clear hb3
          go_wp2_with fail
          refine (hBt _).mono ?_
          rintro e w4 ⟨v, rfl, hb4, g, cap3, rfl, hc3, hg3, hlt3, hH3⟩
          have HB4 : Hid (Below w.heap.size w w4) := HB3.out.trans (hb4.mono HB3.out.size)
          have HO : Hid (OutP w (by33 z.1 z.2) (.tuple #[.slice (some ⟨g, 0, none⟩) 33 cap3, .int .i64 0]) w4) := ⟨g, cap3, rfl, hc3, Nat.le_trans HB3.out.size hg3, hlt3, hH3⟩
          clear hb4 hH3
          go_wp2
          go_ret2
          refine ⟨_, rfl, HB4.out, Or.inr (Or.inr ⟨rfl, H5, Or.inr ⟨ns, HN.out, Or.inr ⟨_, _, HM2.out, ?_⟩⟩⟩)⟩
          rw [HZ.out]
          exact HO.out
        · have HB2 : Hid (Below w.heap.size w w2) := HB.out.trans (hb2.mono HB.out.size)
          have HO : Hid (∃ j, j < n ∧ rd P (M j) = none) := hno
          clear hb2 hno
          go_wp2
          go_ret2
          exact ⟨_, rfl, HB2.out, Or.inr (Or.inr ⟨rfl, H5, Or.inr ⟨ns, HN.out, Or.inl ⟨HO.out, rfl⟩⟩⟩)⟩
      · have HB : Hid (Below w.heap.size w w1) := hb1
        have HO : Hid (∃ j, j < n ∧ rq N (L j) = none) := hno
        clear hb1 hno
        go_wp2
        go_ret2
        exact ⟨_, rfl, HB.out, Or.inr (Or.inr ⟨rfl, H5, Or.inl ⟨HO.out, rfl⟩⟩)⟩
  · go_enter Tryz.func37, Tryz.ntmps37
    go_wp2
    go_ret2
    exact ⟨_, rfl, RowKit.Below.refl _ _, Or.inl ⟨hna, rfl⟩⟩
theorem one_scs {w : World} {v : Value} {bs : Bs} (T : TypeId) (h : Arg w v bs) : ArgsScs (w.alloc (.cells #[v] T)) (some ⟨w.heap.size, 0, none⟩) 1 (fun _ => bs) := fun _ =>
  ⟨w.heap.size, rfl, by rw [World.size_alloc]; omega, fun j hj => by
    obtain rfl : j = 0 := by omega
    exact ⟨v, by rw [World.cell?_alloc_new]; rfl, h.below (below1 w _)⟩⟩
theorem inn_one (ns : Nat → Nat) (xs ys : Nat → Fin P) (st : T3 P) (p : Nat) : inn ns xs ys st p 1 = inn (fun _ => ns 0) (fun _ => xs 0) (fun _ => ys 0) st p 1 := rfl
theorem sumJ_one (ns : Nat → Nat) (xs ys : Nat → Fin P) : ∀ m, sumJ ns xs ys 1 m = sumJ (fun _ => ns 0) (fun _ => xs 0) (fun _ => ys 0) 1 m
  | 0 => rfl
  | m + 1 => by
    unfold sumJ
    rw [sumJ_one ns xs ys m, inn_one]
/-- What Times answers. -/
def TimesR (P : Nat) [NeZero P] (N : Nat) (w : World) (az bs : Bs) (e : Value) (w' : World) : Prop := match rq N az, rd P bs with
  | none, _ => OutE 3 e
  | some _, none => OutE 4 e
  | some n, some p => OutP w (by33 (ptP (sumJ (fun _ => n) (fun _ => p.1) (fun _ => p.2) 1 257)).1 (ptP (sumJ (fun _ => n) (fun _ => p.1) (fun _ => p.2) 1 257)).2) e w'
end Go.Proofs.YtmepmoalhgehhaaGreatDoor
namespace Go.Proofs.YtmepmoalhgehhaaGreatDoor
open Go.RowKit Go.Sort Go.Deep
variable {P : Nat} [NeZero P]
/-- 33 zeros. -/
def zs33 : Bs := Array.replicate 33 0
theorem sq_mod (r d : Nat) : d * d % (r + d) = r * r % (r + d) := by
  have h : d * d + (r + d) * r = r * r + (r + d) * d := by
    rw [Nat.add_mul, Nat.add_mul, Nat.mul_comm d r]
    omega
  have h1 := congrArg (· % (r + d)) h
  simp only [Nat.add_mul_mod_self_left] at h1
  exact h1
theorem rt_sq {m y : Fin P} (h : rt m = some y) : y * y = m := by
  have h0 := rt_yes h
  unfold rt at h
  rw [if_pos h0] at h
  obtain rfl := Option.some.inj h
  have hP := Nat.pos_of_neZero P
  have hr : m.val ^ (P / 4 + 1) % P < P := Nat.mod_lt _ hP
  generalize m.val ^ (P / 4 + 1) % P = r at h0 hr
  apply Fin.ext
  rw [Fin.val_mul]
  show (even P r % P) * (even P r % P) % P = m.val
  rw [Nat.mod_eq_of_lt (even_lt hP hr), ← h0]
  unfold even
  split
  · have h2 := sq_mod r (P - r)
    rw [show r + (P - r) = P by omega] at h2
    exact h2
  · rfl
theorem zero33_iff {bs : Bs} (hs : bs.size = 33) : Zero33 bs ↔ bs = zs33 := by
  constructor
  · intro h
    apply Array.ext
    · rw [hs]; rfl
    · intro i h1 h2
      have := h i (List.mem_range.2 (by omega))
      rw [getElem!_pos bs i h1] at this
      have h3 : bs[i].toNat = 0 := by
        have h4 : ub bs[i] = (bs[i].toNat : Int) := rfl
        rw [h4] at this
        omega
      have h5 : (zs33)[i] = 0 := by
        have h6 : (Array.replicate 33 (0 : UInt8))[i]'h2 = 0 := Array.getElem_replicate _
        exact h6
      rw [h5]
      exact UInt8.toNat_inj.1 h3
  · rintro rfl i hi
    have hi := List.mem_range.1 hi
    unfold zs33
    rw [getElem!_pos _ i (by rw [Array.size_replicate]; exact hi), Array.getElem_replicate]
    rfl
theorem on_of {x y : Fin P} (h : y * y = x * x * x + 7) : EC.On (.some (x, y) : EC.Pt P) := by
  show y ^ 2 = x ^ 3 + 7
  grobner
theorem on_neg {x y : Fin P} (h : y * y = x * x * x + 7) : EC.On (.some (x, 0 - y) : EC.Pt P) := by
  show (0 - y) ^ 2 = x ^ 3 + 7
  grobner
/-- A point's bytes. -/
def wr : EC.Pt P → Bs
  | none => zs33
  | some (x, y) => #[mark y.val] ++ bx x.val
theorem by33_wr (C : Fld P) {x y : Fin P} {p : EC.Pt P} (h : EC.Pair x y p) (ho : EC.On p) : by33 x y = wr p := by
  unfold by33
  match p, h, ho with
  | none, h, _ => rw [if_pos (show x = 0 ∧ y = 0 from h)]; rfl
  | some (a, b), h, ho =>
    obtain ⟨rfl, rfl⟩ := h
    rw [if_neg (fun e => C.cur.y_ne ho e.2)]
    rfl
/-- The point that a pair is. -/
def pt (p : Fin P × Fin P) : EC.Pt P := if p.1 = 0 ∧ p.2 = 0 then none else some p
theorem pair_pt (C : Fld P) {x y : Fin P} {q : EC.Pt P} (h : EC.Pair x y q) (ho : EC.On q) : q = pt (x, y) := by
  unfold pt
  match q, h, ho with
  | none, h, _ => rw [if_pos (show x = 0 ∧ y = 0 from h)]
  | some (a, b), h, ho =>
    obtain ⟨rfl, rfl⟩ := h
    rw [if_neg (fun e => C.cur.y_ne ho e.2)]
theorem rd_on (C : Fld P) {bs : Bs} {p : Fin P × Fin P} (h : rd P bs = some p) : EC.Pair p.1 p.2 (pt p) ∧ EC.On (pt p) := by
  have key : ∃ q : EC.Pt P, EC.Pair p.1 p.2 q ∧ EC.On q := by
    unfold rd at h
    split at h
    · split at h
      · obtain rfl := Option.some.inj h
        exact ⟨none, ⟨rfl, rfl⟩, EC.none_on⟩
      · split at h
        · split at h
          · obtain ⟨y, hr, rfl⟩ := Option.map_eq_some_iff.1 h
            have hsq := rt_sq hr
            refine ⟨some (rdx P bs, if ub bs[0]! = 3 then 0 - y else y), ⟨rfl, rfl⟩, ?_⟩
            split
            · exact on_neg hsq
            · exact on_of hsq
          · cases h
        · cases h
    · cases h
  obtain ⟨q, h1, h2⟩ := key
  have := pair_pt C h1 h2
  rw [show pt p = q from this.symm]
  exact ⟨h1, h2⟩
/-- What Plus answers, by the points. -/
def PlusQ (P : Nat) [NeZero P] (w : World) (az bs : Bs) (e : Value) (w' : World) : Prop := match rd P az, rd P bs with
  | some p, some q => OutP w (wr (EC.add (pt p) (pt q))) e w'
  | _, _ => OutE 4 e
theorem PlusR.q (C : Fld P) {w w' : World} {az bs : Bs} {e : Value} (h : PlusR P w az bs e w') : PlusQ P w az bs e w' := by
  unfold PlusR at h
  unfold PlusQ
  cases h1 : rd P az with
  | none => rw [h1] at h; exact h
  | some p =>
    cases h2 : rd P bs with
    | none => rw [h1, h2] at h; exact h
    | some q =>
      rw [h1, h2] at h
      have hp := rd_on C h1
      have hq := rd_on C h2
      have hJ := (raJ_J C hp.1 hp.2).plus C (raJ_J C hq.1 hq.2)
      have e1 := by33_wr C (hJ.pair C) hJ.2
      dsimp only at h ⊢
      rw [← e1]
      exact h
def MinusQ (P : Nat) [NeZero P] (w : World) (bs : Bs) (e : Value) (w' : World) : Prop := match rd P bs with
  | some p => OutP w (wr (EC.neg (pt p))) e w'
  | none => OutE 4 e
theorem MinusR.q (C : Fld P) {w w' : World} {bs : Bs} {e : Value} (h : MinusR P w bs e w') : MinusQ P w bs e w' := by
  unfold MinusR at h
  unfold MinusQ
  cases h1 : rd P bs with
  | none => rw [h1] at h; exact h
  | some p =>
    rw [h1] at h
    have hp := rd_on C h1
    have hn : EC.Pair p.1 (0 - p.2) (EC.neg (pt p)) := by
      generalize pt p = q at hp
      match q, hp.1 with
      | none, h => exact ⟨h.1, by rw [show p.2 = 0 from h.2]; grobner⟩
      | some (a, b), h => exact ⟨h.1, by rw [show p.2 = b from h.2]; grobner⟩
    have e1 := by33_wr C hn (EC.neg_on hp.2)
    dsimp only at h ⊢
    rw [← e1]
    exact h
def TimesQ (P : Nat) [NeZero P] (N : Nat) (w : World) (az bs : Bs) (e : Value) (w' : World) : Prop := match rq N az, rd P bs with
  | none, _ => OutE 3 e
  | some _, none => OutE 4 e
  | some n, some p => OutP w (wr (EC.mul n (pt p))) e w'
theorem TimesR.q (C : Fld P) {N : Nat} (hN : N ≤ top) {w w' : World} {az bs : Bs} {e : Value} (h : TimesR P N w az bs e w') : TimesQ P N w az bs e w' := by
  unfold TimesR at h
  unfold TimesQ
  cases h1 : rq N az with
  | none => rw [h1] at h; exact h
  | some n =>
    cases h2 : rd P bs with
    | none => rw [h1, h2] at h; exact h
    | some p =>
      rw [h1, h2] at h
      have hp := rd_on C h2
      have hJ := sumJ_all C (N := 1) (ns := fun _ => n) (xs := fun _ => p.1) (ys := fun _ => p.2) (p := fun _ => pt p) (fun _ _ => rq_top hN h1) (fun _ _ => hp.1) (fun _ _ => hp.2)
      have e1 := by33_wr C (hJ.pair C) hJ.2
      have e2 : EC.tot (fun _ => pt p) 1 (fun _ => (n : Int)) = EC.mul n (pt p) := by
        rfl
      rw [e2] at e1
      dsimp only at h ⊢
      rw [← e1]
      exact h
omit [NeZero P] in
theorem wr_size (p : EC.Pt P) : (wr p).size = 33 := by
  match p with
  | none => rfl
  | some (x, y) =>
    show (#[mark y.val] ++ bx x.val).size = 33
    rw [Array.size_append, bx_size]
    rfl
end Go.Proofs.YtmepmoalhgehhaaGreatDoor
namespace Go.Proofs.YtmepmoalhgehhaaGreatDoor
theorem add_assoc_mod (a b c P : Nat) : ((a + b) % P + c) % P = (a + (b + c) % P) % P := by
  rw [Nat.add_mod ((a + b) % P), Nat.mod_mod, ← Nat.add_mod, Nat.add_mod a ((b + c) % P), Nat.mod_mod, ← Nat.add_mod, Nat.add_assoc]
theorem mul_assoc_mod (a b c P : Nat) : a * b % P * c % P = a * (b * c % P) % P := by
  rw [Nat.mul_mod (a * b % P), Nat.mod_mod, ← Nat.mul_mod, Nat.mul_mod a (b * c % P), Nat.mod_mod, ← Nat.mul_mod, Nat.mul_assoc]
theorem distrib_mod (a b c P : Nat) : a * ((b + c) % P) % P = (a * b % P + a * c % P) % P := by
  rw [Nat.mul_mod, Nat.mod_mod, ← Nat.mul_mod, Nat.mul_add, ← Nat.add_mod]
theorem add_sub_mod {a b P : Nat} (ha : a < P) (hb : b < P) : ((a + b) % P + P - b) % P = a := by
  by_cases h : a + b < P
  · rw [Nat.mod_eq_of_lt h, show a + b + P - b = a + P by omega, Nat.add_mod_right, Nat.mod_eq_of_lt ha]
  · have e : (a + b) % P = a + b - P := by rw [Nat.mod_eq_sub_mod (by omega), Nat.mod_eq_of_lt (by omega)]
    rw [e, show a + b - P + P - b = a by omega, Nat.mod_eq_of_lt ha]
theorem sub_self_mod {a P : Nat} (ha : a < P) : (a + P - a) % P = 0 := by
  rw [show a + P - a = P by omega, Nat.mod_self]
theorem inv_mod {a P : Nat} (h : NT.IsP P) (ha : a < P) (h0 : ¬ a = 0) : a * (a ^ (P - 2) % P) % P = 1 := by
  have h2 := h.1
  rw [Nat.mul_mod, Nat.mod_mod, ← Nat.mul_mod, Nat.mul_comm, ← Nat.pow_succ, show (P - 2).succ = P - 1 by omega]
  exact h.fermat1 a (fun hd => h0 (Nat.eq_zero_of_dvd_of_lt hd ha))
theorem inv_zero_mod {P : Nat} (h : 2 < P) : 0 ^ (P - 2) % P = 0 := by
  rw [Nat.zero_pow (by omega), Nat.zero_mod]
theorem root_mod {a P : Nat} (h : NT.IsP P) (h4 : P % 4 = 3) : (a * a % P) ^ (P / 4 + 1) % P * ((a * a % P) ^ (P / 4 + 1) % P) % P = a * a % P := by
  rw [← Nat.mul_mod, ← Nat.pow_add, ← Nat.pow_mod, ← Nat.pow_two, ← Nat.pow_mul, show 2 * (P / 4 + 1 + (P / 4 + 1)) = P + 1 by omega, Nat.pow_succ, Nat.mul_mod, h.fermat a, ← Nat.mul_mod, Nat.pow_two]
theorem root_is {a R P : Nat} (h : NT.IsP P) (ha : a < P) (hR : R < P) (he : R * R % P = a * a % P) : R = a ∨ R + a = P := by
  have key : ∀ x y : Nat, x < P → y < P → y ≤ x → x * x % P = y * y % P → x = y ∨ x + y = P := by
    intro x y hx hy hxy hxe
    have hd : P ∣ x * x - y * y := by
      refine Nat.dvd_of_mod_eq_zero ?_
      exact Nat.sub_mod_eq_zero_of_mod_eq hxe
    have hf : x * x - y * y = (x - y) * (x + y) := by
      rw [Nat.mul_comm (x - y), Nat.mul_self_sub_mul_self_eq]
    rw [hf] at hd
    rcases h.euclid hd with h1 | h1
    · left
      have := Nat.eq_zero_of_dvd_of_lt h1 (by omega)
      omega
    · obtain ⟨k, hk⟩ := h1
      have : k = 0 ∨ k = 1 ∨ 2 ≤ k := by omega
      rcases this with rfl | rfl | h2
      · left; omega
      · right; omega
      · have := Nat.mul_le_mul_left P h2
        omega
  rcases Nat.le_total a R with h1 | h1
  · exact key R a hR ha h1 he
  · rcases key a R ha hR h1 he.symm with h2 | h2
    · left; exact h2.symm
    · right; omega
end Go.Proofs.YtmepmoalhgehhaaGreatDoor
namespace Go.Proofs.YtmepmoalhgehhaaGreatDoor
open Go.RowKit Go.Sort Go.Deep
theorem w8_be8 (x : Nat) (hx : x < 18446744073709551616) :
    w8 (UInt8.ofNat (x / 72057594037927936)) (UInt8.ofNat (x / 281474976710656)) (UInt8.ofNat (x / 1099511627776)) (UInt8.ofNat (x / 4294967296)) (UInt8.ofNat (x / 16777216)) (UInt8.ofNat (x / 65536)) (UInt8.ofNat (x / 256)) (UInt8.ofNat x) = x := by
  unfold w8
  simp only [UInt8.toNat_ofNat']
  omega
theorem be32_list (a b c d : Nat) : (be32 a b c d).toList = [UInt8.ofNat (d / 72057594037927936), UInt8.ofNat (d / 281474976710656), UInt8.ofNat (d / 1099511627776), UInt8.ofNat (d / 4294967296), UInt8.ofNat (d / 16777216), UInt8.ofNat (d / 65536), UInt8.ofNat (d / 256), UInt8.ofNat d, UInt8.ofNat (c / 72057594037927936), UInt8.ofNat (c / 281474976710656), UInt8.ofNat (c / 1099511627776), UInt8.ofNat (c / 4294967296), UInt8.ofNat (c / 16777216), UInt8.ofNat (c / 65536), UInt8.ofNat (c / 256), UInt8.ofNat c, UInt8.ofNat (b / 72057594037927936), UInt8.ofNat (b / 281474976710656), UInt8.ofNat (b / 1099511627776), UInt8.ofNat (b / 4294967296), UInt8.ofNat (b / 16777216), UInt8.ofNat (b / 65536), UInt8.ofNat (b / 256), UInt8.ofNat b, UInt8.ofNat (a / 72057594037927936), UInt8.ofNat (a / 281474976710656), UInt8.ofNat (a / 1099511627776), UInt8.ofNat (a / 4294967296), UInt8.ofNat (a / 16777216), UInt8.ofNat (a / 65536), UInt8.ofNat (a / 256), UInt8.ofNat a] := by
  simp only [be32, be8, Array.toList_append, List.cons_append, List.nil_append]
theorem val_congr {a b c d p q r s : Nat} (h1 : a = p) (h2 : b = q) (h3 : c = r) (h4 : d = s) : val a b c d = val p q r s := by subst h1 h2 h3 h4; rfl
theorem beV_be32 (a b c d : Nat) (ha : a < 18446744073709551616) (hb : b < 18446744073709551616) (hc : c < 18446744073709551616) (hd : d < 18446744073709551616) : beV (be32 a b c d).toList = val a b c d :=
  (congrArg beV (be32_list a b c d)).trans ((beV_32 _ _ _ _ _ _ _ _ _ _ _ _ _ _ _ _ _ _ _ _ _ _ _ _ _ _ _ _ _ _ _ _).trans (val_congr (w8_be8 a ha) (w8_be8 b hb) (w8_be8 c hc) (w8_be8 d hd)))
theorem bx_val {n : Nat} (hn : n < top) : beV (bx n).toList = n := by
  unfold bx
  rw [beV_be32 _ _ _ _ (by omega) (by omega) (by omega) (by omega)]
  unfold val
  unfold top at hn
  omega
variable {P : Nat} [NeZero P]
theorem rt_of (C : Fld P) {y m : Fin P} (h : y * y = m) : rt m = some (if y.val % 2 = 1 then 0 - y else y) := by
  have hm : y.val * y.val % P = m.val := by rw [← h, Fin.val_mul]
  have h1 := root_mod (a := y.val) C.cur.pr C.p3
  rw [hm] at h1
  unfold rt
  rw [if_pos h1]
  have hP := Nat.pos_of_neZero P
  have hr : m.val ^ (P / 4 + 1) % P < P := Nat.mod_lt _ hP
  generalize m.val ^ (P / 4 + 1) % P = r at h1 hr
  have hy := y.isLt
  have h3 := C.p3
  have hor := root_is C.cur.pr hy hr (h1.trans hm.symm)
  congr 1
  apply Fin.ext
  show even P r % P = _
  unfold even
  have h0 : (0 - y : Fin P).val = (P - y.val) % P := by rw [← sub_fin, EC.val_zero, Nat.zero_add]
  by_cases ho : y.val % 2 = 1
  · rw [if_pos ho, h0]
    rcases hor with e | e
    · rw [e, if_pos ho]
    · rw [if_neg (by omega), show P - y.val = r by omega]
  · rw [if_neg ho]
    rcases hor with e | e
    · rw [e, if_neg ho, Nat.mod_eq_of_lt hy]
    · by_cases hz : y.val = 0
      · omega
      · rw [if_pos (by omega), show P - r = y.val by omega, Nat.mod_eq_of_lt hy]
theorem ub_mark (n : Nat) : ub (mark n) = if n % 2 = 1 then 3 else 2 := by
  unfold mark
  split <;> rfl
theorem tl_mark {m : UInt8} {b : Bs} (h : b.size = 32) : tl33 (#[m] ++ b) = b := by
  unfold tl33
  rw [Array.extract_append]
  have h1 : (#[m] : Bs).extract 1 33 = #[] := by rfl
  rw [h1]
  simp [h]
theorem mark_0 (m : UInt8) (b : Bs) : (#[m] ++ b)[0]! = m := by
  rw [getElem!_pos _ 0 (by rw [Array.size_append]; simp; omega), Array.getElem_append_left (by simp)]
  rfl
theorem rd_of (C : Fld P) {b : Bs} (hs : b.size = 33) {x y : Fin P} (hm : ub b[0]! = if y.val % 2 = 1 then 3 else 2) (hv : beV (tl33 b).toList = x.val) (h : EC.On (some (x, y) : EC.Pt P)) : rd P b = some (x, y) := by
  have hz : ¬ Zero33 b := fun hz => by
    have := hz 0 (List.mem_range.2 (by decide))
    rw [hm] at this
    split at this <;> omega
  have hx : rdx P b = x := by
    unfold rdx
    rw [hv]
    exact Fin.ext (Nat.mod_eq_of_lt x.isLt)
  have hy : y * y = x * x * x + 7 := by
    have : y ^ 2 = x ^ 3 + 7 := h
    grobner
  unfold rd
  rw [if_pos hs, if_neg hz, hm, hv, if_pos x.isLt, hx, rt_of C hy]
  by_cases ho : y.val % 2 = 1
  · rw [if_pos ho, if_pos (Or.inr rfl), if_pos ho, Option.map_some, if_pos rfl]
    have e : 0 - (0 - y) = y := by grobner
    rw [e]
  · rw [if_neg ho, if_pos (Or.inl rfl), if_neg ho, Option.map_some, if_neg (by decide)]
/-- What was written is read. -/
theorem rd_wr (C : Fld P) {X : EC.Pt P} (h : EC.On X) : ∃ p, rd P (wr X) = some p ∧ pt p = X := by
  match X, h with
  | none, _ =>
    refine ⟨(0, 0), ?_, by unfold pt; rw [if_pos ⟨rfl, rfl⟩]⟩
    have h1 : (wr (none : EC.Pt P)).size = 33 := wr_size _
    have h2 : Zero33 (wr (none : EC.Pt P)) := (zero33_iff h1).2 rfl
    generalize wr (none : EC.Pt P) = b at h1 h2
    unfold rd
    rw [if_pos h1, if_pos h2]
  | some (x, y), h =>
    have hs := wr_size (P := P) (some (x, y))
    have hb0 : (wr (some (x, y) : EC.Pt P))[0]! = mark y.val := mark_0 _ _
    have ht : tl33 (wr (some (x, y) : EC.Pt P)) = bx x.val := tl_mark (bx_size _)
    refine ⟨(x, y), rd_of C hs (by rw [hb0, ub_mark]) (by rw [ht, bx_val (C.top x)]) h, by unfold pt; rw [if_neg (fun e => C.cur.y_ne h e.2)]⟩
end Go.Proofs.YtmepmoalhgehhaaGreatDoor
namespace Go.Proofs.YtmepmoalhgehhaaGreatDoor
open Go.RowKit Go.Sort Go.Deep
variable {P : Nat} [NeZero P]
/-- The base. -/
def gxl : List Value := [.int .u64 6481385041966929816, .int .u64 188021827762530521, .int .u64 6170039885052185351, .int .u64 8772561819708210092]
def gyl : List Value := [.int .u64 11261198710074299576, .int .u64 18237243440184513561, .int .u64 6747795201694173352, .int .u64 5204712524664259685]
def gX (P : Nat) [NeZero P] : Fin P := Fin.ofNat P 55066263022277343669578718895168534326250603453777594175500187360389116729240
def gY (P : Nat) [NeZero P] : Fin P := Fin.ofNat P 32670510020758816978083085130507043184471273380659243275938904335757337482424
def gG (P : Nat) [NeZero P] : EC.Pt P := some (gX P, gY P)
theorem Fld.eq (C : Fld P) : P = 115792089237316195423570985008687907853269984665640564039457584007908834671663 := by
  have h := C.gap.hP
  have e : val 4294968273 0 0 0 = 4294968273 := by decide
  rw [e] at h
  unfold Go.Proofs.YtmepmoalhgehhaaGreatDoor.top at h
  omega
theorem gX_val (C : Fld P) : (gX P).val = 55066263022277343669578718895168534326250603453777594175500187360389116729240 := by
  have h := C.eq
  exact Nat.mod_eq_of_lt (by omega)
theorem gY_val (C : Fld P) : (gY P).val = 32670510020758816978083085130507043184471273380659243275938904335757337482424 := by
  have h := C.eq
  exact Nat.mod_eq_of_lt (by omega)
theorem gxl_ws (C : Fld P) : gxl = ws (gX P) := by
  show _ = wn (gX P).val
  rw [gX_val C]
  kernel_rfl
theorem gyl_ws (C : Fld P) : gyl = ws (gY P) := by
  show _ = wn (gY P).val
  rw [gY_val C]
  kernel_rfl
theorem g_eq : 32670510020758816978083085130507043184471273380659243275938904335757337482424 * 32670510020758816978083085130507043184471273380659243275938904335757337482424 % 115792089237316195423570985008687907853269984665640564039457584007908834671663 = (55066263022277343669578718895168534326250603453777594175500187360389116729240 * 55066263022277343669578718895168534326250603453777594175500187360389116729240 * 55066263022277343669578718895168534326250603453777594175500187360389116729240 + 7) % 115792089237316195423570985008687907853269984665640564039457584007908834671663 := by decide +kernel
theorem gG_on (C : Fld P) : EC.On (gG P) := by
  refine on_of (Fin.ext ?_)
  have h7 : (7 : Fin P).val = 7 := Nat.mod_eq_of_lt C.p7
  rw [Fin.val_mul, Fin.val_add, Fin.val_mul, Fin.val_mul, gX_val C, gY_val C, h7]
  have h := C.eq
  rw [h]
set_option maxHeartbeats 2000000 in
set_option maxRecDepth 100000 in
theorem base_v : Gives 60 #[] (.agg (gxl ++ gyl).toArray) := by
  intro w
  go_enter Tryz.func60, Tryz.ntmps60
  refine RG.M.enter [] 4 (by kernel_rfl) ?_
  intro a0 M0
  repeat refine wp_seq ?_
  refine M0.t [.m 0 [] 0] [(0, RG.z 8)] [] [RG.z 8] [(0, .p 0 0)] ⟨RG.mk 0 107, trivial⟩ ?_
  intro j1 a1 w1 M1
  repeat refine wp_seq ?_
  refine M1.t [.x 1 [] (.agg gxl.toArray), .x 2 [] (.agg gyl.toArray), .x 3 [(1, 0), (2, 1)] (.agg (gxl ++ gyl).toArray), .u [(3, 2)] 0] [] [(0, 3, gxl ++ gyl)] [gxl ++ gyl] [(0, .p 0 0)] ⟨RG.st, RG.st, RG.st, RG.pt i109, trivial⟩ ?_
  intro a2 w2 M2
  refine wp_ret ?_
  refine bodyPost_ret (v := .agg (gxl ++ gyl).toArray) (RG.results_row M2.st 0 107 rfl 0 _ rfl (M2.at (s := .p 0 0)) u109 i109) M2.sl.defers ?_
  exact ⟨_, rfl, M2.st.bel.below, rfl⟩
theorem base_c (C : Fld P) : Gives 60 #[] (pv (gX P) (gY P)) := by
  unfold pv
  rw [← gxl_ws C, ← gyl_ws C]
  exact base_v
theorem gG_wr (C : Fld P) : by33 (gX P) (gY P) = wr (gG P) := by33_wr C ⟨rfl, rfl⟩ (gG_on C)
set_option maxHeartbeats 1000000 in
theorem Base_c (C : Fld P) (w : World) : Calls Tryz.prog 35 #[] w (Ret fun e w' => Below w.heap.size w w' ∧ BytesR w (wr (gG P)) e w') := by
  have HC : Hid (Fld P) := C
  clear C
  go_enter Tryz.func35, Tryz.ntmps35
  go_wp2_with fail
  refine (base_c HC.out _).mono ?_
  rintro e w1 ⟨v, rfl, hb1, rfl⟩
  go_wp2_with fail
  refine (bytes_c HC.out (gX P) (gY P) _).mono ?_
  rintro e w2 ⟨v, rfl, hb2, g, cap, rfl, h1, h2, h3, h4⟩
  rw [gG_wr HC.out] at h4
  have HB : Hid (Below w.heap.size w w2 ∧ BytesR w (wr (gG P)) (.slice (some ⟨g, 0, none⟩) 33 cap) w2) := ⟨hb1.trans (hb2.mono hb1.size), g, cap, rfl, h1, Nat.le_trans hb1.size h2, h3, h4⟩
  clear hb1 hb2 h1 h2 h3 h4
  go_wp2
  go_ret
  exact ⟨_, rfl, HB.out⟩
end Go.Proofs.YtmepmoalhgehhaaGreatDoor
namespace Go.Proofs.YtmepmoalhgehhaaGreatDoor
open Go.RowKit Go.Sort Go.Deep Go.Shelf
attribute [local go_sem] Oper.semAt_some
section
variable {F : Fence} {n : Nat} {P : Program} {ops : Array Oper} {rest : List Oper} {op : Oper} {a : Act} {w : World} {Q : Exit → Act → World → Prop}
theorem wpListIn_load_mid (hgd : op.guard = none) (ty : TypeId) (x : Operand) (ho : op.op = .load ty x) (b o : Nat) (hx : a.eval x = .pointer (some ⟨b, o, none⟩)) (cs : List Value) (d : TypeDesc) (hc : w.rangeAt b o cs)
    (hu : P.underlying ty = some d) (hd : d.isRow = true) (hi : (P.info? ty).map (·.size) = some cs.length) (h : wpListIn F n P ops Q rest (a.put op.dst (.agg cs.toArray)) w) : wpListIn F n P ops Q (op :: rest) a w :=
  wpListIn_plain hgd fun K hK => by
    refine ⟨fun f hf => (by unfold Oper.about at hf; rw [ho] at hf; cases hf), ?_⟩
    rw [Oper.semAt_eq _ _ _ (fun c => by rw [ho]; intro e; cases e)]
    unfold execOp
    simp only [ho, hx, Instr.loadAt, Instr.sureAddr, Sem.run_bind, Sem.run_pure, Result.andThen_ok, run_loadVar_mid w b o ty cs d hc hu hd hi]
    exact hK _ _ h
theorem wpListIn_store_mid (hgd : op.guard = none) (ty : TypeId) (x y : Operand) (ho : op.op = .store ty x y) (b o : Nat) (cells : Array Value) (hx : a.eval x = .pointer (some ⟨b, o, none⟩)) (hy : a.eval y = .agg cells)
    (ht : w.there b o cells.size) (hi : (P.info? ty).map (·.size) = some cells.size) (h1 : cells.all (·.oneCell') = true)
    (h : wpListIn F n P ops Q rest (a.put op.dst undef) (w.setCells b o cells.toList)) : wpListIn F n P ops Q (op :: rest) a w :=
  wpListIn_plain hgd fun K hK => by
    refine ⟨fun f hf => (by unfold Oper.about at hf; rw [ho] at hf; cases hf), ?_⟩
    rw [Oper.semAt_eq _ _ _ (fun c => by rw [ho]; intro e; cases e)]
    unfold execOp
    simp only [ho, hx, hy, Instr.storeAt, Instr.sureAddr, Sem.run_bind, Sem.run_pure, Result.andThen_ok, run_storeVar_mid w b o ty cells ht hi h1]
    exact hK _ _ h
end
/-- A row in a block of its own. -/
def Row (W : World) (k : Nat) (vs : List Value) : Prop := k < W.heap.size ∧ W.rangeAt k 0 vs ∧ W.there k 0 vs.length
theorem Row.cell {W : World} {k : Nat} {vs : List Value} (h : Row W k vs) {j : Nat} (hj : j < vs.length) : W.cell? ⟨k, j, none⟩ = some vs[j] := by
  have := h.2.1 j vs[j] (List.getElem?_eq_getElem hj)
  rwa [Nat.zero_add] at this
theorem row_own (k : Nat) (vs : List Value) : Own (fun (_ : Unit) W => Row W k vs) := fun s A B row hs hg hr => by
  refine ⟨Nat.lt_of_lt_of_le hs.1 hg.size, fun j v hj => ?_, fun j hj => ?_⟩
  · exact cell_kept (hs.2.1 j v hj) hg hr
  · have h1 := hs.2.1 j vs[j] (List.getElem?_eq_getElem hj)
    have h2 := cell_kept h1 hg hr
    exact ⟨by rw [h2]; rfl, (frozen_kept h1 hg hr).trans (hs.2.2 j hj).2⟩
theorem ko_setCells (k : Nat) : ∀ (vs : List Value) (o : Nat) (W : World), KeepsOthers W (W.setCells k o vs)
  | [], _, W => KeepsOthers.refl W
  | v :: vs, o, W => (KeepsOthers.setCell W ⟨k, o, none⟩ v).trans (ko_setCells k vs (o + 1) _)
theorem Row.alloc {W : World} {k : Nat} {vs : List Value} (h : Row W k vs) (o : Obj) : Row (W.alloc o) k vs :=
  row_own k vs () W (W.alloc o) none h (World.grownBy_alloc W o none) (fun _ e => by cases e)
theorem Row.putObj {W : World} {k D : Nat} {vs : List Value} (h : Row W k vs) {o : Obj} (hD : W.heap[D]? = some o) (ho : o.isCells = false) (o' : Obj) : Row (W.putObj D o') k vs :=
  row_own k vs () W (W.putObj D o') (some D) h (grownBy_putObj' W D o') (fun r e => by cases e; exact ⟨_, hD, ho⟩)
theorem Row.below {W W' : World} {k : Nat} {vs : List Value} (h : Row W k vs) (hb : Below W.heap.size W W') : Row W' k vs := by
  have e := hb.block k h.1
  refine ⟨Nat.lt_of_lt_of_le h.1 hb.size, fun j v hj => ?_, fun j hj => ?_⟩
  · exact (World.cell?_of_block e).trans (h.2.1 j v hj)
  · have h1 := h.2.2 j hj
    exact ⟨by rw [World.cell?_of_block e]; exact h1.1, (World.frozen?_of_block e).trans h1.2⟩
theorem results_cell {P : Program} {fn : Func} {tmps : Array Value} {W : World} {k : Nat} {vs : List Value} (t : Tmp) (T : TypeId) (hr : fn.results = #[.cell t T]) (h : Row W k vs) (ht : tmps[t]? = some (.pointer (some ⟨k, 0, none⟩)))
    (hu : (P.underlying T).map (·.isRow) = some true) (hi : (P.info? T).map (·.size) = some vs.length) : (results fn tmps).run P W = .ok (.agg vs.toArray) W := by
  obtain ⟨d, hu, hd⟩ := Option.map_eq_some_iff.1 hu
  have h1 := run_loadVar_mid (P := P) W k 0 T vs d h.2.1 hu hd hi
  have h2 : tmps.getD t undef = .pointer (some ⟨k, 0, none⟩) := by rw [Array.getD_eq_getD_getElem?, ht]; rfl
  unfold results
  rw [hr]
  simp only [Array.mapM_eq_mapM_toList, List.mapM_cons, List.mapM_nil, h2, asAddr]
  simp [Sem.run_bind, h1]
theorem Row.put {W : World} {k : Nat} {vs us : List Value} (h : Row W k vs) (hl : us.length = vs.length) : Row (W.setCells k 0 us) k us :=
  ⟨by rw [RG.setCells_size]; exact h.1, World.rangeAt_setCells_same W k 0 us (by rw [hl]; exact h.2.2), by rw [hl]; exact World.there_setCells h.2.2 _ _ _⟩
theorem Row.other {W : World} {k j : Nat} {vs us : List Value} (h : Row W k vs) (hne : k ≠ j) : Row (W.setCells j 0 us) k vs :=
  ⟨by rw [RG.setCells_size]; exact h.1, World.rangeAt_setCells_apart h.2.1 j 0 us (Or.inl hne), World.there_setCells h.2.2 _ _ _⟩
variable {P : Nat} [NeZero P]
end Go.Proofs.YtmepmoalhgehhaaGreatDoor
namespace Go.Proofs.YtmepmoalhgehhaaGreatDoor
open Go.RowKit Go.Sort Go.Deep
theorem redS_of {w W : World} {k0 k1 g0 g1 g2 : Nat} (h : Kept w k0 [⟨k0, 0, g0, g1, g2, 0⟩, ⟨k1, 0, 0, 0, 0, 0⟩] W) : W.cell? ⟨k0, 0, none⟩ = some (.int .u64 (g0 : Int)) ∧ W.cell? ⟨k0, 1, none⟩ = some (.int .u64 (g1 : Int)) ∧ W.cell? ⟨k0, 2, none⟩ = some (.int .u64 (g2 : Int)) ∧ W.cell? ⟨k0, 3, none⟩ = some (.int .u64 0) ∧ Kept w k0 [⟨k0, 0, g0, g1, g2, 0⟩, ⟨k1, 0, 0, 0, 0, 0⟩] W := ⟨h.head.c0, h.head.c1, h.head.c2, h.head.c3, h⟩
theorem redS_get {w W : World} {k0 k1 g0 g1 g2 : Nat} (h : W.cell? ⟨k0, 0, none⟩ = some (.int .u64 (g0 : Int)) ∧ W.cell? ⟨k0, 1, none⟩ = some (.int .u64 (g1 : Int)) ∧ W.cell? ⟨k0, 2, none⟩ = some (.int .u64 (g2 : Int)) ∧ W.cell? ⟨k0, 3, none⟩ = some (.int .u64 0) ∧ Kept w k0 [⟨k0, 0, g0, g1, g2, 0⟩, ⟨k1, 0, 0, 0, 0, 0⟩] W) : Kept w k0 [⟨k0, 0, g0, g1, g2, 0⟩, ⟨k1, 0, 0, 0, 0, 0⟩] W := h.2.2.2.2
theorem redS_alloc {w W : World} {k0 k1 g0 g1 g2 : Nat} {o : Obj} (h : W.cell? ⟨k0, 0, none⟩ = some (.int .u64 (g0 : Int)) ∧ W.cell? ⟨k0, 1, none⟩ = some (.int .u64 (g1 : Int)) ∧ W.cell? ⟨k0, 2, none⟩ = some (.int .u64 (g2 : Int)) ∧ W.cell? ⟨k0, 3, none⟩ = some (.int .u64 0) ∧ Kept w k0 [⟨k0, 0, g0, g1, g2, 0⟩, ⟨k1, 0, 0, 0, 0, 0⟩] W) : (W.alloc o).cell? ⟨k0, 0, none⟩ = some (.int .u64 (g0 : Int)) ∧ (W.alloc o).cell? ⟨k0, 1, none⟩ = some (.int .u64 (g1 : Int)) ∧ (W.alloc o).cell? ⟨k0, 2, none⟩ = some (.int .u64 (g2 : Int)) ∧ (W.alloc o).cell? ⟨k0, 3, none⟩ = some (.int .u64 0) ∧ Kept w k0 [⟨k0, 0, g0, g1, g2, 0⟩, ⟨k1, 0, 0, 0, 0, 0⟩] (W.alloc o) := redS_of ((redS_get h).alloc o)
theorem redS_allocd {w W : World} {k0 k1 g0 g1 g2 : Nat} {o : Obj} (h : W.drew.cell? ⟨k0, 0, none⟩ = some (.int .u64 (g0 : Int)) ∧ W.drew.cell? ⟨k0, 1, none⟩ = some (.int .u64 (g1 : Int)) ∧ W.drew.cell? ⟨k0, 2, none⟩ = some (.int .u64 (g2 : Int)) ∧ W.drew.cell? ⟨k0, 3, none⟩ = some (.int .u64 0) ∧ Kept w k0 [⟨k0, 0, g0, g1, g2, 0⟩, ⟨k1, 0, 0, 0, 0, 0⟩] W.drew) : (W.alloc o).drew.cell? ⟨k0, 0, none⟩ = some (.int .u64 (g0 : Int)) ∧ (W.alloc o).drew.cell? ⟨k0, 1, none⟩ = some (.int .u64 (g1 : Int)) ∧ (W.alloc o).drew.cell? ⟨k0, 2, none⟩ = some (.int .u64 (g2 : Int)) ∧ (W.alloc o).drew.cell? ⟨k0, 3, none⟩ = some (.int .u64 0) ∧ Kept w k0 [⟨k0, 0, g0, g1, g2, 0⟩, ⟨k1, 0, 0, 0, 0, 0⟩] (W.alloc o).drew := redS_of (((redS_get h).undrew).alloc o).drew
theorem holds_part {w : World} {g o : Nat} {bs : Bs} (p l : Nat) (h : Holds encB w g o bs) (hp : p + l ≤ bs.size) : Holds encB w g (o + p) (bs.extract p (p + l)) := by
  refine Holds.part h (by rw [Array.size_extract]; omega) (fun j hj => ?_)
  rw [Array.size_extract] at hj
  rw [getElem!_pos (bs.extract p (p + l)) j (by rw [Array.size_extract]; omega), getElem!_pos bs (p + j) (by omega), Array.getElem_extract]
theorem holds_front {w : World} {g o : Nat} {bs : Bs} (f : Nat) (h : Holds encB w g o bs) (hf : f ≤ bs.size) : Holds encB w g o (bs.extract 0 f) := by
  have := holds_part 0 f h (by omega)
  rwa [Nat.zero_add, Nat.add_zero] at this
/-- A number in a block of its own, as Reduce has it between its rounds. -/
def RedR (w : World) (k0 k1 g0 g1 g2 N : Nat) (s6 : Value) (wx : World) : Prop :=
  ∃ k6 a b c d : Nat, s6 = .pointer (some ⟨k6, 0, none⟩) ∧ Kept w k0 [⟨k6, 0, a, b, c, d⟩, ⟨k0, 0, g0, g1, g2, 0⟩, ⟨k1, 0, 0, 0, 0, 0⟩] wx ∧ k6 ≠ k0 ∧ k6 ≠ k1 ∧ k0 ≤ k6 ∧
    Hid (Four (.agg #[.int .u64 (a : Int), .int .u64 (b : Int), .int .u64 (c : Int), .int .u64 (d : Int)]) N)
theorem RedR.drew {w wx : World} {k0 k1 g0 g1 g2 N : Nat} {s6 : Value} (h : RedR w k0 k1 g0 g1 g2 N s6 wx) : RedR w k0 k1 g0 g1 g2 N s6 wx.drew := by
  obtain ⟨k6, a, b, c, d, h1, h2, h3⟩ := h
  exact ⟨k6, a, b, c, d, h1, h2.drew, h3⟩
theorem RedR.made {w w1 : World} {k0 k1 g0 g1 g2 N a b c d : Nat} (KP : Kept w k0 [⟨k0, 0, g0, g1, g2, 0⟩, ⟨k1, 0, 0, 0, 0, 0⟩] w1) (hF : Hid (Four (.agg #[.int .u64 (a : Int), .int .u64 (b : Int), .int .u64 (c : Int), .int .u64 (d : Int)]) N)) :
    RedR w k0 k1 g0 g1 g2 N (.pointer (some ⟨w1.heap.size, 0, none⟩)) (w1.alloc (.cells #[.int .u64 (a : Int), .int .u64 (b : Int), .int .u64 (c : Int), .int .u64 (d : Int)] 136)) :=
  ⟨w1.heap.size, a, b, c, d, rfl, (KP.alloc _).cons (At4.made w1 136 a b c d rfl).blk, Nat.ne_of_gt KP.head.lt, Nat.ne_of_gt KP.tail.head.lt, KP.le, hF⟩
theorem RedR.put {w w1 : World} {k0 k1 k6 g0 g1 g2 N a b c d x y z u : Nat} (KP : Kept w k0 [⟨k0, 0, g0, g1, g2, 0⟩, ⟨k1, 0, 0, 0, 0, 0⟩] w1) (T : At4 w1 k6 x y z u) (M7 : k0 ≤ k6) (N7 : ∀ x ∈ ([⟨k0, 0, g0, g1, g2, 0⟩, ⟨k1, 0, 0, 0, 0, 0⟩] : List Blk), x.k < k6) (hF : Hid (Four (.agg #[.int .u64 (a : Int), .int .u64 (b : Int), .int .u64 (c : Int), .int .u64 (d : Int)]) N)) :
    RedR w k0 k1 g0 g1 g2 N (.pointer (some ⟨k6, 0, none⟩)) ((((w1.setCell ⟨k6, 0, none⟩ (.int .u64 (a : Int))).setCell ⟨k6, 1, none⟩ (.int .u64 (b : Int))).setCell ⟨k6, 2, none⟩ (.int .u64 (c : Int))).setCell ⟨k6, 3, none⟩ (.int .u64 (d : Int))) :=
  ⟨k6, a, b, c, d, rfl, (KP.set4' M7 (fun x hx => Nat.ne_of_gt (N7 x hx)) _ _ _ _).cons (T.self4 a b c d).blk, Nat.ne_of_gt (N7 ⟨k0, 0, g0, g1, g2, 0⟩ (by simp)), Nat.ne_of_gt (N7 ⟨k1, 0, 0, 0, 0, 0⟩ (by simp)), M7, hF⟩
theorem red_step {P : Nat} (bs : Bs) (p : Nat) (hp : p + 32 ≤ bs.size) : (beV (bs.extract p (p + 32)).toList + top * (beV (bs.extract 0 p).toList % P)) % P = beV (bs.extract 0 (p + 32)).toList % P := by
  have e : (bs.extract 0 (p + 32)).toList = (bs.extract 0 p).toList ++ (bs.extract p (p + 32)).toList := by
    rw [← Array.toList_append, Array.extract_append_extract, Nat.min_eq_left (by omega), Nat.max_eq_right (by omega)]
  have l32 : (bs.extract p (p + 32)).toList.length = 32 := by rw [Array.length_toList, Array.size_extract]; omega
  have ht : 256 ^ 32 = top := by unfold top; decide
  rw [e, beV_append, l32, ht, Nat.add_comm, Nat.add_mod, Nat.mul_mod, Nat.mod_mod, ← Nat.mul_mod, ← Nat.add_mod, Nat.mul_comm]
set_option maxHeartbeats 8000000 in
set_option maxRecDepth 100000 in
theorem PReduce_any (g0 g1 g2 P g o n cap : Nat) (bs : Bs) (hG : Gap g0 g1 g2 P) (w : World) (hs : bs.size = n) (hc : n ≤ cap) (hg : g < w.heap.size) (hB : Holds encB w g o bs) :
    Calls Tryz.prog 104 #[.agg #[.int .u64 (g0 : Int), .int .u64 (g1 : Int), .int .u64 (g2 : Int), .int .u64 0], .slice (some ⟨g, o, none⟩) n cap] w (Ret fun e w' => Below w.heap.size w w' ∧ Four e (beV bs.toList % P)) := by
  obtain ⟨f, hf⟩ : ∃ f, f = n % 32 := ⟨_, rfl⟩
  have hf32 : f < 32 := by omega
  have hfn : f ≤ n := by omega
  have e1 : (n : Int) % 32 = (f : Int) := by omega
  have e2 : (f : Int) ≤ (cap : Int) := by omega
  have e3 : (f : Int) ≤ (n : Int) := by omega
  have e4 : f ≤ cap := by omega
  have hsz0 : (bs.extract 0 f).size = f := by rw [Array.size_extract]; omega
  have Hf : Hid (f = n % 32) := hf
  have HS : Hid ((bs.extract 0 f).size = f) := hsz0
  have hbs : f ≤ bs.size := by omega
  have HSZ : Hid (bs.size = n) := hs
  have HG : Hid (Gap g0 g1 g2 P) := hG
  clear hf hsz0 hG
  go_enter Tryz.func104, Tryz.ntmps104
  go_upto_region 2 with fail
  rw [e1]
  clear e1
  have PR := (At4.made w 138 g0 g1 g2 0 rfl).alloc (.cells #[.int .u64 0, .int .u64 0, .int .u64 0, .int .u64 0] 45)
  have RE := At4.made (w.alloc (.cells #[.int .u64 (g0 : Int), .int .u64 (g1 : Int), .int .u64 (g2 : Int), .int .u64 0] 138)) 45 0 0 0 0 (World.size_alloc _ _)
  have KP := ((Kept.mk1 (below2 w (.cells #[.int .u64 (g0 : Int), .int .u64 (g1 : Int), .int .u64 (g2 : Int), .int .u64 0] 138) (.cells #[.int .u64 0, .int .u64 0, .int .u64 0, .int .u64 0] 45)) (below2 w (.cells #[.int .u64 (g0 : Int), .int .u64 (g1 : Int), .int .u64 (g2 : Int), .int .u64 0] 138) (.cells #[.int .u64 0, .int .u64 0, .int .u64 0, .int .u64 0] 45)).size).cons RE.blk).cons PR.blk
  clear PR RE
  generalize World.alloc _ _ = W0 at KP ⊢
  generalize h1 : w.heap.size + 1 = k1 at KP ⊢
  have Q1 : Hid (w.heap.size ≤ k1) := by unfold Hid; omega
  generalize h0 : w.heap.size = k0 at KP Q1 hg ⊢
  have n01 : k0 ≠ k1 := by omega
  have H0 : Hid (w.heap.size = k0) := h0
  have HBS : Hid (Holds encB w g o bs) := hB
  clear h0 h1 hB hs
  go_cut [6] (fun s6 wx => RedR w k0 k1 g0 g1 g2 (beV (bs.extract 0 f).toList % P) s6 wx)
  case first =>
    go_region_held3 (fun w' => w'.cell? ⟨k0, 0, none⟩ = some (.int .u64 (g0 : Int)) ∧ w'.cell? ⟨k0, 1, none⟩ = some (.int .u64 (g1 : Int)) ∧ w'.cell? ⟨k0, 2, none⟩ = some (.int .u64 (g2 : Int)) ∧ w'.cell? ⟨k0, 3, none⟩ = some (.int .u64 0) ∧ Kept w k0 [⟨k0, 0, g0, g1, g2, 0⟩, ⟨k1, 0, 0, 0, 0, 0⟩] w') (first | (with_reducible exact redS_of KP) | (with_reducible exact redS_of KP.drew) | (with_reducible exact redS_allocd (by assumption)) | (with_reducible exact redS_alloc (by assumption)) | (with_reducible exact redS_of (KP.alloc _)) | (with_reducible exact redS_of (KP.set4' M7 (fun x hx => Nat.ne_of_gt (N7 x hx)) _ _ _ _)) | (with_reducible exact redS_of (KP.alloc _).drew) | (with_reducible exact redS_of (KP.set4' M7 (fun x hx => Nat.ne_of_gt (N7 x hx)) _ _ _ _).drew) | fail) (first | (go_at_call 111; refine (fromBytes_any (some ⟨g, o, none⟩) g o f cap (bs.extract 0 f) _ (Nat.le_of_lt hf32) e4 HS.out (Or.inr ⟨rfl, holds_front f (Holds.below HBS.out (redS_get (by assumption)).bl hg) hbs⟩)).mono ?_; rintro e w1 ⟨v, rfl, hb1, hF1⟩; obtain ⟨a1, b1, c1, d1, rfl, ha1, hb1', hc1, hd1, es1⟩ := id hF1; clear es1; have HF1 : Hid (Four _ _) := hF1; clear hF1; (try (with_reducible have T1 := T.call hb1; clear T; have T := T1; clear T1)); (try (first | (with_reducible have T := (At4.made _ 136 0 0 0 0 rfl).call hb1) | (with_reducible have T := (At4.made _ 136 0 0 0 0 rfl).drew.call hb1)); have N7 := KP.lts; have M7 := KP.le); have KP1 := Kept.call (redS_get (by assumption)) hb1; clear KP; have KP := KP1; clear KP1 hb1) | (go_at_call 109; refine (four_any _ _ HF1.out _).mono ?_; rintro e w1 ⟨v, rfl, hb1, rfl⟩; (try (with_reducible have T1 := T.call hb1; clear T; have T := T1; clear T1)); (try (first | (with_reducible have T := (At4.made _ 136 0 0 0 0 rfl).call hb1) | (with_reducible have T := (At4.made _ 136 0 0 0 0 rfl).drew.call hb1)); have N7 := KP.lts; have M7 := KP.le); have KP1 := Kept.call (redS_get (by assumption)) hb1; clear KP; have KP := KP1; clear KP1 hb1) | (go_at_call 133; refine (fold_any g0 g1 g2 _ _ _ _ P HG.out.h0 HG.out.h1 HG.out.h2 HG.out.hor HG.out.hP HG.out.hP2 HF1.out (Four.mk (a := 0) (b := 0) (c := 0) (d := 0) (by decide) (by decide) (by decide) (by decide) rfl) _).mono ?_; rintro e w1 ⟨v, rfl, hb1, hF3⟩; obtain ⟨a', b', c', d', rfl, ha', hb', hc', hd', es3⟩ := id hF3; clear es3; have HF3 : Hid (Four _ _) := hF3; clear hF3; (try (with_reducible have T1 := T.call hb1; clear T; have T := T1; clear T1)); (try (first | (with_reducible have T := (At4.made _ 136 0 0 0 0 rfl).call hb1) | (with_reducible have T := (At4.made _ 136 0 0 0 0 rfl).drew.call hb1)); have N7 := KP.lts; have M7 := KP.le); have KP1 := Kept.call (redS_get (by assumption)) hb1; clear KP; have KP := KP1; clear KP1 hb1; (try (obtain ⟨tc0, tc1, tc2, tc3, tf⟩ := id T; have zt := T.lt))))
    all_goals (try go_wp2)
    all_goals (rw [show val 0 0 0 0 = 0 from rfl, Nat.mul_zero, Nat.add_zero] at HF3)
    all_goals (go_meet; first | (with_reducible exact RedR.made KP HF3) | (with_reducible exact (RedR.made KP HF3).drew) | (with_reducible exact RedR.put KP T M7 N7 HF3) | (with_reducible exact (RedR.put KP T M7 N7 HF3).drew) | fail)
  case rest =>
    clear KP
    obtain ⟨k6, a, b, c, d, rfl, KP, n60, n61, M6, HF⟩ := hcut
    have f0 : (0 : Int) ≤ (f : Int) := Int.natCast_nonneg _
    go_upto_region 3 with fail
    go_cut [1] (fun s1 wx => ∃ q : Nat, s1 = .slice (some ⟨g, q, none⟩) (n - f) (cap - f) ∧ Hid (0 < n - f → q = o + f) ∧ Kept w k0 [⟨k6, 0, a, b, c, d⟩, ⟨k0, 0, g0, g1, g2, 0⟩, ⟨k1, 0, 0, 0, 0, 0⟩] wx)
    case first =>
      by_cases ec : cap = f
      · have en : n = f := by omega
        have HEN : Hid (n = f ∧ cap = f) := ⟨en, ec⟩
        go_wp2
        go_meet
        refine ⟨o, ?_, fun h => ?_, KP⟩
        · rw [HEN.out.1, HEN.out.2]; try simp
        · have := HEN.out.1; omega
      · go_wp2
        go_meet
        exact ⟨o + f, rfl, fun _ => rfl, KP⟩
    case rest =>
    clear KP
    obtain ⟨q0, rfl, HQ0, KP⟩ := hcut
    go_wp2_with fail
    go_loopg [1] (n - f) (fun gk s1 wr => ∃ (l q lc a b c d : Nat), gk = l ∧ l ≤ n ∧ s1 = .slice (some ⟨g, q, none⟩) l lc ∧ Hid (l % 32 = 0 ∧ (0 < l → q = o + (n - l)) ∧ lc = cap - (n - l)) ∧ Kept w k0 [⟨k6, 0, a, b, c, d⟩, ⟨k0, 0, g0, g1, g2, 0⟩, ⟨k1, 0, 0, 0, 0, 0⟩] wr ∧
      Hid (Four (.agg #[.int .u64 (a : Int), .int .u64 (b : Int), .int .u64 (c : Int), .int .u64 (d : Int)]) (beV (bs.extract 0 (n - l)).toList % P)))
    case atStart =>
      refine ⟨n - f, q0, cap - f, a, b, c, d, rfl, by omega, rfl, ⟨by have := Hf.out; omega, fun h => by have := HQ0.out h; omega, by omega⟩, KP, ?_⟩
      rw [show n - (n - f) = f by omega]
      exact HF
    case round =>
      clear KP HF
      obtain ⟨l, q, lc, a, b, c, d, hgk, hln, rfl, HQ3, KP, HF⟩ := hrel
      clear e2 e3 e4 f0 hbs HS hf32 hfn HQ0
      have hlcl : l ≤ lc := by have := HQ3.out; omega
      by_cases h0 : l = 0
      · subst h0
        obtain ⟨xc0, xc1, xc2, xc3, xf⟩ := KP.head.at4
        have z7 := KP.head.lt
        go_wp2_with fail
        refine (number_any _ _ HF.out _).mono ?_
        rintro e w3 ⟨v, rfl, hb3, rfl⟩
        have KP3 := KP.call hb3
        clear hb3 xc0 xc1 xc2 xc3 xf z7 KP
        obtain ⟨rc0, rc1, rc2, rc3, rf⟩ := KP3.tail.tail.head.at4
        have z3 := KP3.tail.tail.head.lt
        go_wp2
        have RF := KP3.tail.tail.head.at4.self4 a b c d
        unfold set4 at RF
        refine bodyPost_ret (v := ?v) ?hr rfl ?hR
        case hr => simp [results, Tryz.results104, go_sem, RF.c0, RF.c1, RF.c2, RF.c3]; rfl
        refine ⟨_, rfl, ?_, ?_⟩
        · rw [H0.out]
          exact below_set4 KP3.bl Q1.out _ _ _ _
        · have := HF.out
          rw [Nat.sub_zero, ← HSZ.out, Array.extract_size] at this
          exact this
      · have h32 : 32 ≤ l := by have := HQ3.out; omega
        have HQ : Hid (o + (n - l) = q) := (HQ3.out.2.1 (by omega)).symm
        have h32c : 32 ≤ lc := by omega
        have i1 : (32 : Int) ≤ (lc : Int) := by omega
        have i2 : (32 : Int) ≤ (l : Int) := by omega
        have i3 : (0 : Int) < (l : Int) := by omega
        have HSL : Hid (n - l + 32 ≤ bs.size) := by unfold Hid; have := HSZ.out; omega
        have HS3 : Hid ((bs.extract (n - l) (n - l + 32)).size = 32) := by unfold Hid; rw [Array.size_extract]; have := HSL.out; omega
        obtain ⟨tc0, tc1, tc2, tc3, tf⟩ := KP.head.at4
        have zt := KP.head.lt
        obtain ⟨pc0, pc1, pc2, pc3, pf⟩ := KP.tail.head.at4
        have hl6 : ∀ x ∈ ([⟨k0, 0, g0, g1, g2, 0⟩, ⟨k1, 0, 0, 0, 0, 0⟩] : List Blk), k6 ≠ x.k := by simp only [List.mem_cons, List.not_mem_nil, or_false]; rintro x (rfl | rfl); exact n60; exact n61
        have HFF : Hid (_ = _) := red_step (P := P) bs (n - l) HSL.out
        go_wp2_with fail
        go_region_with (first | (go_at_call 111; refine (fromBytes_any (some ⟨g, q, none⟩) g q 32 lc (bs.extract (n - l) (n - l + 32)) _ (Nat.le_refl 32) h32c HS3.out (Or.inr ⟨rfl, HQ.out ▸ holds_part (n - l) 32 (by first | (with_reducible exact Holds.below HBS.out KP.bl hg) | (with_reducible exact Holds.below HBS.out KP.drew.bl hg) | fail) HSL.out⟩)).mono ?_; rintro e w1 ⟨v, rfl, hb1, hF1⟩; obtain ⟨a1, b1, c1, d1, rfl, ha1, hb1', hc1, hd1, es1⟩ := id hF1; clear es1; have HF1 : Hid (Four _ _) := hF1; clear hF1; (first | (with_reducible have KP1 := KP.call hb1) | (with_reducible have KP1 := KP.drew.call hb1) | fail); clear KP; have KP := KP1; clear KP1 hb1; obtain ⟨tc0, tc1, tc2, tc3, tf⟩ := KP.head.at4; have zt := KP.head.lt; obtain ⟨pc0, pc1, pc2, pc3, pf⟩ := KP.tail.head.at4) | (go_at_call 109; refine (four_any _ _ HF1.out _).mono ?_; rintro e w1 ⟨v, rfl, hb1, rfl⟩; (first | (with_reducible have KP1 := KP.call hb1) | (with_reducible have KP1 := KP.drew.call hb1) | fail); clear KP; have KP := KP1; clear KP1 hb1; obtain ⟨tc0, tc1, tc2, tc3, tf⟩ := KP.head.at4; have zt := KP.head.lt; obtain ⟨pc0, pc1, pc2, pc3, pf⟩ := KP.tail.head.at4) | (go_at_call 133; refine (fold_any g0 g1 g2 _ _ _ _ P HG.out.h0 HG.out.h1 HG.out.h2 HG.out.hor HG.out.hP HG.out.hP2 HF1.out HF.out _).mono ?_; rintro e w1 ⟨v, rfl, hb1, hF3⟩; obtain ⟨a', b', c', d', rfl, ha', hb', hc', hd', es3⟩ := id hF3; clear es3; have HF3 : Hid (Four _ _) := hF3; clear hF3; (first | (with_reducible have KP1 := KP.call hb1) | (with_reducible have KP1 := KP.drew.call hb1) | fail); clear KP; have KP := KP1; clear KP1 hb1; obtain ⟨tc0, tc1, tc2, tc3, tf⟩ := KP.head.at4; have zt := KP.head.lt; obtain ⟨pc0, pc1, pc2, pc3, pf⟩ := KP.tail.head.at4))
        all_goals (rw [HFF.out] at HF3)
        all_goals (by_cases i4 : lc = 32)
        all_goals (try go_wp2)
        all_goals
          (go_roundg (l - 32)
           case measure => omega
           case rel =>
            first
              | refine ⟨l - 32, q + 32, lc - 32, a', b', c', d', rfl, by omega, rfl, ⟨by have := HQ3.out; omega, fun _ => by have := HQ.out; omega, by have := HQ3.out; omega⟩, ?_, ?_⟩
              | refine ⟨l - 32, q, lc - 32, a', b', c', d', rfl, by omega, by first | rfl | (rw [i4]), ⟨by have := HQ3.out; omega, fun h => by omega, by have := HQ3.out; omega⟩, ?_, ?_⟩
              | fail
            · first | (with_reducible exact KP.put M6 hl6 a' b' c' d') | (with_reducible exact (KP.put M6 hl6 a' b' c' d').drew) | fail
            · rw [show n - (l - 32) = n - l + 32 by omega]; exact HF3)
end Go.Proofs.YtmepmoalhgehhaaGreatDoor
namespace Go.Proofs.YtmepmoalhgehhaaGreatDoor
open Go.RowKit Go.Sort Go.Deep
variable {N : Nat}
def sPl (N a b : Nat) : Nat := (a + b) % N
theorem Ord.pl (O : Ord N) (a b : Nat) : sPl N a b < N := Nat.mod_lt _ O.pos
theorem sPlus_c (O : Ord N) {a b : Nat} (ha : a < N) (hb : b < N) : Gives 87 #[gv1, nv a, nv b] (nv (sPl N a b)) := fun w =>
  (Plus_any _ _ _ N _ _ a b O.gap (O.four ha) (O.four hb) ha hb w).mono (by rintro e w' ⟨v, rfl, hb, hF⟩; exact ⟨_, rfl, hb, hF.nv⟩)
set_option maxHeartbeats 2000000 in
set_option maxRecDepth 100000 in
theorem sPlu_c (O : Ord N) (a b : Nat) (ha : a < N) (hb : b < N) : Gives 62 #[(nv a), (nv b)] (nv (sPl N a b)) := by
  intro w
  go_enter Tryz.func62, Tryz.ntmps62
  refine RG.M.enter [(0, (.v (nv a))), (1, (.v (nv b)))] 12 (by kernel_rfl) ?_
  intro a0 M0
  repeat refine wp_seq ?_
  refine M0.t [.m 2 [] 0, .m 3 [] 1, .m 4 [] 2] [(0, (wn a)), (1, (wn b)), (2, (RG.z 4))] [] [(wn a), (wn b), (RG.z 4)] [(2, (.p 0 0)), (3, (.p 1 0)), (4, (.p 2 0))] ⟨RG.mk 0 47, RG.mk 1 47, RG.mk 2 47, trivial⟩ ?_
  intro j1 i1 m1 a1 w1 M1
  repeat refine wp_seq ?_
  refine M1.d [.c 5 [] gv1, .s 6 [] (.p 0 0), .x 7 [(6, 1)] (nv a), .s 8 [] (.p 1 0), .x 9 [(8, 3)] (nv b), .c 10 [(5, 0), (7, 2), (9, 4)] (nv (sPl N a b)), .x 11 [(10, 5)] (nv (sPl N a b)), .u [(11, 6)] 2] [] [(2, 7, (wn (sPl N a b)))] [(wn a), (wn b), (wn (sPl N a b))] [(4, (.p 2 0))] ⟨RG.cl (Scalars_c), RG.st, RG.ld u38 i38, RG.st, RG.ld u38 i38, RG.cl (sPlus_c O ha hb), RG.st, RG.pt i40, trivial⟩ ?_
  intro a2 w2 M2
  refine wp_ret ?_
  refine bodyPost_ret (v := (nv (sPl N a b))) (RG.results_row M2.st 4 47 rfl 2 _ rfl (M2.at (s := (.p 2 0))) u40 i40) M2.sl.defers ?_
  exact ⟨_, rfl, M2.st.bel.below, rfl⟩
/-- Bytes as a scalar: what is left of them. -/
def redu (N : Nat) (bs : Bs) : Nat := beV bs.toList % N
def FSRd_1 (v : Value) (n : Nat) : List RG.It := [.c 3 [] gv1, .x 4 [] v, .c 5 [(3, 0), (4, 1)] (nv n), .x 6 [(5, 2)] (nv n), .u [(6, 3)] 0]
set_option maxHeartbeats 2000000 in
set_option maxRecDepth 100000 in
theorem reduced_c (O : Ord N) (g : Nat) (bs : Bs) (hs : bs.size = 64) (w : World) (hg : g < w.heap.size) (hB : Holds encB w g 0 bs) : Calls Tryz.prog 79 #[.slice (some ⟨g, 0, none⟩) 64 64] w (Ret fun e w' => Below w.heap.size w w' ∧ e = nv (redu N bs)) := by
  have hc : ∀ w', RG.BelX w.heap.size [] w w' → Calls Tryz.prog 104 #[gv1, .slice (some ⟨g, 0, none⟩) 64 64] w' (Ret fun e w'' => Below w'.heap.size w' w'' ∧ e = nv (redu N bs)) := fun w' hb =>
    (PReduce_any _ _ _ N g 0 64 64 bs O.gap w' hs (Nat.le_refl _) (Nat.lt_of_lt_of_le hg hb.below.size) (Holds.below hB hb.below hg)).mono (by rintro e w'' ⟨v, rfl, hb, hF⟩; exact ⟨_, rfl, hb, hF.nv⟩)
  go_enter Tryz.func79, Tryz.ntmps79
  refine RG.M.enter [(0, (.v (.slice (some ⟨g, 0, none⟩) 64 64)))] 7 (by kernel_rfl) ?_
  intro a0 M0
  repeat refine wp_seq ?_
  refine M0.t [.m 2 [] 0] [(0, (RG.z 4))] [] [(RG.z 4)] [(0, (.v (.slice (some ⟨g, 0, none⟩) 64 64))), (2, (.p 0 0))] ⟨RG.mk 0 47, trivial⟩ ?_
  intro j1 a1 w1 M1
  repeat refine wp_seq ?_
  refine M1.t (FSRd_1 (.slice (some ⟨g, 0, none⟩) 64 64) (redu N bs)) [] [(0, 4, (wn (redu N bs)))] [(wn (redu N bs))] [(2, (.p 0 0))] ⟨RG.cl (Scalars_c), RG.st, RG.clB (fun _ _ => by kernel_rfl) hc, RG.st, RG.pt i40, trivial⟩ ?_
  intro a2 w2 M2
  refine wp_ret ?_
  refine bodyPost_ret (v := (nv (redu N bs))) (RG.results_row M2.st 2 47 rfl 0 _ rfl (M2.at (s := (.p 0 0))) u40 i40) M2.sl.defers ?_
  exact ⟨_, rfl, M2.st.bel.below, rfl⟩
theorem redu_lt (O : Ord N) (bs : Bs) : redu N bs < N := Nat.mod_lt _ O.pos
/-- CHANCE. -/
def chL (N : Nat) (label : List UInt8) (ps : List (List UInt8)) : Nat := redu N (SP.strmL (SP.tagL label ps).toList 64)
theorem made_of {w w' : World} {r : Nat} {T : Bs} (h1 : w.heap.size ≤ r) (h2 : Below w.heap.size w w') (h3 : Holds encB w' r 0 T) (h4 : 0 < T.size) : RG.Made w r (cb T) w' :=
  ⟨h2, h1, Holds.lt h3 h4, (cb_range h3).1, (cb_range h3).2⟩
theorem row_new (w : World) (c : List Value) (T : TypeId) : Row (w.alloc (.cells c.toArray T)) w.heap.size c :=
  have h := RG.Made.alloc w c T
  ⟨h.lt, h.range, h.there⟩
theorem wn_one (n : Nat) : (wn n).toArray.all (·.oneCell') = true := by kernel_rfl
set_option maxHeartbeats 2000000 in
set_option maxRecDepth 100000 in
theorem spread_c (O : Ord N) (r2 : Nat) (T : Bs) (w : World) (hTs : T.size = 32) (hT : Holds encB w r2 0 T) :
    Calls Tryz.prog 50 #[.slice (some ⟨r2, 0, none⟩) 32 32] w (Ret fun e w' => Below w.heap.size w w' ∧ e = nv (redu N (SP.strmL T.toList 64))) := by
  obtain ⟨S, hS⟩ : ∃ S, Hid (SP.strmL T.toList 64 = S) := ⟨_, rfl⟩
  have hSs : S.size = 64 := by rw [← hS.out]; exact SP.strm_size _ _
  rw [hS.out]
  obtain ⟨w1, hw1⟩ : ∃ w1, Hid (w.alloc (.cells #[.int .u64 0, .int .u64 0, .int .u64 0, .int .u64 0] 47) = w1) := ⟨_, rfl⟩
  have K2 : Hid (Row w1 w.heap.size [.int .u64 0, .int .u64 0, .int .u64 0, .int .u64 0] ∧ Below w.heap.size w w1 ∧ Holds encB w1 r2 0 T) := by rw [← hw1.out]; exact ⟨row_new w _ _, below1 w _, Holds.below hT (below1 w _) (Holds.lt hT (by omega))⟩
  clear hT
  go_enter Tryz.func50, Tryz.ntmps50
  go_wp2_with fail
  rw [hw1.out]
  clear hw1
  refine (SP.Stream_yes (some ⟨r2, 0, none⟩) r2 0 32 32 64 T w1 (by decide) hTs (Nat.le_refl _) (by decide) (Or.inr ⟨rfl, K2.out.2.2⟩)).mono ?_
  rintro e w3 ⟨r3, rfl, h1, h2, h3⟩
  rw [hS.out] at h3
  have K3 : Hid (Row w3 w.heap.size [.int .u64 0, .int .u64 0, .int .u64 0, .int .u64 0] ∧ Below w.heap.size w w3 ∧ Holds encB w3 r3 0 S) := ⟨K2.out.1.below h2, K2.out.2.1.trans (h2.mono K2.out.2.1.size), h3⟩
  clear h1 h2 h3 K2
  go_wp2_with fail
  refine (reduced_c O r3 S hSs w3 (Holds.lt K3.out.2.2 (by omega)) K3.out.2.2).mono ?_
  rintro e w4 ⟨v, rfl, hb4, rfl⟩
  have K4 : Hid (Row w4 w.heap.size [.int .u64 0, .int .u64 0, .int .u64 0, .int .u64 0] ∧ Below w.heap.size w w4) := ⟨K3.out.1.below hb4, K3.out.2.1.trans (hb4.mono K3.out.2.1.size)⟩
  clear hb4 K3
  obtain ⟨m, hm⟩ : ∃ m, Hid (redu N S = m) := ⟨_, rfl⟩
  rw [hm.out]
  obtain ⟨w5, hw5⟩ : ∃ w5, Hid (w4.setCells w.heap.size 0 (wn m) = w5) := ⟨_, rfl⟩
  have K5 : Hid (Row w5 w.heap.size (wn m) ∧ Below w.heap.size w w5) := by rw [← hw5.out]; exact ⟨K4.out.1.put rfl, RG.below_setCells (Nat.le_refl _) _ _ _ K4.out.2⟩
  obtain ⟨vm, hvm⟩ : ∃ vm, Hid (nv m = vm) := ⟨_, rfl⟩
  rw [hvm.out]
  go_wp2_with (refine wpList_store_mid rfl 47 _ _ rfl w.heap.size 0 (wn m).toArray ?_ ?_ ?_ ?_ ?_ ?_; rfl; exact hvm.out.symm; exact K4.out.1.2.2; exact i40; exact wn_one m; rw [show (wn m).toArray.toList = wn m from rfl, hw5.out])
  refine bodyPost_ret (results_cell 2 47 rfl K5.out.1 rfl u40 i40) rfl ?_
  exact ⟨_, rfl, K5.out.2, by rw [hm.out]; rfl⟩
end Go.Proofs.YtmepmoalhgehhaaGreatDoor
namespace Go.Proofs.YtmepmoalhgehhaaGreatDoor
open Go.RowKit Go.Sort Go.Deep
variable {N : Nat}
set_option maxRecDepth 100000 in
theorem ofOne_c : Gives 80 #[.int .u64 1] (nv 1) := by
  intro w
  go_enter Tryz.func80, Tryz.ntmps80
  refine RG.M.enter [(0, .v (.int .u64 1))] 6 (by kernel_rfl) ?_
  intro a0 M0
  repeat refine wp_seq ?_
  refine M0.t [.m 2 [] 0] [(0, RG.z 4)] [] [RG.z 4] [(0, .v (.int .u64 1)), (2, .p 0 0)] ⟨RG.mk 0 47, trivial⟩ ?_
  intro k a1 w1 M1
  repeat refine wp_seq ?_
  refine M1.t [.x 3 [] (.int .u64 1), .x 4 [(3, 0)] (nv 1), .x 5 [(4, 1)] (nv 1), .u [(5, 2)] 0] [] [(0, 3, wn 1)] [wn 1] [(2, .p 0 0)] ⟨RG.st, RG.st, RG.st, RG.pt i40, trivial⟩ ?_
  intro a2 w2 M2
  refine wp_ret ?_
  refine bodyPost_ret (v := nv 1) (RG.results_row M2.st 2 47 rfl 0 _ rfl (M2.at (s := (.p 0 0))) u40 i40) M2.sl.defers ?_
  exact ⟨_, rfl, M2.st.bel.below, rfl⟩
/-- A scalar itself, or 1 in place of 0. -/
def orOne (a : Nat) : Nat := if a = 0 then 1 else a
theorem orOne_lt (O : Ord N) {a : Nat} (ha : a < N) : orOne a < N := by
  unfold orOne
  by_cases h : a = 0
  · rw [if_pos h]; have := O.n2; omega
  · rw [if_neg h]; exact ha
set_option maxRecDepth 100000 in
set_option maxHeartbeats 2000000 in
theorem orOne_c (O : Ord N) {a : Nat} (ha : a < N) : Gives 51 #[nv a] (nv (orOne a)) := by
  intro w
  have hat : a < top := Nat.lt_of_lt_of_le ha O.le
  have hq : ∀ w : World, (binOp .eql 47 (nv a) (nv 0)).run Tryz.prog w = .ok (.bool (decide (a = 0))) w := fun w => eqS hat (show 0 < top by unfold top; omega) w
  obtain ⟨d, hd⟩ : ∃ d, Hid (decide (a = 0) = d) := ⟨_, rfl⟩
  rw [hd.out] at hq
  go_enter Tryz.func51, Tryz.ntmps51
  refine RG.M.enter [(0, .v (nv a))] 8 (by kernel_rfl) ?_
  intro a0 M0
  repeat refine wp_seq ?_
  refine M0.t [.m 1 [] 0, .m 2 [] 1] [(0, wn a), (1, RG.z 4)] [] [wn a, RG.z 4] [(1, .p 0 0), (2, .p 1 0)] ⟨RG.mk 0 47, RG.mk 1 47, trivial⟩ ?_
  intro j1 i1 a1 w1 M1
  repeat refine wp_seq ?_
  refine M1.u [.x 3 [] (nv a), .x 4 [] (nv 0), .x 5 [(3, 0), (4, 1)] (.bool d)] [(1, .p 0 0), (2, .p 1 0), (5, .v (.bool d))] ⟨RG.ld u40 i40, RG.st, RG.cert_bin rfl .eql 47 47 3 4 (nv a) (nv 0) (.bool d) rfl rfl RG.sx RG.sx (fun w => by kernel_rfl) hq, trivial⟩ ?_
  intro a2 w2 M2
  cases d with
  | true =>
    refine wp_cond_true M2.ev ?_
    have h0 : a = 0 := of_decide_eq_true hd.out
    have hr : orOne a = 1 := by unfold orOne; rw [if_pos h0]
    rw [hr]
    repeat refine wp_seq ?_
    refine M2.t [.c 6 [] (nv 1), .u [(6, 0)] 1] [] [(1, 1, wn 1)] [wn a, wn 1] [(2, .p 1 0)] ⟨RG.cl ofOne_c, RG.pt i40, trivial⟩ ?_
    intro a3 w3 M3
    refine wp_ret ?_
    refine bodyPost_ret (v := nv 1) (RG.results_row M3.st 2 47 rfl 1 _ rfl (M3.at (s := (.p 1 0))) u40 i40) M3.sl.defers ?_
    exact ⟨_, rfl, M3.st.bel.below, rfl⟩
  | false =>
    refine wp_cond_false M2.ev ?_
    have h0 : ¬ a = 0 := of_decide_eq_false hd.out
    have hr : orOne a = a := by unfold orOne; rw [if_neg h0]
    rw [hr]
    refine wp_skip ?_
    repeat refine wp_seq ?_
    refine M2.t [.x 7 [] (nv a), .u [(7, 0)] 1] [] [(1, 1, wn a)] [wn a, wn a] [(2, .p 1 0)] ⟨RG.ld u40 i40, RG.pt i40, trivial⟩ ?_
    intro a3 w3 M3
    refine wp_ret ?_
    refine bodyPost_ret (v := nv a) (RG.results_row M3.st 2 47 rfl 1 _ rfl (M3.at (s := (.p 1 0))) u40 i40) M3.sl.defers ?_
    exact ⟨_, rfl, M3.st.bel.below, rfl⟩
end Go.Proofs.YtmepmoalhgehhaaGreatDoor
namespace Go.Proofs.YtmepmoalhgehhaaGreatDoor
open Go.RowKit Go.Sort Go.Deep
variable {N : Nat}
/-- The scalar of derived bytes. -/
def kSc (N : Nat) (T : Bs) : Nat := orOne (redu N (SP.strmL T.toList 64))
theorem kSc_lt (O : Ord N) (T : Bs) : kSc N T < N := orOne_lt O (redu_lt O _)
set_option maxHeartbeats 2000000 in
set_option maxRecDepth 100000 in
theorem scalarOf_c (O : Ord N) (r2 : Nat) (T : Bs) (w : World) (hTs : T.size = 32) (hT : Holds encB w r2 0 T) :
    Calls Tryz.prog 26 #[.slice (some ⟨r2, 0, none⟩) 32 32] w (Ret fun e w' => Below w.heap.size w w' ∧ e = nv (kSc N T)) := by
  obtain ⟨w1, hw1⟩ : ∃ w1, Hid (w.alloc (.cells #[.int .u64 0, .int .u64 0, .int .u64 0, .int .u64 0] 47) = w1) := ⟨_, rfl⟩
  have K2 : Hid (Row w1 w.heap.size [.int .u64 0, .int .u64 0, .int .u64 0, .int .u64 0] ∧ Below w.heap.size w w1 ∧ Holds encB w1 r2 0 T) := by rw [← hw1.out]; exact ⟨row_new w _ _, below1 w _, Holds.below hT (below1 w _) (Holds.lt hT (by omega))⟩
  clear hT
  have hlt := redu_lt O (SP.strmL T.toList 64)
  have HO := orOne_c O hlt
  have hS := spread_c O r2 T w1 hTs K2.out.2.2
  have HK : Hid (kSc N T = orOne (redu N (SP.strmL T.toList 64))) := rfl
  generalize redu N (SP.strmL T.toList 64) = m at HO hS HK hlt
  rw [HK.out]
  generalize orOne m = x at HO ⊢
  obtain ⟨vm, hvm⟩ : ∃ vm, Hid (nv m = vm) := ⟨_, rfl⟩
  rw [hvm.out] at HO hS
  go_enter Tryz.func26, Tryz.ntmps26
  go_wp2_with fail
  rw [hw1.out]
  clear hw1
  refine hS.mono ?_
  rintro e w3 ⟨v, rfl, h2, rfl⟩
  have K3 : Hid (Row w3 w.heap.size [.int .u64 0, .int .u64 0, .int .u64 0, .int .u64 0] ∧ Below w.heap.size w w3) := ⟨K2.out.1.below h2, K2.out.2.1.trans (h2.mono K2.out.2.1.size)⟩
  clear h2 K2 hS
  go_wp2_with fail
  refine (HO w3).mono ?_
  rintro e w4 ⟨v, rfl, hb4, rfl⟩
  have K4 : Hid (Row w4 w.heap.size [.int .u64 0, .int .u64 0, .int .u64 0, .int .u64 0] ∧ Below w.heap.size w w4) := ⟨K3.out.1.below hb4, K3.out.2.trans (hb4.mono K3.out.2.size)⟩
  clear hb4 K3 HO
  obtain ⟨w5, hw5⟩ : ∃ w5, Hid (w4.setCells w.heap.size 0 (wn x) = w5) := ⟨_, rfl⟩
  have K5 : Hid (Row w5 w.heap.size (wn x) ∧ Below w.heap.size w w5) := by rw [← hw5.out]; exact ⟨K4.out.1.put rfl, RG.below_setCells (Nat.le_refl _) _ _ _ K4.out.2⟩
  obtain ⟨vx, hvx⟩ : ∃ vx, Hid (nv x = vx) := ⟨_, rfl⟩
  rw [hvx.out]
  go_wp2_with (refine wpList_store_mid rfl 47 _ _ rfl w.heap.size 0 (wn x).toArray ?_ ?_ ?_ ?_ ?_ ?_; rfl; exact hvx.out.symm; exact K4.out.1.2.2; exact i40; exact wn_one x; rw [show (wn x).toArray.toList = wn x from rfl, hw5.out])
  refine bodyPost_ret (results_cell 2 47 rfl K5.out.1 rfl u40 i40) rfl ?_
  exact ⟨_, rfl, K5.out.2, rfl⟩
end Go.Proofs.YtmepmoalhgehhaaGreatDoor
namespace Go.Proofs.YtmepmoalhgehhaaGreatDoor
open Go.RowKit Go.Sort Go.Deep
section
variable {P : Program} {ops : Array Oper} {rest : List Oper} {op : Oper} {a : Act} {w w' : World} {v : Value} {Q : Exit → Act → World → Prop}
theorem wpList_op (hgd : op.guard = none) (X : Op) (_ : op.op = X) (hr : (execOp a.eval op).run P w = .ok (.value v) w') (h : wpList P ops Q rest (a.put op.dst v) w') : wpList P ops Q (op :: rest) a w :=
  wpList_plain hgd fun K hK => by
    unfold Oper.wp
    rw [hr]
    exact hK _ _ h
end
variable {N : Nat}
theorem Row.only {W W' : World} {k b o n : Nat} {vs : List Value} (h : Row W k vs) (hO : SP.Only b o n W W') (hne : k ≠ b) : Row W' k vs := by
  refine ⟨Nat.lt_of_lt_of_le h.1 hO.size, fun j v hj => ?_, fun j hj => ?_⟩
  · rw [(hO.other (c := k) (o := 0 + j) hne h.1).1]; exact h.2.1 j v hj
  · have h1 := h.2.2 j hj
    have h2 := hO.other (c := k) (o := 0 + j) hne h.1
    exact ⟨by rw [h2.1]; exact h1.1, by rw [h2.2]; exact h1.2⟩
/-- A row that is new may be written. -/
theorem only_setCells {w W : World} {y o n k : Nat} {vs : List Value} (h : SP.Only y o n w W) (hy : y < w.heap.size) (hk : w.heap.size ≤ k) (q : Nat) : SP.Only y o n w (W.setCells k q vs) :=
  have hb : Below w.heap.size W (W.setCells k q vs) := RG.below_setCells hk _ _ _ (Below.refl _ _)
  ⟨hb.os.trans h.os, hb.tape.trans h.tape, hb.output.trans h.output, Nat.le_trans h.size hb.size, fun j hj hne => (hb.block j hj).trans (h.block j hj hne), fun p hp => (World.cell?_of_block (a := ⟨y, p, none⟩) (hb.block y hy)).trans (h.cell p hp), fun p => (World.frozen?_of_block (a := ⟨y, p, none⟩) (hb.block y hy)).trans (h.froz p)⟩
theorem Hid.mk' {p : Prop} (h : p) : Hid p := h
/-- What a log is asked. -/
def cha (N : Nat) (L : Bs) : Nat := redu N (SP.askL L [99, 104, 97, 108, 108, 101, 110, 103, 101] 64)
end Go.Proofs.YtmepmoalhgehhaaGreatDoor
namespace Go.Proofs.YtmepmoalhgehhaaGreatDoor.SP
open Go.RowKit Go.Sort Go.Deep
/-- The reference's log: one cell, a string. -/
def RLog (w : World) (y : Nat) (L : Bs) : Prop := w.cell? ⟨y, 0, none⟩ = some (.string ⟨L⟩) ∧ w.frozen? ⟨y, 0, none⟩ = false
theorem strs_new (W : World) (vs : Array Value) (ps : List ByteArray) (t : TypeId) (hl : vs.size = ps.length) (h : ∀ j, j < ps.length → vs[j]! = .string ps[j]!) :
    ∀ j, j < ps.length → (W.alloc (.cells vs t)).cell? ⟨W.heap.size, 0 + j, none⟩ = some (.string ps[j]!) := by
  intro j hj
  have e0 : vs.map encV = vs := by
    have : encV = id := rfl
    rw [this, Array.map_id]
  have := (Holds.new (enc := encV) W t vs j (by omega)).1
  rw [e0, h j hj] at this
  exact this
theorem frames_small (label : List UInt8) (ps : List (List UInt8)) (M : Nat) (hl : label.length ≤ M) (hp : ∀ p ∈ ps, p.length ≤ M) : (framesL label ps).length ≤ (ps.length + 1) * (M + 4) := by
  unfold framesL
  rw [List.length_append, frameL_length]
  have : (ps.flatMap frameL).length ≤ ps.length * (M + 4) := by
    induction ps with
    | nil => simp
    | cons p ps ih =>
      rw [List.flatMap_cons, List.length_append, frameL_length, List.length_cons, Nat.succ_mul]
      have h1 := hp p (List.mem_cons_self ..)
      have h2 := ih (fun q hq => hp q (List.mem_cons_of_mem _ hq))
      omega
  rw [Nat.succ_mul]
  omega
theorem refTag_new (lab : ByteArray) (vs : Array Value) (ps : List ByteArray) (n : Nat) (W : World) (hn : ps.length = n) (hv : vs.size = ps.length) (h : ∀ j, j < ps.length → vs[j]! = .string ps[j]!) (hlab : lab.size ≤ 16384) (h64 : n ≤ 8) (hs : ∀ p ∈ ps, p.size ≤ 16384) :
    Calls Tryz.prog 25 #[.string lab, .slice (some ⟨W.heap.size, 0, none⟩) n n] (W.alloc (.cells vs 9)) fun e w' => e = .returned (.string ⟨tagL lab.data.toList (ps.map fun s => s.data.toList)⟩) ∧ Below (W.alloc (.cells vs 9)).heap.size (W.alloc (.cells vs 9)) w' := by
  subst hn
  refine refTag_any lab (some ⟨W.heap.size, 0, none⟩) ps.length ps (W.alloc (.cells vs 9)) (by omega) (by omega) (Or.inr ⟨W.heap.size, 0, rfl, strs_new W vs ps 9 hv h⟩) (fun j hj => ?_) ?_
  · rw [getElem!_pos ps j hj]
    have := hs _ (List.getElem_mem hj)
    omega
  · have := frames_small lab.data.toList (ps.map fun s => s.data.toList) 16384 (by rw [Array.length_toList]; exact hlab) (fun p hp => by
      obtain ⟨s, h1, rfl⟩ := List.mem_map.1 hp
      rw [Array.length_toList]
      exact hs s h1)
    rw [List.length_map] at this
    have h2 : (ps.length + 1) * (16384 + 4) ≤ 9 * (16384 + 4) := Nat.mul_le_mul_right _ (by omega)
    omega
theorem rlog_new (w : World) (t : TypeId) (N : Bs) : RLog (w.alloc (.cells #[.string ⟨N⟩] t)) w.heap.size N := by
  have := Holds.new (enc := encV) w t #[.string ⟨N⟩] 0 (by simp)
  have e0 : (#[Value.string ⟨N⟩]).map encV = #[Value.string ⟨N⟩] := by
    have : encV = id := rfl
    rw [this, Array.map_id]
  rw [e0] at this
  exact ⟨this.1, this.2⟩
theorem RLog.lt {w : World} {y : Nat} {L : Bs} (h : RLog w y L) : y < w.heap.size := World.block_lt_of_cell? _ _ h.1
theorem RLog.below {w w1 : World} {y : Nat} {L : Bs} (h : RLog w y L) (k : Below w.heap.size w w1) : RLog w1 y L := by
  have h2 := (Only.of_below (b := w.heap.size) (off := 0) (n := 0) (B := w.heap.size) k rfl)
  have hy := h.lt
  have e := k.block y hy
  unfold RLog World.cell? World.frozen? at *
  simp only at *
  rw [e]
  exact h
theorem RLog.other {w w1 : World} {y b o n : Nat} {L : Bs} (h : RLog w y L) (k : Only b o n w w1) (hy : y ≠ b) : RLog w1 y L := by
  have := k.other (c := y) (o := 0) hy h.lt
  exact ⟨by rw [this.1]; exact h.1, by rw [this.2]; exact h.2⟩
theorem RLog.set {w : World} {y : Nat} {L : Bs} (h : RLog w y L) (M : Bs) : RLog (w.setCell ⟨y, 0, none⟩ (.string ⟨M⟩)) y M := by
  have h1 : Holds encV w y 0 #[.string ⟨L⟩] := by
    intro j hj
    have hj0 : j = 0 := by simpa using hj
    subst hj0
    exact ⟨h.1, h.2⟩
  have := Holds.set h1 (i := 0) (by simp) (.string ⟨M⟩)
  have h2 := this 0 (by simp)
  simp only [Nat.add_zero] at h2
  exact ⟨by simpa [encV] using h2.1, h2.2⟩
/-- Two parts: the log and a label. -/
theorem refTag2 (lab : ByteArray) (hlab : lab.size ≤ 16384) (L : Bs) (hl : L.size = 32) (label : ByteArray) (hs : label.size ≤ 16384) (w : World) :
    Calls Tryz.prog 25 #[.string lab, .slice (some ⟨w.heap.size, 0, none⟩) 2 2] (w.alloc (.cells #[.string ⟨L⟩, .string label] 9)) fun e w' => e = .returned (.string ⟨tagL lab.data.toList [L.toList, label.data.toList]⟩) ∧ Below (w.alloc (.cells #[.string ⟨L⟩, .string label] 9)).heap.size (w.alloc (.cells #[.string ⟨L⟩, .string label] 9)) w' :=
  refTag_new lab #[.string ⟨L⟩, .string label] [⟨L⟩, label] 2 w rfl rfl (fun j hj => by
    have hj3 : j < 2 := hj
    match j, hj3 with
    | 0, _ => rfl
    | 1, _ => rfl) hlab (by decide) (fun p hp => by
    simp only [List.mem_cons, List.not_mem_nil, or_false] at hp
    rcases hp with rfl | rfl
    · show L.size ≤ 16384; omega
    · exact hs)
end Go.Proofs.YtmepmoalhgehhaaGreatDoor.SP
